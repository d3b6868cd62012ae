import Derived.Test.YtlpejbbmemhloaaGreatDoorJtC
import Derived.Test.YtlpejbbmemhloaaGreatDoorGb2
import Derived.Test.YtlpejbbmemhloaaGreatDoorGb3
import Derived.Test.YtlpejbbmemhloaaGreatDoorGw1Asks
import Derived.Test.YtlpejbbmemhloaaGreatDoorGb4
set_option maxRecDepth 100000
namespace Go.Proofs.YtlpejbbmemhloaaGreatDoor
theorem Gw2Asksa {α:Type}(l:List α)(i:Nat)(x:α):l.toArray.setIfInBounds i x=(l.set i x).toArray:=List.setIfInBounds_toArray ..
theorem Gw2Asksb {α:Type}{a b:α}{l:List α}:(a::l).set 0 b=b::l:=List.set_cons_zero
theorem Gw2Asksc {α:Type}{a b:α}{l:List α}{n:Nat}:(a::l).set (n+1) b=a::l.set n b:=List.set_cons_succ
end Go.Proofs.YtlpejbbmemhloaaGreatDoor
namespace Go.Proofs.YtlpejbbmemhloaaGreatDoor.Hp
open Lib (hid)
set_option linter.unusedVariables false
set_option linter.unusedSimpArgs false
set_option maxRecDepth 100000
open Go.ChangeShapes Go.WideShapes Go.ChangeAt Go.RowKit
open Ar Nd
open BigFrame
def fndI (L:List Ce) (num:Nat):Int:=match L.findIdx? fun c=>decide (c.num=num) with | some i=>(i:Int) | none=>-1
theorem fndI_some {L:List Ce}{num i:Nat}{c:Ce}(hc:L[i]?=some c) (hn:c.num=num) (h:∀ (j:Nat) (x:Ce),j<i→L[j]?=some x→x.num≠num):fndI L num=i:=by
 obtain⟨hi,e⟩:=List.getElem?_eq_some_iff.1 hc
 unfold fndI
 rw [List.findIdx?_eq_some_iff_getElem.2 ⟨hi,by rw [e];exact decide_eq_true hn,fun j hj=>by
  have:=h j _ hj (List.getElem?_eq_getElem (Nat.lt_trans hj hi))
  simpa using this⟩]
theorem fndI_none {L:List Ce}{num:Nat}(h:∀ j x,j<L.length→L[j]?=some x→x.num≠num):fndI L num=-1:=by
 unfold fndI
 rw [List.findIdx?_eq_none_iff.2 fun x hx=>by
  obtain⟨j,hj⟩:=List.getElem?_of_mem hx
  have:=h j x (List.getElem?_eq_some_iff.1 hj).1 hj
  simpa using this]
theorem fndI_cases (L:List Ce) (num:Nat):(∃ (i:Nat) (c:Ce),fndI L num=(i:Int)∧L[i]?=some c∧c.num=num∧fndL L num=some c∧∀ (j:Nat) (x:Ce),j<i→L[j]?=some x→x.num≠num)∨(fndI L num=-1∧fndL L num=none∧∀ c∈L,c.num≠num):=by
 cases h:L.findIdx? fun c=>decide (c.num=num) with
 | some i =>
  obtain⟨hi,h1,h2⟩:=List.findIdx?_eq_some_iff_getElem.1 h
  refine .inl ⟨i,L[i],by unfold fndI;rw [h],List.getElem?_eq_getElem hi,of_decide_eq_true h1,?_,fun j x hj hx=>?_⟩
  ·unfold fndL
   rw [List.find?_eq_some_iff_getElem]
   exact⟨h1,i,hi,rfl,fun j hj=>by simpa using h2 j hj⟩
  ·have:=h2 j hj
   rw [(List.getElem?_eq_some_iff.1 hx).2] at this
   simpa using this
 | none =>
  rw [List.findIdx?_eq_none_iff] at h
  refine .inr ⟨by unfold fndI;rw [List.findIdx?_eq_none_iff.2 h],?_,fun c hc=>by simpa using h c hc⟩
  unfold fndL
  rw [List.find?_eq_none]
  intro x hx
  simpa using h x hx
set_option maxHeartbeats 4000000 in
theorem find_R {w:World}(L:List Ce) (A:Option Addr) (n cap num:Nat) (hn:n=L.length) (hm:n≤4398046511104){B:Nat}(hB0:B≤w.heap.size) (hD:Ls ecC 3 w B A L) :
  Calls Tryz.prog 35 #[.slice A n cap,.int .u32 num] w fun e w'=>e=.returned (.int .i64 (fndI L num))∧Below w.heap.size w w':=by
 have HN:=hid hn
 have HD:=hid hD
 have HL:=hid hB0
 clear hn hD hB0
 go_enter Tryz.func35,Tryz.ntmps35
 go_wp2_with fail
 go_loopw [9] (fun v wr=>∃ i:Nat,i≤n∧v=.int .i64 i∧Hid (∀ j x,j<i→L[j]?=some x→x.num≠num)∧Hid (Below w.heap.size w wr)) (fun v _=>n-(intOf v).toNat)
 case atStart=>exact⟨0,Nat.zero_le _,by go_num,fun j x hj=>absurd hj (Nat.not_lt_zero _),Below.refl _ _⟩
 case round =>
  obtain⟨i,hi,rfl,hM,hB⟩:=hrel
  have HM:=hid (Hid.out hM)
  have HB:=hid (Hid.out hB)
  clear hM hB
  by_cases hlt:i<n
  ·obtain⟨c,hx⟩:∃ c,L[i]?=some c:=⟨_,List.getElem?_eq_getElem (by rw [← HN.out];exact hlt)⟩
   obtain⟨b,o,hAe,hbs,hr⟩:=HD.out i c hx
   have HRG:=hid (show wr.rangeAt b (o+i*3) [.int .u32 c.num,.string c.d,.int .i64 c.r] from range_below hr HB.out (Nat.lt_of_lt_of_le hbs HL.out))
   have HX:=hid hx
   have HB1:=hid (HB.out.trans (((Below.refl wr.heap.size wr).alloc (Nat.le_refl _) (.cells #[.int .u32 c.num,.string c.d,.int .i64 c.r] 75)).mono HB.out.size))
   clear hr hx hbs
   subst hAe
   by_cases he:c.num=num
   ·have HF:=hid (fndI_some HX.out he HM.out)
    have hq:((c.num:Int)==(num:Int))=true:=by rw [beq_iff_eq];omega
    clear he
    go_wp2_with (refine wpList_load_at rfl 75 (.tmp 12) rfl b (o+i*3) rfl [.int .u32 c.num,.string c.d,.int .i64 c.r] _ HRG.out Tryz.underlying75 rfl infoC ?_)
    go_ret
    refine⟨?_,HB1.out⟩
    rw [HF.out]
    rfl
   ·have HMN:=hid (show ∀ j x,j<i+1→L[j]?=some x→x.num≠num from fun j x hj hx=>by
     rcases Nat.lt_or_ge j i with h | h
     ·exact HM.out j x h hx
     ·have hji:j=i:=by omega
      subst hji
      rw [HX.out] at hx
      cases hx
      exact he)
    have hq:((c.num:Int)==(num:Int))=false:=by rw [beq_eq_false_iff_ne];omega
    clear he
    go_wp2_with (refine wpList_load_at rfl 75 (.tmp 12) rfl b (o+i*3) rfl [.int .u32 c.num,.string c.d,.int .i64 c.r] _ HRG.out Tryz.underlying75 rfl infoC ?_)
    exact⟨⟨i+1,by omega,by go_num,HMN.out,HB1.out⟩,by simp [intOf]<;>omega⟩
  ·have hin:i=n:=by omega
   have HF:=hid (show fndI L num=-1 from fndI_none fun j x hj hx=>HM.out j x (by have:=HN.out;omega) hx)
   clear hin
   go_wp2
   go_ret
   refine⟨?_,HB.out⟩
   rw [HF.out]
   rfl
end Go.Proofs.YtlpejbbmemhloaaGreatDoor.Hp
namespace Go.Proofs.YtlpejbbmemhloaaGreatDoor.It
open Lib (hid)
set_option linter.unusedVariables false
open Go.ChangeShapes Go.WideShapes Go.ChangeAt Go.RowKit
open Ar Rg St
theorem refKey_any (k:ByteArray) (w:World) :
  Calls Tryz.prog 155 #[.string k] w fun e w'=>e=.returned (.bool (okKey k))∧w=w':=by
 by_cases h0:k.size=0
 ·have e0:okKey k=false:=by simp [okKey,h0]
  have hk:k={ data:=#[] }:=by
   obtain⟨d⟩:=k
   congr
   exact Array.eq_empty_of_size_eq_zero h0
  rw [e0]
  subst hk
  go_enter Tryz.func155,Tryz.ntmps155
  go_wp2_with fail
  go_ret
  exact⟨rfl,rfl⟩
 ·have hk:k.toList.isEmpty=false:=by
   rw [Bool.eq_false_iff]
   intro h
   have h2:k.toList=[]:=List.isEmpty_iff.1 h
   rw [ByteArray.toList_eq] at h2
   have h3:k.data.size=0:=by rw [← Array.length_toList,h2];rfl
   exact h0 h3
  have e0:okKey k=decide ((k.size:Int)≤48):=by
   unfold okKey
   rw [decide_eq_true (show k.size≠0 from h0),Bool.true_and]
   exact decide_eq_decide.2 (by omega)
  rw [e0]
  go_enter Tryz.func155,Tryz.ntmps155
  go_wp2_with fail
  go_ret
  exact⟨rfl,rfl⟩
theorem refKey_at (k:ByteArray) (w:World):Calls Tryz.prog 155 #[.string k] w fun e w'=>e=.returned (.bool (okKey k))∧w'=w:=(refKey_any k w).mono fun e w' h=>⟨h.1,h.2.symm⟩
open BigFrame
set_option maxRecDepth 100000 in
set_option maxHeartbeats 1000000 in
theorem refCheck_any (D:List Itm) (A:Option Addr) (n cap B:Nat) (hn:n=D.length) (hm:n≤281474976710656) (w:World) (hB:B≤w.heap.size) (hD:Ls enc 2 w B A D) :
  Calls Tryz.prog 125 #[.slice A n cap] w fun e w'=>e=.returned (errF (rt D))∧Below w.heap.size w w':=by
 have HN:=hid hn
 have HD:=hid hD
 clear hn hD
 go_enter Tryz.func125,Tryz.ntmps125
 go_wp2_with fail
 go_loopw [7] (fun v wr=>∃ i:Nat,i≤n∧v=.int .i64 i∧Hid (RtAt D i)∧Hid (Below w.heap.size w wr)) (fun v _=>n-(intOf v).toNat)
 case atStart=>exact⟨0,Nat.zero_le _,by go_num,RtAt.zero D,Below.refl _ _⟩
 case round =>
  obtain⟨i,hi,rfl,hrt,hbel⟩:=hrel
  by_cases hlt:i<n
  ·obtain⟨x,hx⟩:∃ x,D[i]?=some x:=⟨_,List.getElem?_eq_getElem (by rw [← HN.out];exact hlt)⟩
   have hL:=HD.out.below ((Hid.out hbel).mono hB)
   obtain⟨b,o,hAe,hb,hr⟩:=hL i x hx
   have hbs:b<wr.heap.size:=Nat.lt_of_lt_of_le hb (Nat.le_trans hB (Hid.out hbel).size)
   have hc0:wr.cell? ⟨b,o+i*2,none⟩=some (.string x.k):=hr 0 _ rfl
   have hc1:wr.cell? ⟨b,o+i*2+1,none⟩=some (.string x.v):=hr 1 _ rfl
   have HL:=hid hL
   clear hL hr
   subst hAe
   have HBN:=hid (show Below w.heap.size w (wr.alloc (.cells #[.string x.k,.string x.v] 63)) from (Hid.out hbel).alloc (Hid.out hbel).size _)
   have hcx:(wr.alloc (.cells #[.string x.k,.string x.v] 63)).cell? ⟨wr.heap.size,0,none⟩=some (.string x.k):=by simp
   have hcv:(wr.alloc (.cells #[.string x.k,.string x.v] 63)).cell? ⟨wr.heap.size,1,none⟩=some (.string x.v):=by simp
   have hqc:=refKey_at x.k
   go_wp2_with fail
   by_cases hok:okI x=true
   ·have hq1:okKey x.k=true:=by simp [okI] at hok;exact hok.1
    have hv:x.v.size≤160:=by simp [okI] at hok;exact hok.2
    have hv1:decide ((160:Int)<(x.v.size:Int))=false:=by rw [decide_eq_false_iff_not];omega
    rw [hq1] at hqc
    have HQC:=hid hqc
    clear hqc hq1 hv
    by_cases hi0:i=0
    ·subst hi0
     have HRT:=hid ((Hid.out hrt).first hx hok)
     clear hrt hx hi hok
     generalize wr.alloc _=W1 at *
     go_big_quiet ((go_at_call 155;exact Calls.quiet_of_same (HQC.out _)))
     have HB2:=hid (below_drewN HBN.out nq)
     clear HBN hbel
     generalize World.drewN _ _=W2 at *
     go_wp2
     exact⟨⟨1,by omega,by go_num,HRT.out,HB2.out⟩,by simp [intOf]<;>omega⟩
    ·obtain⟨k,hk⟩:∃ k,i=k+1:=⟨i-1,by omega⟩
     have hk1:(i:Int)-1=(k:Int):=by omega
     have hk2:decide ((0:Int)<(i:Int))=true:=by rw [decide_eq_true_iff];omega
     have hk3:(k:Int)<(n:Int):=by omega
     obtain⟨y,hy⟩:∃ y,D[k]?=some y:=⟨_,List.getElem?_eq_getElem (by rw [← HN.out];omega)⟩
     obtain⟨b2,o2,hAe,hb2,hr⟩:=HL.out k y hy
     cases hAe
     have hcy:(wr.alloc (.cells #[.string x.k,.string x.v] 63)).cell? ⟨b,o+k*2,none⟩=some (.string y.k):=by
      rw [World.cell?_alloc_lt _ _ _ hbs]
      exact hr 0 _ rfl
     subst hk
     clear hr
     by_cases hl:By.bl (key y) (key x)=true
     ·have hl1:Op.bytesLess y.k.toList x.k.toList=true:=by rw [ByteArray.toList_eq,ByteArray.toList_eq];exact hl
      have HRT:=hid ((Hid.out hrt).more hy hx hok hl)
      clear hrt hx hy hl hok
      generalize wr.alloc _=W1 at *
      go_big_quiet ((go_at_call 155;exact Calls.quiet_of_same (HQC.out _)))
      have HB2:=hid (below_drewN HBN.out nq)
      clear HBN hbel
      generalize World.drewN _ _=W2 at *
      go_wp2
      exact⟨⟨k+2,by omega,by go_num,HRT.out,HB2.out⟩,by simp [intOf]<;>omega⟩
     ·have hl0:By.bl (key y) (key x)=false:=by simpa using hl
      have hl1:Op.bytesLess y.k.toList x.k.toList=false:=by rw [ByteArray.toList_eq,ByteArray.toList_eq];exact hl0
      have HRT:=hid ((Hid.out hrt).down hy hx hl0)
      clear hrt hx hy hl hl0 hok
      generalize wr.alloc _=W1 at *
      go_big_quiet ((go_at_call 155;exact Calls.quiet_of_same (HQC.out _)))
      have HB2:=hid (below_drewN HBN.out nq)
      clear HBN hbel
      generalize World.drewN _ _=W2 at *
      go_wp2
      go_ret
      exact⟨by rw [HRT.out];rfl,HB2.out⟩
   ·have hok1:okI x=false:=by simpa using hok
    have HF:=hid ((Hid.out hrt).bad hx hok1)
    by_cases hq1:okKey x.k=true
    ·have hv:¬ x.v.size≤160:=by
      intro h
      rw [okI,hq1,decide_eq_true h] at hok1
      cases hok1
     have hv1:decide ((160:Int)<(x.v.size:Int))=true:=by rw [decide_eq_true_iff];omega
     rw [hq1] at hqc
     have HQC:=hid hqc
     clear hqc hq1 hv hok hok1 hrt hx
     generalize wr.alloc _=W1 at *
     go_big_quiet ((go_at_call 155;exact Calls.quiet_of_same (HQC.out _)))
     have HB2:=hid (below_drewN HBN.out nq)
     clear HBN hbel
     generalize World.drewN _ _=W2 at *
     go_wp2
     go_ret
     exact⟨by rw [HF.out];rfl,HB2.out⟩
    ·have hq1:okKey x.k=false:=by simpa using hq1
     rw [hq1] at hqc
     have HQC:=hid hqc
     clear hqc hq1 hok hok1 hrt hx
     generalize wr.alloc _=W1 at *
     go_big_quiet ((go_at_call 155;exact Calls.quiet_of_same (HQC.out _)))
     have HB2:=hid (below_drewN HBN.out nq)
     clear HBN hbel
     generalize World.drewN _ _=W2 at *
     go_wp2
     go_ret
     exact⟨by rw [HF.out];rfl,HB2.out⟩
  ·have HF:=hid ((Hid.out hrt).last (by rw [← HN.out];omega))
   go_wp2
   go_ret
   exact⟨by rw [HF.out];rfl,Hid.out hbel⟩
end Go.Proofs.YtlpejbbmemhloaaGreatDoor.It
namespace Go.Proofs.YtlpejbbmemhloaaGreatDoor.Nd
open Lib (hid)
set_option linter.unusedVariables false
set_option linter.unusedSimpArgs false
open Go.ChangeShapes Go.WideShapes Go.ChangeAt Go.RowKit
open Ar Rg
open BigFrame
theorem sum_few {α:Type}(f:α→Nat) (b:Nat):∀ l:List α,(∀ x∈l,f x≤b)→(l.map f).sum≤l.length*b
 | [],_=>Nat.zero_le _
 | x::l,h=>by
  have h1:=h x (List.mem_cons_self ..)
  have h2:=sum_few f b l fun y hy=>h y (List.mem_cons_of_mem _ hy)
  rw [List.map_cons,List.sum_cons,List.length_cons,Nat.succ_mul]
  omega
theorem few_sz {n:Nd}(h:Few n):szN n≤100000:=by
 obtain⟨hI,hK,hV⟩:=h
 unfold szN
 split
 ·obtain⟨h1,h2⟩:=hI (by assumption)
  have:=sum_few szI 210 n.I fun x hx=>by have:=h2 x hx;unfold szI;omega
  have:n.I.length*210≤255*210:=Nat.mul_le_mul_right _ h1
  omega
 ·split
  ·obtain⟨h1,h2⟩:=hK (by assumption)
   have:=sum_few szK 85 n.K fun x hx=>by have:=h2 x hx;unfold szK;omega
   have:n.K.length*85≤255*85:=Nat.mul_le_mul_right _ h1
   omega
  ·split
   ·obtain⟨h1,h2⟩:=hV (by assumption)
    have:=sum_few szV 79 n.V fun x hx=>by have:=h2 x hx;unfold szV;omega
    have:n.V.length*79≤6*79:=Nat.mul_le_mul_right _ h1
    omega
   ·omega
theorem ck_of (n:Nd):(rtN n=false→ckN n=4)∧(rtN n=true→¬ 508<szN n→ckN n=0)∧(rtN n=true→508<szN n→ckN n=2):=by
 unfold ckN
 refine⟨fun h=>by rw [h];rfl,fun h h2=>?_,fun h h2=>?_⟩
 ·rw [if_pos h,if_neg h2]
 ·rw [if_pos h,if_pos h2]
theorem infoR:(Tryz.prog.info? 31).map (·.size)=some 4:=by kernel_rfl
set_option maxRecDepth 100000 in
set_option maxHeartbeats 8000000 in
theorem rcheckN_any (n:Nd) (hw:Wd n) (cs:Array Value) (w:World) (hn:NdAt w cs n) :
  Calls Tryz.prog 96 #[.agg cs] w fun e w'=>e=.returned (.int .i64 (ckN n))∧Below w.heap.size w w':=by
 have HNA:=hid hn
 obtain⟨AI,nI,cI,AK,nK,cK,AV,nV,cV,rfl,hI,hK,hV,bI,bK,bV,lI,lK,lV⟩:=hn
 have HSZ0:=hid (fun (w':World) (hb:Below w.heap.size w w')=>sizeR_any n _ w' (HNA.out.below hb))
 have HSM0:=hid (fun h:rtN n=true=>few_sz (rt_few h))
 have HCK0:=hid (ck_of n)
 have hwK:=hw.K
 have hwV:=hw.V
 obtain⟨kd,I,K,V⟩:=n
 dsimp only at hI hK hV lI lK lV hwK hwV
 obtain⟨Z,hZ⟩:∃ Z,szN ⟨kd,I,K,V⟩=Z:=⟨_,rfl⟩
 rw [hZ] at HSZ0 HSM0 HCK0
 have HSZ:=HSZ0
 have HSM:=HSM0
 have HCK:=HCK0
 clear hZ HSZ0 HSM0 HCK0
 have HB0:=hid (show Below w.heap.size w (w.alloc (.cells #[.int .u8 (kd:Int),.slice AI nI cI,.slice AK nK cK,.slice AV nV cV] 31)) from (Below.refl _ _).alloc (Nat.le_refl _) _)
 have HR0:=hid (heap_alloc_new w (.cells #[.int .u8 (kd:Int),.slice AI nI cI,.slice AK nK cK,.slice AV nV cV] 31))
 have CI:=hid (fun (w':World) (hb:Below w.heap.size w w')=>It.refCheck_any I AI nI cI w.heap.size hI bI w' hb.size (lI.below hb))
 have CK:=hid (fun (w':World) (hb:Below w.heap.size w w')=>refKids_any K (fun x hx=>(hwK x hx).2) AK nK cK w.heap.size hK bK w' hb.size (lK.below hb))
 have CV:=hid (fun (w':World) (hb:Below w.heap.size w w')=>refVolumes_any V (fun x hx=>(hwV x hx).2.2.2) AV nV cV w.heap.size hV bV w' hb.size (lV.below hb))
 unfold It.errF at CI
 by_cases k1:kd=1
 ·have q1:((kd:Int)==1)=true:=by rw [k1];rfl
  have hE:rtN ⟨kd,I,K,V⟩=(decide (nK=0)&&(decide (nV=0)&&((decide (1≤nI)&&decide (nI≤255))&&It.rt I))):=by unfold rtN okCount;rw [if_pos k1,hI,hK,hV]
  clear k1 CK CV lI lK lV hwK hwV hI hK hV HNA
  have hw2:IntKind.i64.wrap ((nK:Int)+(nV:Int))=(nK:Int)+(nV:Int):=IntWalk.i64_in _ ⟨by omega,by omega⟩
  by_cases hs:nK+nV=0
  ·have hz:((nK:Int)+(nV:Int)==0)=true:=by rw [beq_iff_eq];omega
   by_cases h0:1≤nI
   ·have d1:decide ((1:Int)≤(nI:Int))=true:=by simp;omega
    by_cases h2:nI≤255
    ·have d2:decide ((nI:Int)≤255)=true:=by simp;omega
     cases hr:It.rt I
     ·rw [hr] at CI
      have HF:=hid (HCK.out.1 (by rw [hE,hr];simp))
      rw [HF.out]
      clear HF HCK HSM HSZ
      go_enter Tryz.func96,Tryz.ntmps96
      go_wp2_with fail
      generalize w.alloc _=w0 at *
      refine (CI.out w0 HB0.out).mono ?_
      rintro e w1 ⟨rfl,hb⟩
      have HB1:=hid (HB0.out.trans (hb.mono HB0.out.size))
      have HR1:=hid ((hb.block _ (row_lt HR0.out)).trans HR0.out)
      clear hb HB0 HR0
      go_wp2
      go_ret
      exact⟨rfl,HB1.out⟩
     ·rw [hr] at CI
      have hok:rtN ⟨kd,I,K,V⟩=true:=by rw [hE,hr];simp;omega
      have hsm:=HSM.out hok
      have HW:=hid (w6_in (by omega):w6 ((Z:Nat):Int)=(Z:Int))
      rw [HW.out] at HSZ
      by_cases h5:508<Z
      ·have HF:=hid (HCK.out.2.2 hok h5)
       have d:decide ((508:Int)<(Z:Int))=true:=by simp;omega
       rw [HF.out]
       clear HF h5 HCK HSM hok hsm HW
       go_enter Tryz.func96,Tryz.ntmps96
       go_wp2_with fail
       generalize w.alloc _=w0 at *
       refine (CI.out w0 HB0.out).mono ?_
       rintro e w1 ⟨rfl,hb⟩
       have HB1:=hid (HB0.out.trans (hb.mono HB0.out.size))
       have HR1:=hid ((hb.block _ (row_lt HR0.out)).trans HR0.out)
       clear hb HB0 HR0
       go_wp2_with (refine wpList_load_row rfl 31 (.tmp 1) rfl w.heap.size rfl 31 _ (0,0) _ HR1.out Tryz.underlying31 rfl infoR ?_)
       refine (HSZ.out w1 HB1.out).mono ?_
       rintro e w2 ⟨rfl,hb⟩
       have HB2:=hid (HB1.out.trans (hb.mono HB1.out.size))
       clear hb HB1
       go_wp2
       go_ret
       exact⟨rfl,HB2.out⟩
      ·have HF:=hid (HCK.out.2.1 hok h5)
       have d:decide ((508:Int)<(Z:Int))=false:=by simp;omega
       rw [HF.out]
       clear HF h5 HCK HSM hok hsm HW
       go_enter Tryz.func96,Tryz.ntmps96
       go_wp2_with fail
       generalize w.alloc _=w0 at *
       refine (CI.out w0 HB0.out).mono ?_
       rintro e w1 ⟨rfl,hb⟩
       have HB1:=hid (HB0.out.trans (hb.mono HB0.out.size))
       have HR1:=hid ((hb.block _ (row_lt HR0.out)).trans HR0.out)
       clear hb HB0 HR0
       go_wp2_with (refine wpList_load_row rfl 31 (.tmp 1) rfl w.heap.size rfl 31 _ (0,0) _ HR1.out Tryz.underlying31 rfl infoR ?_)
       refine (HSZ.out w1 HB1.out).mono ?_
       rintro e w2 ⟨rfl,hb⟩
       have HB2:=hid (HB1.out.trans (hb.mono HB1.out.size))
       clear hb HB1
       go_wp2
       go_ret
       exact⟨rfl,HB2.out⟩
    ·have d2:decide ((nI:Int)≤255)=false:=by simp;omega
     have HF:=hid (HCK.out.1 (by rw [hE];simp;omega))
     rw [HF.out]
     clear HF HCK HSM HSZ
     go_enter Tryz.func96,Tryz.ntmps96
     go_wp2
     go_ret
     exact⟨rfl,HB0.out⟩
   ·have d1:decide ((1:Int)≤(nI:Int))=false:=by simp;omega
    have HF:=hid (HCK.out.1 (by rw [hE];simp;omega))
    rw [HF.out]
    clear HF HCK HSM HSZ
    go_enter Tryz.func96,Tryz.ntmps96
    go_wp2
    go_ret
    exact⟨rfl,HB0.out⟩
  ·have hz:((nK:Int)+(nV:Int)==0)=false:=by rw [beq_eq_false_iff_ne];omega
   have HF:=hid (HCK.out.1 (by rw [hE];simp;omega))
   rw [HF.out]
   clear HF HCK HSM HSZ
   go_enter Tryz.func96,Tryz.ntmps96
   go_wp2
   go_ret
   exact⟨rfl,HB0.out⟩
 have q1:((kd:Int)==1)=false:=by rw [beq_eq_false_iff_ne];omega
 by_cases k2:kd=2
 ·have q2:((kd:Int)==2)=true:=by rw [k2];rfl
  have hE:rtN ⟨kd,I,K,V⟩=(decide (nI=0)&&(decide (nV=0)&&okKids K)):=by unfold rtN okKids;rw [if_neg k1,if_pos k2,hI,hV]
  clear k1 k2 CI CV lI lK lV hwK hwV hI hK hV HNA
  have hw2:IntKind.i64.wrap ((nI:Int)+(nV:Int))=(nI:Int)+(nV:Int):=IntWalk.i64_in _ ⟨by omega,by omega⟩
  by_cases hs:nI+nV=0
  ·have hz:((nI:Int)+(nV:Int)==0)=true:=by rw [beq_iff_eq];omega
   cases hr:okKids K
   ·rw [hr] at CK
    have HF:=hid (HCK.out.1 (by rw [hE,hr];simp))
    rw [HF.out]
    clear HF HCK HSM HSZ
    go_enter Tryz.func96,Tryz.ntmps96
    go_wp2_with fail
    generalize w.alloc _=w0 at *
    refine (CK.out w0 HB0.out).mono ?_
    rintro e w1 ⟨rfl,hb⟩
    have HB1:=hid (HB0.out.trans (hb.mono HB0.out.size))
    have HR1:=hid ((hb.block _ (row_lt HR0.out)).trans HR0.out)
    clear hb HB0 HR0
    go_wp2
    go_ret
    exact⟨rfl,HB1.out⟩
   ·rw [hr] at CK
    have hok:rtN ⟨kd,I,K,V⟩=true:=by rw [hE,hr];simp;omega
    have hsm:=HSM.out hok
    have HW:=hid (w6_in (by omega):w6 ((Z:Nat):Int)=(Z:Int))
    rw [HW.out] at HSZ
    by_cases h5:508<Z
    ·have HF:=hid (HCK.out.2.2 hok h5)
     have d:decide ((508:Int)<(Z:Int))=true:=by simp;omega
     rw [HF.out]
     clear HF h5 HCK HSM hok hsm HW
     go_enter Tryz.func96,Tryz.ntmps96
     go_wp2_with fail
     generalize w.alloc _=w0 at *
     refine (CK.out w0 HB0.out).mono ?_
     rintro e w1 ⟨rfl,hb⟩
     have HB1:=hid (HB0.out.trans (hb.mono HB0.out.size))
     have HR1:=hid ((hb.block _ (row_lt HR0.out)).trans HR0.out)
     clear hb HB0 HR0
     go_wp2_with (refine wpList_load_row rfl 31 (.tmp 1) rfl w.heap.size rfl 31 _ (0,0) _ HR1.out Tryz.underlying31 rfl infoR ?_)
     refine (HSZ.out w1 HB1.out).mono ?_
     rintro e w2 ⟨rfl,hb⟩
     have HB2:=hid (HB1.out.trans (hb.mono HB1.out.size))
     clear hb HB1
     go_wp2
     go_ret
     exact⟨rfl,HB2.out⟩
    ·have HF:=hid (HCK.out.2.1 hok h5)
     have d:decide ((508:Int)<(Z:Int))=false:=by simp;omega
     rw [HF.out]
     clear HF h5 HCK HSM hok hsm HW
     go_enter Tryz.func96,Tryz.ntmps96
     go_wp2_with fail
     generalize w.alloc _=w0 at *
     refine (CK.out w0 HB0.out).mono ?_
     rintro e w1 ⟨rfl,hb⟩
     have HB1:=hid (HB0.out.trans (hb.mono HB0.out.size))
     have HR1:=hid ((hb.block _ (row_lt HR0.out)).trans HR0.out)
     clear hb HB0 HR0
     go_wp2_with (refine wpList_load_row rfl 31 (.tmp 1) rfl w.heap.size rfl 31 _ (0,0) _ HR1.out Tryz.underlying31 rfl infoR ?_)
     refine (HSZ.out w1 HB1.out).mono ?_
     rintro e w2 ⟨rfl,hb⟩
     have HB2:=hid (HB1.out.trans (hb.mono HB1.out.size))
     clear hb HB1
     go_wp2
     go_ret
     exact⟨rfl,HB2.out⟩
  ·have hz:((nI:Int)+(nV:Int)==0)=false:=by rw [beq_eq_false_iff_ne];omega
   have HF:=hid (HCK.out.1 (by rw [hE];simp;omega))
   rw [HF.out]
   clear HF HCK HSM HSZ
   go_enter Tryz.func96,Tryz.ntmps96
   go_wp2
   go_ret
   exact⟨rfl,HB0.out⟩
 have q2:((kd:Int)==2)=false:=by rw [beq_eq_false_iff_ne];omega
 by_cases k3:kd=3
 ·have q3:((kd:Int)==3)=true:=by rw [k3];rfl
  have hE:rtN ⟨kd,I,K,V⟩=(decide (nI=0)&&(decide (nK=0)&&okVols V)):=by unfold rtN okVols;rw [if_neg k1,if_neg k2,if_pos k3,hI,hK]
  clear k1 k2 k3 CI CK lI lK lV hwK hwV hI hK hV HNA
  have hw2:IntKind.i64.wrap ((nI:Int)+(nK:Int))=(nI:Int)+(nK:Int):=IntWalk.i64_in _ ⟨by omega,by omega⟩
  by_cases hs:nI+nK=0
  ·have hz:((nI:Int)+(nK:Int)==0)=true:=by rw [beq_iff_eq];omega
   cases hr:okVols V
   ·rw [hr] at CV
    have HF:=hid (HCK.out.1 (by rw [hE,hr];simp))
    rw [HF.out]
    clear HF HCK HSM HSZ
    go_enter Tryz.func96,Tryz.ntmps96
    go_wp2_with fail
    generalize w.alloc _=w0 at *
    refine (CV.out w0 HB0.out).mono ?_
    rintro e w1 ⟨rfl,hb⟩
    have HB1:=hid (HB0.out.trans (hb.mono HB0.out.size))
    have HR1:=hid ((hb.block _ (row_lt HR0.out)).trans HR0.out)
    clear hb HB0 HR0
    go_wp2
    go_ret
    exact⟨rfl,HB1.out⟩
   ·rw [hr] at CV
    have hok:rtN ⟨kd,I,K,V⟩=true:=by rw [hE,hr];simp;omega
    have hsm:=HSM.out hok
    have HW:=hid (w6_in (by omega):w6 ((Z:Nat):Int)=(Z:Int))
    rw [HW.out] at HSZ
    by_cases h5:508<Z
    ·have HF:=hid (HCK.out.2.2 hok h5)
     have d:decide ((508:Int)<(Z:Int))=true:=by simp;omega
     rw [HF.out]
     clear HF h5 HCK HSM hok hsm HW
     go_enter Tryz.func96,Tryz.ntmps96
     go_wp2_with fail
     generalize w.alloc _=w0 at *
     refine (CV.out w0 HB0.out).mono ?_
     rintro e w1 ⟨rfl,hb⟩
     have HB1:=hid (HB0.out.trans (hb.mono HB0.out.size))
     have HR1:=hid ((hb.block _ (row_lt HR0.out)).trans HR0.out)
     clear hb HB0 HR0
     go_wp2_with (refine wpList_load_row rfl 31 (.tmp 1) rfl w.heap.size rfl 31 _ (0,0) _ HR1.out Tryz.underlying31 rfl infoR ?_)
     refine (HSZ.out w1 HB1.out).mono ?_
     rintro e w2 ⟨rfl,hb⟩
     have HB2:=hid (HB1.out.trans (hb.mono HB1.out.size))
     clear hb HB1
     go_wp2
     go_ret
     exact⟨rfl,HB2.out⟩
    ·have HF:=hid (HCK.out.2.1 hok h5)
     have d:decide ((508:Int)<(Z:Int))=false:=by simp;omega
     rw [HF.out]
     clear HF h5 HCK HSM hok hsm HW
     go_enter Tryz.func96,Tryz.ntmps96
     go_wp2_with fail
     generalize w.alloc _=w0 at *
     refine (CV.out w0 HB0.out).mono ?_
     rintro e w1 ⟨rfl,hb⟩
     have HB1:=hid (HB0.out.trans (hb.mono HB0.out.size))
     have HR1:=hid ((hb.block _ (row_lt HR0.out)).trans HR0.out)
     clear hb HB0 HR0
     go_wp2_with (refine wpList_load_row rfl 31 (.tmp 1) rfl w.heap.size rfl 31 _ (0,0) _ HR1.out Tryz.underlying31 rfl infoR ?_)
     refine (HSZ.out w1 HB1.out).mono ?_
     rintro e w2 ⟨rfl,hb⟩
     have HB2:=hid (HB1.out.trans (hb.mono HB1.out.size))
     clear hb HB1
     go_wp2
     go_ret
     exact⟨rfl,HB2.out⟩
  ·have hz:((nI:Int)+(nK:Int)==0)=false:=by rw [beq_eq_false_iff_ne];omega
   have HF:=hid (HCK.out.1 (by rw [hE];simp;omega))
   rw [HF.out]
   clear HF HCK HSM HSZ
   go_enter Tryz.func96,Tryz.ntmps96
   go_wp2
   go_ret
   exact⟨rfl,HB0.out⟩
 have q3:((kd:Int)==3)=false:=by rw [beq_eq_false_iff_ne];omega
 have hE:rtN ⟨kd,I,K,V⟩=false:=by unfold rtN;rw [if_neg k1,if_neg k2,if_neg k3]
 clear k1 k2 k3 CI CK CV lI lK lV hwK hwV hI hK hV HNA
 have HF:=hid (HCK.out.1 (hE))
 rw [HF.out]
 clear HF HCK HSM HSZ
 go_enter Tryz.func96,Tryz.ntmps96
 go_wp2
 go_ret
 exact⟨rfl,HB0.out⟩
end Go.Proofs.YtlpejbbmemhloaaGreatDoor.Nd
namespace Go.Proofs.YtlpejbbmemhloaaGreatDoor.Nr
open Lib (hid)
set_option linter.unusedVariables false
set_option linter.unusedSimpArgs false
open Go.ChangeShapes Go.WideShapes Go.ChangeAt Go.RowKit
open Nd Ar Rg
open BigFrame
open Pk (be num be_length u8s u8s_length)
def tx (s:ByteArray):ByteArray:=bs (be 1 s.size++s.data.toList)
theorem tx_eq (s:ByteArray):bs (be 1 s.size)++s=tx s:=by
 unfold tx
 rw [← bs_app,data_bs]
theorem tx_size (s:ByteArray):(tx s).size=s.size+1:=by
 unfold tx
 rw [bs_size,List.length_append,be_length,Array.length_toList]
 show 1+s.size=_
 omega
theorem rtext_any (s:ByteArray) (h:s.size≤1000000) (w:World) :
  Calls Tryz.prog 131 #[.string s] w fun e w'=>e=.returned (.string (tx s))∧Below w.heap.size w w':=by
 have HB:=hid (show ∀ w,Calls Tryz.prog 129 #[.int .u64 (s.size:Nat),.int .i64 1] w fun e w'=>e=.returned (.string (bs (be 1 s.size)))∧Below w.heap.size w w' from fun w=>Pk.ref_bytes s.size 1 w (by omega) (by omega))
 have hu:IntKind.u64.wrap (s.size:Int)=s.size:=by simp [IntKind.wrap,IntKind.bits,IntKind.signed];omega
 have hz:(bs (be 1 s.size)).size=1:=by rw [bs_size,be_length]
 have HE:=hid (tx_eq s)
 generalize bs (be 1 s.size)=S1 at *
 generalize tx s=R at *
 go_enter Tryz.func131,Tryz.ntmps131
 go_wp2_with fail
 refine (HB.out _).mono ?_
 rintro e w1 ⟨rfl,hb⟩
 have HB1:=hid hb
 clear hb HB
 have he:=HE.out
 go_wp2
 go_ret
 exact⟨rfl,HB1.out⟩
theorem fm_take {α:Type}(f:α→List UInt8) (l:List α) (i:Nat):((l.take i).flatMap f).length≤(l.flatMap f).length:=by
 conv=>rhs;rw [← List.take_append_drop i l,List.flatMap_append,List.length_append]
 omega
theorem fm_snoc {α:Type}(f:α→List UInt8){l:List α}{i:Nat}{x:α}(h:l[i]?=some x):(l.take (i+1)).flatMap f=(l.take i).flatMap f++f x:=by
 rw [List.take_add_one,h]
 simp
theorem tx_bs (s:ByteArray):tx s=bs (be 1 s.data.toList.length++s.data.toList):=by unfold tx;rw [Array.length_toList];rfl
theorem wrI_tx (x:It.Itm):tx x.k++tx x.v=bs (Nd.cI.wr x):=by rw [tx_bs,tx_bs,bs_app];rfl
theorem wrK_tx (x:Kd):(tx x.k++bs (be 4 x.n))++bs x.hs=bs (Nd.cK.wr x):=by rw [tx_bs,bs_app,bs_app,List.append_assoc];rfl
theorem wrV_tx (x:Vo):((((tx x.nm++tx x.fr)++bs (be 1 x.kd))++bs (be 8 x.bn))++bs (be 4 x.rt))++bs x.hs=bs (Nd.cV.wr x):=by
 rw [tx_bs,tx_bs,bs_app,bs_app,bs_app,bs_app,bs_app]
 show bs _=bs ((_++_)++((_++_)++(_++(_++(_++_)))))
 simp only [List.append_assoc]
 rfl
theorem u64_same {n:Nat}(h:n<18446744073709551616):IntKind.u64.wrap (n:Int)=n:=by simp [IntKind.wrap,IntKind.bits,IntKind.signed];omega
set_option maxRecDepth 100000 in
set_option maxHeartbeats 8000000 in
theorem rbytes_any (n:Nd) (hw:Wd n) (hk8:n.kd<256) (hl:(wN n).length≤100000) (hIx:∀ x∈n.I,x.k.size≤1000∧x.v.size≤1000) (hKx:∀ x∈n.K,x.k.size≤1000) (hVx:∀ x∈n.V,x.nm.size≤1000∧x.fr.size≤1000) (cs:Array Value) (w:World) (hn:NdAt w cs n) :
  Calls Tryz.prog 98 #[.agg cs] w fun e w'=>e=.returned (.string (bs (wN n)))∧Below w.heap.size w w':=by
 obtain⟨AI,nI,cI,AK,nK,cK,AV,nV,cV,rfl,hI,hK,hV,bI,bK,bV,lI,lK,lV⟩:=hn
 obtain⟨kd,I,K,V⟩:=n
 dsimp only at hI hK hV lI lK lV hIx hKx hVx hk8
 have hw0:wN ⟨kd,I,K,V⟩=be 1 kd++(be 1 (nI+nK+nV)++(I.flatMap Nd.cI.wr++(K.flatMap Nd.cK.wr++V.flatMap Nd.cV.wr))):=by unfold wN;rw [hI,hK,hV]
 have HW:=hid hw0
 have HLW:=hid hl
 obtain⟨N,hN⟩:∃ N,nI+nK+nV=N:=⟨_,rfl⟩
 have U1:=hid (u64_same (n:=kd) (by omega))
 have U2:=hid (u64_same (n:=N) (by omega))
 have U3:=hid (IntWalk.i64_in ((nI:Int)+(nK:Int)) ⟨by omega,by omega⟩)
 have U4:=hid (by rw [show (nI:Int)+(nK:Int)+(nV:Int)=(N:Int) by omega];exact IntWalk.i64_in _ ⟨by omega,by omega⟩:IntKind.i64.wrap ((nI:Int)+(nK:Int)+(nV:Int))=(N:Int))
 have B1:=hid (show ∀ w,Calls Tryz.prog 129 #[.int .u64 (kd:Nat),.int .i64 1] w fun e w'=>e=.returned (.string (bs (be 1 kd)))∧Below w.heap.size w w' from fun w=>Pk.ref_bytes kd 1 w (by omega) (by omega))
 have B2:=hid (show ∀ w,Calls Tryz.prog 129 #[.int .u64 (N:Nat),.int .i64 1] w fun e w'=>e=.returned (.string (bs (be 1 N)))∧Below w.heap.size w w' from fun w=>Pk.ref_bytes N 1 w (by omega) (by omega))
 obtain⟨HD,hHD⟩:∃ HD,be 1 kd++be 1 N=HD:=⟨_,rfl⟩
 have E3:=hid (show bs (be 1 kd)++bs (be 1 N)=bs HD by rw [bs_app,hHD])
 have HWN:=hid (show wN ⟨kd,I,K,V⟩=HD++(I.flatMap Nd.cI.wr++(K.flatMap Nd.cK.wr++V.flatMap Nd.cV.wr)) by rw [hw0,hN,← hHD,List.append_assoc])
 have z1:(bs (be 1 kd)).size=1:=by rw [bs_size,be_length]
 have z2:(bs (be 1 N)).size=1:=by rw [bs_size,be_length]
 have HR0:=hid (heap_alloc_new w (.cells #[.int .u8 (kd:Int),.slice AI nI cI,.slice AK nK cK,.slice AV nV cV] 31))
 have HB0:=hid (show Below w.heap.size w (w.alloc (.cells #[.int .u8 (kd:Int),.slice AI nI cI,.slice AK nK cK,.slice AV nV cV] 31)) from (Below.refl _ _).alloc (Nat.le_refl _) _)
 have HI:=hid hI
 have HK:=hid hK
 have HV:=hid hV
 have LI:=hid lI
 have LK:=hid lK
 have LV:=hid lV
 have IX:=hid hIx
 have KX:=hid hKx
 have VX:=hid hVx
 have WD:=hid hw
 generalize bs (be 1 kd)=S1 at *
 generalize bs (be 1 N)=S2 at *
 obtain⟨S3,hS3⟩:∃ S3,bs HD=S3:=⟨_,rfl⟩
 rw [hS3] at E3
 have HS3:=hid hS3
 clear hI hK hV lI lK lV hIx hKx hVx hw hw0 hl hN hHD hS3 hk8 HW
 go_enter Tryz.func98,Tryz.ntmps98
 go_wp2_with fail
 generalize w.alloc _=w0 at *
 have k0:=row_lt HR0.out
 have c0:w0.cell? ⟨w.heap.size,0,none⟩=some (.int .u8 (kd:Int)):=cell_of_row _ _ 0 _ _ _ HR0.out
 have c1:w0.cell? ⟨w.heap.size,1,none⟩=some (.slice AI nI cI):=cell_of_row _ _ 1 _ _ _ HR0.out
 have c2:w0.cell? ⟨w.heap.size,2,none⟩=some (.slice AK nK cK):=cell_of_row _ _ 2 _ _ _ HR0.out
 have c3:w0.cell? ⟨w.heap.size,3,none⟩=some (.slice AV nV cV):=cell_of_row _ _ 3 _ _ _ HR0.out
 refine wp_region_G (fun w'=>Below w0.heap.size w0 w') (by kernel_rfl) (by kernel_rfl) (Below.refl _ _).drew ?_
 refine wpG_val (.pointer (some ⟨w.heap.size,0,none⟩)) rfl (by rfl) (fun w' hSw=>by go_simp) ?_
 simp only [Gw2Asksa,Gw2Asksb,Gw2Asksc]
 refine wpG_val (.int .u8 (kd:Int)) rfl (by rfl) (fun w' hSw=>by have c:=(Below.cell hSw (p:=⟨w.heap.size,0,none⟩) k0).trans c0;go_simp) ?_
 simp only [Gw2Asksa,Gw2Asksb,Gw2Asksc]
 refine wpG_val (.int .u64 (kd:Int)) rfl (by rfl) (fun w' hSw=>by have h:=U1.out;go_simp) ?_
 simp only [Gw2Asksa,Gw2Asksb,Gw2Asksc]
 refine wpG_call (.string S1) 129 #[.int .u64 (kd:Int),.int .i64 1] rfl (by rfl) (fun w'=>by go_simp) (fun w' hSw=>(B1.out w').mono fun e w2 h=>⟨h.1,hSw.trans (h.2.mono hSw.size)⟩) ?_
 simp only [Gw2Asksa,Gw2Asksb,Gw2Asksc]
 refine wpG_val (.pointer (some ⟨w.heap.size,1,none⟩)) rfl (by rfl) (fun w' hSw=>by go_simp) ?_
 simp only [Gw2Asksa,Gw2Asksb,Gw2Asksc]
 refine wpG_val (.slice AI nI cI) rfl (by rfl) (fun w' hSw=>by have c:=(Below.cell hSw (p:=⟨w.heap.size,1,none⟩) k0).trans c1;go_simp) ?_
 simp only [Gw2Asksa,Gw2Asksb,Gw2Asksc]
 refine wpG_val (.int .i64 (nI:Int)) rfl (by rfl) (fun w' hSw=>by go_simp) ?_
 simp only [Gw2Asksa,Gw2Asksb,Gw2Asksc]
 refine wpG_val (.pointer (some ⟨w.heap.size,2,none⟩)) rfl (by rfl) (fun w' hSw=>by go_simp) ?_
 simp only [Gw2Asksa,Gw2Asksb,Gw2Asksc]
 refine wpG_val (.slice AK nK cK) rfl (by rfl) (fun w' hSw=>by have c:=(Below.cell hSw (p:=⟨w.heap.size,2,none⟩) k0).trans c2;go_simp) ?_
 simp only [Gw2Asksa,Gw2Asksb,Gw2Asksc]
 refine wpG_val (.int .i64 (nK:Int)) rfl (by rfl) (fun w' hSw=>by go_simp) ?_
 simp only [Gw2Asksa,Gw2Asksb,Gw2Asksc]
 refine wpG_val (.int .i64 ((nI:Int)+(nK:Int))) rfl (by rfl) (fun w' hSw=>by have h:=U3.out;go_simp) ?_
 simp only [Gw2Asksa,Gw2Asksb,Gw2Asksc]
 refine wpG_val (.pointer (some ⟨w.heap.size,3,none⟩)) rfl (by rfl) (fun w' hSw=>by go_simp) ?_
 simp only [Gw2Asksa,Gw2Asksb,Gw2Asksc]
 refine wpG_val (.slice AV nV cV) rfl (by rfl) (fun w' hSw=>by have c:=(Below.cell hSw (p:=⟨w.heap.size,3,none⟩) k0).trans c3;go_simp) ?_
 simp only [Gw2Asksa,Gw2Asksb,Gw2Asksc]
 refine wpG_val (.int .i64 (nV:Int)) rfl (by rfl) (fun w' hSw=>by go_simp) ?_
 simp only [Gw2Asksa,Gw2Asksb,Gw2Asksc]
 refine wpG_val (.int .i64 (N:Int)) rfl (by rfl) (fun w' hSw=>by have h:=U4.out;go_simp) ?_
 simp only [Gw2Asksa,Gw2Asksb,Gw2Asksc]
 refine wpG_val (.int .u64 (N:Int)) rfl (by rfl) (fun w' hSw=>by have h:=U2.out;go_simp) ?_
 simp only [Gw2Asksa,Gw2Asksb,Gw2Asksc]
 refine wpG_call (.string S2) 129 #[.int .u64 (N:Int),.int .i64 1] rfl (by rfl) (fun w'=>by go_simp) (fun w' hSw=>(B2.out w').mono fun e w2 h=>⟨h.1,hSw.trans (h.2.mono hSw.size)⟩) ?_
 simp only [Gw2Asksa,Gw2Asksb,Gw2Asksc]
 refine wpG_val (.string S3) rfl (by rfl) (fun w' hSw=>by have h:=E3.out;go_simp) ?_
 simp only [Gw2Asksa,Gw2Asksb,Gw2Asksc]
 refine wpG_val (.string S3) rfl (by rfl) (fun w' hSw=>by go_simp) ?_
 simp only [Gw2Asksa,Gw2Asksb,Gw2Asksc]
 refine wpG_nil ?_
 intro w1 hSw
 have HR1:=hid ((hSw.block _ k0).trans HR0.out)
 have HB1:=hid (HB0.out.trans (hSw.mono HB0.out.size))
 have d1:w1.cell? ⟨w.heap.size,1,none⟩=some (.slice AI nI cI):=cell_of_row _ _ 1 _ _ _ HR1.out
 clear hSw c0 c1 c2 c3 k0 HR0 HB0
 go_wp2_with fail
 clear d1
 go_loopw [3,31] (fun t v wr=>∃ i:Nat,i≤nI∧v=.int .i64 i∧t=.string (bs (HD++(I.take i).flatMap Nd.cI.wr))∧Hid (Below w1.heap.size w1 wr)) (fun _ v _=>nI-(intOf v).toNat)
 case atStart=>exact⟨0,Nat.zero_le _,by go_num,by rw [← HS3.out];simp,Below.refl _ _⟩
 case round =>
  obtain⟨i,hi,rfl,rfl,hbel⟩:=hrel
  by_cases hlt:i<nI
  ·obtain⟨x,hx⟩:∃ x,I[i]?=some x:=⟨_,List.getElem?_eq_getElem (by rw [← HI.out];exact hlt)⟩
   obtain⟨xk,xv⟩:=IX.out x (List.mem_of_getElem? hx)
   have T1:=hid (fun w=>rtext_any x.k (by omega) w)
   have T2:=hid (fun w=>rtext_any x.v (by omega) w)
   obtain⟨b,o,hAe,hb,hr⟩:=(LI.out.below (HB1.out.trans ((Hid.out hbel).mono HB1.out.size))) i x hx
   have hbs:b<wr.heap.size:=Nat.lt_of_lt_of_le hb (Nat.le_trans HB1.out.size (Hid.out hbel).size)
   have hc0:wr.cell? ⟨b,o+i*2,none⟩=some (.string x.k):=hr 0 _ rfl
   have hc1:wr.cell? ⟨b,o+i*2+1,none⟩=some (.string x.v):=hr 1 _ rfl
   subst hAe
   have HBN:=hid (show Below w1.heap.size w1 (wr.alloc (.cells #[.string x.k,.string x.v] 63)) from (Hid.out hbel).alloc (Hid.out hbel).size _)
   have hcx:(wr.alloc (.cells #[.string x.k,.string x.v] 63)).cell? ⟨wr.heap.size,0,none⟩=some (.string x.k):=by simp
   have hcv:(wr.alloc (.cells #[.string x.k,.string x.v] 63)).cell? ⟨wr.heap.size,1,none⟩=some (.string x.v):=by simp
   have kg:wr.heap.size<(wr.alloc (.cells #[.string x.k,.string x.v] 63)).heap.size:=by simp
   have hsz:(bs (HD++(I.take i).flatMap Nd.cI.wr)).size≤100000:=by
    rw [bs_size]
    have h1:=HLW.out
    rw [HWN.out] at h1
    simp only [List.length_append] at h1 ⊢
    have:=fm_take Nd.cI.wr I i
    omega
   have y1:=tx_size x.k
   have y2:=tx_size x.v
   obtain⟨X3,hX3⟩:∃ X3,tx x.k++tx x.v=X3:=⟨_,rfl⟩
   obtain⟨X4,hX4⟩:∃ X4,bs (HD++(I.take i).flatMap Nd.cI.wr)++X3=X4:=⟨_,rfl⟩
   have HE4:=hid (show X4=bs (HD++(I.take (i+1)).flatMap Nd.cI.wr) by rw [← hX4,← hX3,wrI_tx,bs_app,fm_snoc _ hx,List.append_assoc])
   have y3:X3.size≤3000:=by rw [← hX3,ByteArray.size_append];omega
   have E1:=hid hX3
   have E2:=hid hX4
   have y1':(tx x.k).size≤1001:=by omega
   have y2':(tx x.v).size≤1001:=by omega
   clear hr hx hX3 hX4 y1 y2
   generalize bs (HD++(I.take i).flatMap Nd.cI.wr)=S at *
   generalize tx x.k=X1 at *
   generalize tx x.v=X2 at *
   go_wp2_with fail
   clear hc0 hc1 hbs hb
   generalize wr.alloc _=W5 at *
   generalize wr.heap.size=g at *
   refine wp_region_G (fun w'=>Below W5.heap.size W5 w') (by kernel_rfl) (by kernel_rfl) (Below.refl _ _).drew ?_
   refine wpG_val (.string S) rfl (by rfl) (fun w' hSw=>by go_simp) ?_
   simp only [Gw2Asksa,Gw2Asksb,Gw2Asksc]
   refine wpG_val (.pointer (some ⟨g,0,none⟩)) rfl (by rfl) (fun w' hSw=>by go_simp) ?_
   simp only [Gw2Asksa,Gw2Asksb,Gw2Asksc]
   refine wpG_val (.string x.k) rfl (by rfl) (fun w' hSw=>by have c:=(Below.cell hSw (p:=⟨g,0,none⟩) kg).trans hcx;go_simp) ?_
   simp only [Gw2Asksa,Gw2Asksb,Gw2Asksc]
   refine wpG_call (.string X1) 131 #[.string x.k] rfl (by rfl) (fun w'=>by go_simp) (fun w' hSw=>(T1.out w').mono fun e w2 h=>⟨h.1,hSw.trans (h.2.mono hSw.size)⟩) ?_
   simp only [Gw2Asksa,Gw2Asksb,Gw2Asksc]
   refine wpG_val (.pointer (some ⟨g,1,none⟩)) rfl (by rfl) (fun w' hSw=>by go_simp) ?_
   simp only [Gw2Asksa,Gw2Asksb,Gw2Asksc]
   refine wpG_val (.string x.v) rfl (by rfl) (fun w' hSw=>by have c:=(Below.cell hSw (p:=⟨g,1,none⟩) kg).trans hcv;go_simp) ?_
   simp only [Gw2Asksa,Gw2Asksb,Gw2Asksc]
   refine wpG_call (.string X2) 131 #[.string x.v] rfl (by rfl) (fun w'=>by go_simp) (fun w' hSw=>(T2.out w').mono fun e w2 h=>⟨h.1,hSw.trans (h.2.mono hSw.size)⟩) ?_
   simp only [Gw2Asksa,Gw2Asksb,Gw2Asksc]
   refine wpG_val (.string X3) rfl (by rfl) (fun w' hSw=>by have h:=E1.out;go_simp<;>omega) ?_
   simp only [Gw2Asksa,Gw2Asksb,Gw2Asksc]
   refine wpG_val (.string X4) rfl (by rfl) (fun w' hSw=>by have h:=E2.out;go_simp<;>omega) ?_
   simp only [Gw2Asksa,Gw2Asksb,Gw2Asksc]
   refine wpG_val (.string X4) rfl (by rfl) (fun w' hSw=>by go_simp) ?_
   simp only [Gw2Asksa,Gw2Asksb,Gw2Asksc]
   refine wpG_nil ?_
   intro w6 hSw6
   have HB6:=hid (HBN.out.trans (hSw6.mono HBN.out.size))
   clear hSw6 hcx hcv kg HBN hbel
   go_wp2
   exact⟨⟨i+1,by omega,by go_num,by rw [HE4.out],HB6.out⟩,by simp [intOf]<;>omega⟩
  ·skip
   have hin:i=nI:=by omega
   have HTK:=hid (show I.take i=I from List.take_of_length_le (by have:=HI.out;omega))
   obtain⟨w2,rfl⟩:∃ w2,w2=wr:=⟨_,rfl⟩
   have HB2:=hid (HB1.out.trans ((Hid.out hbel).mono HB1.out.size))
   have HR2:=hid (((Hid.out hbel).block _ (row_lt HR1.out)).trans HR1.out)
   rw [HTK.out]
   obtain⟨HD2,hHDn⟩:∃ H,HD++I.flatMap Nd.cI.wr=H:=⟨_,rfl⟩
   rw [hHDn]
   have EHD2:=hid hHDn
   clear hin hHDn hi hbel HTK
   have d2:w2.cell? ⟨w.heap.size,2,none⟩=some (.slice AK nK cK):=cell_of_row _ _ 2 _ _ _ HR2.out
   go_wp2_with fail
   clear d2 hlt
   go_loopw [3,48] (fun t v wr=>∃ i:Nat,i≤nK∧v=.int .i64 i∧t=.string (bs (HD2++(K.take i).flatMap Nd.cK.wr))∧Hid (Below w2.heap.size w2 wr)) (fun _ v _=>nK-(intOf v).toNat)
   case atStart=>exact⟨0,Nat.zero_le _,by go_num,by simp,Below.refl _ _⟩
   case round =>
    obtain⟨i,hi,rfl,rfl,hbel⟩:=hrel
    by_cases hlt:i<nK
    ·obtain⟨x,hx⟩:∃ x,K[i]?=some x:=⟨_,List.getElem?_eq_getElem (by rw [← HK.out];exact hlt)⟩
     have xk:=KX.out x (List.mem_of_getElem? hx)
     obtain⟨xn,xh⟩:=WD.out.K x (List.mem_of_getElem? hx)
     have xn':x.n<4294967296:=xn
     have T1:=hid (fun w=>rtext_any x.k (by omega) w)
     have T2:=hid (show ∀ w,Calls Tryz.prog 129 #[.int .u64 (x.n:Nat),.int .i64 4] w fun e w'=>e=.returned (.string (bs (be 4 x.n)))∧Below w.heap.size w w' from fun w=>Pk.ref_bytes x.n 4 w (by omega) (by omega))
     have UX:=hid (u64_same (n:=x.n) (by omega))
     obtain⟨b,o,hAe,hb,hr⟩:=(LK.out.below (HB2.out.trans ((Hid.out hbel).mono HB2.out.size))) i x hx
     have hbs:b<wr.heap.size:=Nat.lt_of_lt_of_le hb (Nat.le_trans HB2.out.size (Hid.out hbel).size)
     subst hAe
     have HRG:=hid hr
     have hsz:(bs (HD2++(K.take i).flatMap Nd.cK.wr)).size≤100000:=by
      rw [bs_size,← EHD2.out]
      have h1:=HLW.out
      rw [HWN.out] at h1
      simp only [List.length_append] at h1 ⊢
      have:=fm_take Nd.cK.wr K i
      omega
     have y1:=tx_size x.k
     have y1':(tx x.k).size≤1001:=by omega
     have y2':(bs (be 4 x.n)).size≤4:=by rw [bs_size,be_length];exact Nat.le_refl _
     have y5':(bs x.hs).size≤32:=by rw [bs_size,xh];exact Nat.le_refl _
     obtain⟨X3,hX3⟩:∃ X3,tx x.k++bs (be 4 x.n)=X3:=⟨_,rfl⟩
     obtain⟨X6,hX6⟩:∃ X6,X3++bs x.hs=X6:=⟨_,rfl⟩
     obtain⟨X4,hX4⟩:∃ X4,bs (HD2++(K.take i).flatMap Nd.cK.wr)++X6=X4:=⟨_,rfl⟩
     have HE4:=hid (show X4=bs (HD2++(K.take (i+1)).flatMap Nd.cK.wr) by rw [← hX4,← hX6,← hX3,wrK_tx,bs_app,fm_snoc _ hx,List.append_assoc])
     have y3:X3.size≤3000:=by rw [← hX3,ByteArray.size_append];omega
     have y6:X6.size≤4000:=by rw [← hX6,ByteArray.size_append];omega
     have E1:=hid hX3
     have E2:=hid hX6
     have E3:=hid hX4
     have HCV:=hid (fun (w':World) (h:w'.heap[wr.heap.size]?=some (.cells (ecK x).toArray 45 (0,0)))=>(Sp.conv_hash xh (by
      intro j v hv
      rw [cell_of_row _ _ (2+j) _ _ _ h]
      unfold ecK
      rw [fix_of xh,List.getElem?_toArray,show 2+j=j+1+1 by omega]
      simpa using hv):(convert 139 9 (.slice (some ⟨wr.heap.size,2,none⟩) 32 32)).run Tryz.prog w'=.ok (.string (bs x.hs)) w'))
     clear hr hx hX3 hX4 hX6 y1 hb
     generalize bs (HD2++(K.take i).flatMap Nd.cK.wr)=S at *
     generalize tx x.k=X1 at *
     generalize bs (be 4 x.n)=X2 at *
     generalize bs x.hs=X5 at *
     go_wp2_with (first
      | (refine wpList_load_at rfl 45 (.tmp 50) rfl b (o+i*34) rfl (ecK x) _ HRG.out Tryz.underlying45 rfl (infoKs x) ?_)
      | (refine wpList_fresh rfl 45 (.tmp 7) (.tmp 51) rfl (ecK x).toArray _ _ rfl rfl (infoKa x) (ecK_sz x) (all_of_one (ecK_one x)) ?_;intro W5 hb5 hr5 hz5;have HB5:=hid ((Hid.out hbel).trans (hb5.mono (Hid.out hbel).size));have HG5:=hid hr5;clear hb5 hr5 hz5))
     have kg:=row_lt HG5.out
     have g0:W5.cell? ⟨wr.heap.size,0,none⟩=some (.string x.k):=cell_of_row _ _ 0 _ _ _ HG5.out
     have g1:W5.cell? ⟨wr.heap.size,1,none⟩=some (.int .u32 (x.n:Int)):=cell_of_row _ _ 1 _ _ _ HG5.out
     clear hbs hbel HRG
     generalize wr.heap.size=g at *
     refine wp_region_G (fun w'=>Below W5.heap.size W5 w') (by kernel_rfl) (by kernel_rfl) (Below.refl _ _).drew ?_
     refine wpG_val (.string S) rfl (by rfl) (fun w' hSw=>by go_simp) ?_
     simp only [Gw2Asksa,Gw2Asksb,Gw2Asksc]
     refine wpG_val (.pointer (some ⟨g,0,none⟩)) rfl (by rfl) (fun w' hSw=>by go_simp) ?_
     simp only [Gw2Asksa,Gw2Asksb,Gw2Asksc]
     refine wpG_val (.string x.k) rfl (by rfl) (fun w' hSw=>by have c:=(Below.cell hSw (p:=⟨g,0,none⟩) kg).trans g0;go_simp) ?_
     simp only [Gw2Asksa,Gw2Asksb,Gw2Asksc]
     refine wpG_call (.string X1) 131 #[.string x.k] rfl (by rfl) (fun w'=>by go_simp) (fun w' hSw=>(T1.out w').mono fun e w2 h=>⟨h.1,hSw.trans (h.2.mono hSw.size)⟩) ?_
     simp only [Gw2Asksa,Gw2Asksb,Gw2Asksc]
     refine wpG_val (.pointer (some ⟨g,1,none⟩)) rfl (by rfl) (fun w' hSw=>by go_simp) ?_
     simp only [Gw2Asksa,Gw2Asksb,Gw2Asksc]
     refine wpG_val (.int .u32 (x.n:Int)) rfl (by rfl) (fun w' hSw=>by have c:=(Below.cell hSw (p:=⟨g,1,none⟩) kg).trans g1;go_simp) ?_
     simp only [Gw2Asksa,Gw2Asksb,Gw2Asksc]
     refine wpG_val (.int .u64 (x.n:Int)) rfl (by rfl) (fun w' hSw=>by have h:=UX.out;go_simp) ?_
     simp only [Gw2Asksa,Gw2Asksb,Gw2Asksc]
     refine wpG_call (.string X2) 129 #[.int .u64 (x.n:Int),.int .i64 4] rfl (by rfl) (fun w'=>by go_simp) (fun w' hSw=>(T2.out w').mono fun e w2 h=>⟨h.1,hSw.trans (h.2.mono hSw.size)⟩) ?_
     simp only [Gw2Asksa,Gw2Asksb,Gw2Asksc]
     refine wpG_val (.string X3) rfl (by rfl) (fun w' hSw=>by have h:=E1.out;go_simp<;>omega) ?_
     simp only [Gw2Asksa,Gw2Asksb,Gw2Asksc]
     refine wpG_val (.pointer (some ⟨g,2,none⟩)) rfl (by rfl) (fun w' hSw=>by go_simp) ?_
     simp only [Gw2Asksa,Gw2Asksb,Gw2Asksc]
     refine wpG_val (.slice (some ⟨g,2,none⟩) 32 32) rfl (by rfl) (fun w' hSw=>by have c:=(hSw.block _ kg).trans HG5.out;go_simp) ?_
     simp only [Gw2Asksa,Gw2Asksb,Gw2Asksc]
     refine wpG_val (.string X5) rfl (by rfl) (fun w' hSw=>by have c:=HCV.out _ ((hSw.block _ kg).trans HG5.out);go_simp) ?_
     simp only [Gw2Asksa,Gw2Asksb,Gw2Asksc]
     refine wpG_val (.string X6) rfl (by rfl) (fun w' hSw=>by have h:=E2.out;go_simp<;>omega) ?_
     simp only [Gw2Asksa,Gw2Asksb,Gw2Asksc]
     refine wpG_val (.string X4) rfl (by rfl) (fun w' hSw=>by have h:=E3.out;go_simp<;>omega) ?_
     simp only [Gw2Asksa,Gw2Asksb,Gw2Asksc]
     refine wpG_val (.string X4) rfl (by rfl) (fun w' hSw=>by go_simp) ?_
     simp only [Gw2Asksa,Gw2Asksb,Gw2Asksc]
     refine wpG_nil ?_
     intro w6 hSw6
     have HB6:=hid (HB5.out.trans (hSw6.mono HB5.out.size))
     clear hSw6 g0 g1 kg HB5 HG5
     go_wp2
     exact⟨⟨i+1,by omega,by go_num,by rw [HE4.out],HB6.out⟩,by simp [intOf]<;>omega⟩
    ·skip
     have hin:i=nK:=by omega
     have HTK:=hid (show K.take i=K from List.take_of_length_le (by have:=HK.out;omega))
     obtain⟨w3,rfl⟩:∃ w2,w2=wr:=⟨_,rfl⟩
     have HB3:=hid (HB2.out.trans ((Hid.out hbel).mono HB2.out.size))
     have HR3:=hid (((Hid.out hbel).block _ (row_lt HR2.out)).trans HR2.out)
     rw [HTK.out]
     obtain⟨HD3,hHDn⟩:∃ H,HD2++K.flatMap Nd.cK.wr=H:=⟨_,rfl⟩
     rw [hHDn]
     have EHD3:=hid hHDn
     clear hin hHDn hi hbel HTK
     have d3:w3.cell? ⟨w.heap.size,3,none⟩=some (.slice AV nV cV):=cell_of_row _ _ 3 _ _ _ HR3.out
     go_wp2_with fail
     clear d3 hlt
     go_loopw [3,70] (fun t v wr=>∃ i:Nat,i≤nV∧v=.int .i64 i∧t=.string (bs (HD3++(V.take i).flatMap Nd.cV.wr))∧Hid (Below w3.heap.size w3 wr)) (fun _ v _=>nV-(intOf v).toNat)
     case atStart=>exact⟨0,Nat.zero_le _,by go_num,by simp,Below.refl _ _⟩
     case round =>
      obtain⟨i,hi,rfl,rfl,hbel⟩:=hrel
      by_cases hlt:i<nV
      ·obtain⟨x,hx⟩:∃ x,V[i]?=some x:=⟨_,List.getElem?_eq_getElem (by rw [← HV.out];exact hlt)⟩
       obtain⟨xk,xv⟩:=VX.out x (List.mem_of_getElem? hx)
       obtain⟨x1,x2,x3,xh⟩:=WD.out.V x (List.mem_of_getElem? hx)
       have x1':x.kd<256:=x1
       have x2':x.bn<18446744073709551616:=x2
       have x3':x.rt<4294967296:=x3
       have T1:=hid (fun w=>rtext_any x.nm (by omega) w)
       have T2:=hid (fun w=>rtext_any x.fr (by omega) w)
       have T3:=hid (show ∀ w,Calls Tryz.prog 129 #[.int .u64 (x.kd:Nat),.int .i64 1] w fun e w'=>e=.returned (.string (bs (be 1 x.kd)))∧Below w.heap.size w w' from fun w=>Pk.ref_bytes x.kd 1 w (by omega) (by omega))
       have T4:=hid (show ∀ w,Calls Tryz.prog 129 #[.int .u64 (x.bn:Nat),.int .i64 8] w fun e w'=>e=.returned (.string (bs (be 8 x.bn)))∧Below w.heap.size w w' from fun w=>Pk.ref_bytes x.bn 8 w (by omega) (by omega))
       have T5:=hid (show ∀ w,Calls Tryz.prog 129 #[.int .u64 (x.rt:Nat),.int .i64 4] w fun e w'=>e=.returned (.string (bs (be 4 x.rt)))∧Below w.heap.size w w' from fun w=>Pk.ref_bytes x.rt 4 w (by omega) (by omega))
       have UK:=hid (u64_same (n:=x.kd) (by omega))
       have UR:=hid (u64_same (n:=x.rt) (by omega))
       obtain⟨b,o,hAe,hb,hr⟩:=(LV.out.below (HB3.out.trans ((Hid.out hbel).mono HB3.out.size))) i x hx
       have hbs:b<wr.heap.size:=Nat.lt_of_lt_of_le hb (Nat.le_trans HB3.out.size (Hid.out hbel).size)
       subst hAe
       have HRG:=hid hr
       have hsz:(bs (HD3++(V.take i).flatMap Nd.cV.wr)).size≤100000:=by
        rw [bs_size,← EHD3.out,← EHD2.out]
        have h1:=HLW.out
        rw [HWN.out] at h1
        simp only [List.length_append] at h1 ⊢
        have:=fm_take Nd.cV.wr V i
        omega
       have y1:=tx_size x.nm
       have y2:=tx_size x.fr
       have y1':(tx x.nm).size≤1001:=by omega
       have y2':(tx x.fr).size≤1001:=by omega
       have y3':(bs (be 1 x.kd)).size≤1:=by rw [bs_size,be_length];exact Nat.le_refl _
       have y7':(bs (be 8 x.bn)).size≤8:=by rw [bs_size,be_length];exact Nat.le_refl _
       have y8':(bs (be 4 x.rt)).size≤4:=by rw [bs_size,be_length];exact Nat.le_refl _
       have y5':(bs x.hs).size≤32:=by rw [bs_size,xh];exact Nat.le_refl _
       obtain⟨Y1,hY1⟩:∃ Y,tx x.nm++tx x.fr=Y:=⟨_,rfl⟩
       obtain⟨Y2,hY2⟩:∃ Y,Y1++bs (be 1 x.kd)=Y:=⟨_,rfl⟩
       obtain⟨Y3,hY3⟩:∃ Y,Y2++bs (be 8 x.bn)=Y:=⟨_,rfl⟩
       obtain⟨Y4,hY4⟩:∃ Y,Y3++bs (be 4 x.rt)=Y:=⟨_,rfl⟩
       obtain⟨Y5,hY5⟩:∃ Y,Y4++bs x.hs=Y:=⟨_,rfl⟩
       obtain⟨X4,hX4⟩:∃ X4,bs (HD3++(V.take i).flatMap Nd.cV.wr)++Y5=X4:=⟨_,rfl⟩
       have HE4:=hid (show X4=bs (HD3++(V.take (i+1)).flatMap Nd.cV.wr) by rw [← hX4,← hY5,← hY4,← hY3,← hY2,← hY1,wrV_tx,bs_app,fm_snoc _ hx,List.append_assoc])
       have z1':Y1.size≤2010:=by rw [← hY1,ByteArray.size_append];omega
       have z2':Y2.size≤2020:=by rw [← hY2,ByteArray.size_append];omega
       have z3':Y3.size≤2030:=by rw [← hY3,ByteArray.size_append];omega
       have z4':Y4.size≤2040:=by rw [← hY4,ByteArray.size_append];omega
       have z5':Y5.size≤2080:=by rw [← hY5,ByteArray.size_append];omega
       have E1:=hid hY1
       have E2:=hid hY2
       have E3:=hid hY3
       have E4:=hid hY4
       have E5:=hid hY5
       have E6:=hid hX4
       have HCV:=hid (fun (w':World) (h:w'.heap[wr.heap.size]?=some (.cells (ecV x).toArray 121 (0,0)))=>(Sp.conv_hash xh (by
        intro j v hv
        rw [cell_of_row _ _ (5+j) _ _ _ h]
        unfold ecV
        rw [fix_of xh,List.getElem?_toArray,show 5+j=j+1+1+1+1+1 by omega]
        simpa using hv):(convert 139 9 (.slice (some ⟨wr.heap.size,5,none⟩) 32 32)).run Tryz.prog w'=.ok (.string (bs x.hs)) w'))
       clear hr hx hX4 hY1 hY2 hY3 hY4 hY5 y1 y2 hb
       generalize bs (HD3++(V.take i).flatMap Nd.cV.wr)=S at *
       generalize tx x.nm=X1 at *
       generalize tx x.fr=X2 at *
       generalize bs (be 1 x.kd)=X3 at *
       generalize bs (be 8 x.bn)=X7 at *
       generalize bs (be 4 x.rt)=X8 at *
       generalize bs x.hs=X5 at *
       go_wp2_with (first
        | (refine wpList_load_at rfl 121 (.tmp 72) rfl b (o+i*37) rfl (ecV x) _ HRG.out Tryz.underlying121 rfl (infoVs x) ?_)
        | (refine wpList_fresh rfl 121 (.tmp 9) (.tmp 73) rfl (ecV x).toArray _ _ rfl rfl (infoVa x) (ecV_sz x) (all_of_one (ecV_one x)) ?_;intro W5 hb5 hr5 hz5;have HB5:=hid ((Hid.out hbel).trans (hb5.mono (Hid.out hbel).size));have HG5:=hid hr5;clear hb5 hr5 hz5))
       have kg:=row_lt HG5.out
       have g0:W5.cell? ⟨wr.heap.size,0,none⟩=some (.string x.nm):=cell_of_row _ _ 0 _ _ _ HG5.out
       have g1:W5.cell? ⟨wr.heap.size,1,none⟩=some (.int .u8 (x.kd:Int)):=cell_of_row _ _ 1 _ _ _ HG5.out
       have g2:W5.cell? ⟨wr.heap.size,2,none⟩=some (.string x.fr):=cell_of_row _ _ 2 _ _ _ HG5.out
       have g3:W5.cell? ⟨wr.heap.size,3,none⟩=some (.int .u64 (x.bn:Int)):=cell_of_row _ _ 3 _ _ _ HG5.out
       have g4:W5.cell? ⟨wr.heap.size,4,none⟩=some (.int .u32 (x.rt:Int)):=cell_of_row _ _ 4 _ _ _ HG5.out
       clear hbs hbel HRG
       generalize wr.heap.size=g at *
       refine wp_region_G (fun w'=>Below W5.heap.size W5 w') (by kernel_rfl) (by kernel_rfl) (Below.refl _ _).drew ?_
       refine wpG_val (.string S) rfl (by rfl) (fun w' hSw=>by go_simp) ?_
       simp only [Gw2Asksa,Gw2Asksb,Gw2Asksc]
       refine wpG_val (.pointer (some ⟨g,0,none⟩)) rfl (by rfl) (fun w' hSw=>by go_simp) ?_
       simp only [Gw2Asksa,Gw2Asksb,Gw2Asksc]
       refine wpG_val (.string x.nm) rfl (by rfl) (fun w' hSw=>by have c:=(Below.cell hSw (p:=⟨g,0,none⟩) kg).trans g0;go_simp) ?_
       simp only [Gw2Asksa,Gw2Asksb,Gw2Asksc]
       refine wpG_call (.string X1) 131 #[.string x.nm] rfl (by rfl) (fun w'=>by go_simp) (fun w' hSw=>(T1.out w').mono fun e w2 h=>⟨h.1,hSw.trans (h.2.mono hSw.size)⟩) ?_
       simp only [Gw2Asksa,Gw2Asksb,Gw2Asksc]
       refine wpG_val (.pointer (some ⟨g,2,none⟩)) rfl (by rfl) (fun w' hSw=>by go_simp) ?_
       simp only [Gw2Asksa,Gw2Asksb,Gw2Asksc]
       refine wpG_val (.string x.fr) rfl (by rfl) (fun w' hSw=>by have c:=(Below.cell hSw (p:=⟨g,2,none⟩) kg).trans g2;go_simp) ?_
       simp only [Gw2Asksa,Gw2Asksb,Gw2Asksc]
       refine wpG_call (.string X2) 131 #[.string x.fr] rfl (by rfl) (fun w'=>by go_simp) (fun w' hSw=>(T2.out w').mono fun e w2 h=>⟨h.1,hSw.trans (h.2.mono hSw.size)⟩) ?_
       simp only [Gw2Asksa,Gw2Asksb,Gw2Asksc]
       refine wpG_val (.string Y1) rfl (by rfl) (fun w' hSw=>by have h:=E1.out;go_simp<;>omega) ?_
       simp only [Gw2Asksa,Gw2Asksb,Gw2Asksc]
       refine wpG_val (.pointer (some ⟨g,1,none⟩)) rfl (by rfl) (fun w' hSw=>by go_simp) ?_
       simp only [Gw2Asksa,Gw2Asksb,Gw2Asksc]
       refine wpG_val (.int .u8 (x.kd:Int)) rfl (by rfl) (fun w' hSw=>by have c:=(Below.cell hSw (p:=⟨g,1,none⟩) kg).trans g1;go_simp) ?_
       simp only [Gw2Asksa,Gw2Asksb,Gw2Asksc]
       refine wpG_val (.int .u64 (x.kd:Int)) rfl (by rfl) (fun w' hSw=>by have h:=UK.out;go_simp) ?_
       simp only [Gw2Asksa,Gw2Asksb,Gw2Asksc]
       refine wpG_call (.string X3) 129 #[.int .u64 (x.kd:Int),.int .i64 1] rfl (by rfl) (fun w'=>by go_simp) (fun w' hSw=>(T3.out w').mono fun e w2 h=>⟨h.1,hSw.trans (h.2.mono hSw.size)⟩) ?_
       simp only [Gw2Asksa,Gw2Asksb,Gw2Asksc]
       refine wpG_val (.string Y2) rfl (by rfl) (fun w' hSw=>by have h:=E2.out;go_simp<;>omega) ?_
       simp only [Gw2Asksa,Gw2Asksb,Gw2Asksc]
       refine wpG_val (.pointer (some ⟨g,3,none⟩)) rfl (by rfl) (fun w' hSw=>by go_simp) ?_
       simp only [Gw2Asksa,Gw2Asksb,Gw2Asksc]
       refine wpG_val (.int .u64 (x.bn:Int)) rfl (by rfl) (fun w' hSw=>by have c:=(Below.cell hSw (p:=⟨g,3,none⟩) kg).trans g3;go_simp) ?_
       simp only [Gw2Asksa,Gw2Asksb,Gw2Asksc]
       refine wpG_call (.string X7) 129 #[.int .u64 (x.bn:Int),.int .i64 8] rfl (by rfl) (fun w'=>by go_simp) (fun w' hSw=>(T4.out w').mono fun e w2 h=>⟨h.1,hSw.trans (h.2.mono hSw.size)⟩) ?_
       simp only [Gw2Asksa,Gw2Asksb,Gw2Asksc]
       refine wpG_val (.string Y3) rfl (by rfl) (fun w' hSw=>by have h:=E3.out;go_simp<;>omega) ?_
       simp only [Gw2Asksa,Gw2Asksb,Gw2Asksc]
       refine wpG_val (.pointer (some ⟨g,4,none⟩)) rfl (by rfl) (fun w' hSw=>by go_simp) ?_
       simp only [Gw2Asksa,Gw2Asksb,Gw2Asksc]
       refine wpG_val (.int .u32 (x.rt:Int)) rfl (by rfl) (fun w' hSw=>by have c:=(Below.cell hSw (p:=⟨g,4,none⟩) kg).trans g4;go_simp) ?_
       simp only [Gw2Asksa,Gw2Asksb,Gw2Asksc]
       refine wpG_val (.int .u64 (x.rt:Int)) rfl (by rfl) (fun w' hSw=>by have h:=UR.out;go_simp) ?_
       simp only [Gw2Asksa,Gw2Asksb,Gw2Asksc]
       refine wpG_call (.string X8) 129 #[.int .u64 (x.rt:Int),.int .i64 4] rfl (by rfl) (fun w'=>by go_simp) (fun w' hSw=>(T5.out w').mono fun e w2 h=>⟨h.1,hSw.trans (h.2.mono hSw.size)⟩) ?_
       simp only [Gw2Asksa,Gw2Asksb,Gw2Asksc]
       refine wpG_val (.string Y4) rfl (by rfl) (fun w' hSw=>by have h:=E4.out;go_simp<;>omega) ?_
       simp only [Gw2Asksa,Gw2Asksb,Gw2Asksc]
       refine wpG_val (.pointer (some ⟨g,5,none⟩)) rfl (by rfl) (fun w' hSw=>by go_simp) ?_
       simp only [Gw2Asksa,Gw2Asksb,Gw2Asksc]
       refine wpG_val (.slice (some ⟨g,5,none⟩) 32 32) rfl (by rfl) (fun w' hSw=>by have c:=(hSw.block _ kg).trans HG5.out;go_simp) ?_
       simp only [Gw2Asksa,Gw2Asksb,Gw2Asksc]
       refine wpG_val (.string X5) rfl (by rfl) (fun w' hSw=>by have c:=HCV.out _ ((hSw.block _ kg).trans HG5.out);go_simp) ?_
       simp only [Gw2Asksa,Gw2Asksb,Gw2Asksc]
       refine wpG_val (.string Y5) rfl (by rfl) (fun w' hSw=>by have h:=E5.out;go_simp<;>omega) ?_
       simp only [Gw2Asksa,Gw2Asksb,Gw2Asksc]
       refine wpG_val (.string X4) rfl (by rfl) (fun w' hSw=>by have h:=E6.out;go_simp<;>omega) ?_
       simp only [Gw2Asksa,Gw2Asksb,Gw2Asksc]
       refine wpG_val (.string X4) rfl (by rfl) (fun w' hSw=>by go_simp) ?_
       simp only [Gw2Asksa,Gw2Asksb,Gw2Asksc]
       refine wpG_nil ?_
       intro w6 hSw6
       have HB6:=hid (HB5.out.trans (hSw6.mono HB5.out.size))
       clear hSw6 g0 g1 g2 g3 g4 kg HB5 HG5
       go_wp2
       exact⟨⟨i+1,by omega,by go_num,by rw [HE4.out],HB6.out⟩,by simp [intOf]<;>omega⟩
      ·have hin:i=nV:=by omega
       have HTK:=hid (show V.take i=V from List.take_of_length_le (by have:=HV.out;omega))
       have HBZ:=hid (HB3.out.trans ((Hid.out hbel).mono HB3.out.size))
       have HFIN:=hid (show bs (HD3++(V.take i).flatMap Nd.cV.wr)=bs (wN ⟨kd,I,K,V⟩) by rw [HTK.out,HWN.out,← EHD3.out,← EHD2.out,List.append_assoc,List.append_assoc])
       rw [HFIN.out]
       clear hin hbel HTK
       go_wp2
       go_ret
       exact⟨rfl,HBZ.out⟩
theorem ck_zero {n:Nd}(h:ckN n=0):rtN n=true∧szN n≤508:=by
 unfold ckN at h
 split at h
 ·rename_i hr
  split at h
  ·cases h
  ·exact⟨hr,by omega⟩
 ·cases h
theorem rt_all {n:Nd}(h:rtN n=true):n.kd<256∧(∀ x∈n.I,x.k.size≤1000∧x.v.size≤1000)∧(∀ x∈n.K,x.k.size≤1000)∧∀ x∈n.V,x.nm.size≤1000∧x.fr.size≤1000:=by
 have hf:=rt_few h
 obtain⟨kd,I,K,V⟩:=n
 unfold rtN at h
 dsimp only at h ⊢
 have none:∀ {α:Type}{l:List α},l.length=0→∀ x∈l,False:=fun hl x hx=>by rw [List.eq_nil_of_length_eq_zero hl] at hx;cases hx
 split at h
 ·rename_i e
  simp only [Bool.and_eq_true,decide_eq_true_eq] at h
  obtain⟨h1,h2⟩:=hf.I e
  exact⟨by omega,fun x hx=>(by have:=h2 x hx;omega),fun x hx=>(none h.1 x hx).elim,fun x hx=>(none h.2.1 x hx).elim⟩
 ·split at h
  ·rename_i e
   simp only [Bool.and_eq_true,decide_eq_true_eq] at h
   obtain⟨h1,h2⟩:=hf.K e
   exact⟨by omega,fun x hx=>(none h.1 x hx).elim,fun x hx=>(by have:=h2 x hx;omega),fun x hx=>(none h.2.1 x hx).elim⟩
  ·split at h
   ·rename_i e
    simp only [Bool.and_eq_true,decide_eq_true_eq] at h
    obtain⟨h1,h2⟩:=hf.V e
    exact⟨by omega,fun x hx=>(none h.1 x hx).elim,fun x hx=>(none h.2.1 x hx).elim,fun x hx=>(by have:=h2 x hx;omega)⟩
   ·cases h
set_option maxRecDepth 100000 in
set_option maxHeartbeats 4000000 in
theorem rencodeN_any (n:Nd) (hw:Wd n) (cs:Array Value) (w:World) (hn:NdAt w cs n) :
  Calls Tryz.prog 72 #[.agg cs] w fun e w'=>e=.returned (.tuple #[.string (encB n),.int .i64 (ckN n)])∧Below w.heap.size w w':=by
 have hcz:=hn.size
 have HI:=hid (show (Tryz.prog.info? 31).map (·.size)=some cs.size by rw [hcz];kernel_rfl)
 have HNA:=hid hn
 have HC:=hid (fun (w':World) (hb:Below w.heap.size w w')=>rcheckN_any n hw cs w' (HNA.out.below hb))
 have HBY:=hid (fun (h0:ckN n=0) (w':World) (hb:Below w.heap.size w w')=>(by
  obtain⟨hr,hs⟩:=ck_zero h0
  obtain⟨r1,r2,r3,r4⟩:=rt_all hr
  exact rbytes_any n hw r1 (by rw [wN_len (rt_fm hw hr)];omega) r2 r3 r4 cs w' (HNA.out.below hb):Calls Tryz.prog 98 #[.agg cs] w' fun e w''=>e=.returned (.string (bs (wN n)))∧Below w'.heap.size w' w''))
 have HWH:=hid (fun (h0:ckN n=0) (w':World)=>(by
  obtain⟨hr,hs⟩:=ck_zero h0
  have:=whole_any (bs (wN n)) (by rw [bs_size,wN_len (rt_fm hw hr)];omega) w'
  rw [bs_data] at this
  exact this:Calls Tryz.prog 97 #[.string (bs (wN n))] w' fun e w''=>e=.returned (.string (bs (sealL (wN n))))∧Below w'.heap.size w' w''))
 have HEY:=hid (fun h:ckN n=0=>(show encB n=bs (sealL (wN n)) by unfold encB;rw [if_pos h];rfl))
 have HEN:=hid (fun h:ckN n≠0=>(show encB n=ByteArray.empty by unfold encB;rw [if_neg h]))
 generalize bs (sealL (wN n))=R at *
 generalize bs (wN n)=S at *
 generalize encB n=EB at *
 generalize ckN n=C at *
 have R0:=hid (heap_alloc_new w (.cells cs 31))
 have B0:=hid ((Below.refl w.heap.size w).alloc (Nat.le_refl _) (.cells cs 31))
 clear hn hcz
 go_enter Tryz.func72,Tryz.ntmps72
 go_wp2_with (refine wpList_load_row rfl 31 (.tmp 1) rfl w.heap.size rfl 31 cs (0,0) _ R0.out Tryz.underlying31 rfl HI.out ?_)
 generalize w.alloc _=w0 at *
 refine (HC.out _ B0.out).mono ?_
 rintro e w1 ⟨rfl,hb⟩
 have R1:=hid ((hb.block _ (row_lt R0.out)).trans R0.out)
 have B1:=hid (B0.out.trans (hb.mono B0.out.size))
 clear hb R0 B0 HC
 by_cases h0:C=0
 ·have E:=HEY.out h0
  have HB:=hid (HBY.out h0 w1 B1.out)
  have HH:=hid (HWH.out h0)
  subst h0 E
  clear HEY HEN HBY HWH
  go_wp2_with (refine wpList_load_row rfl 31 (.tmp 1) rfl w.heap.size rfl 31 cs (0,0) _ R1.out Tryz.underlying31 rfl HI.out ?_)
  refine HB.out.mono ?_
  rintro e w2 ⟨rfl,hb⟩
  have B2:=hid (B1.out.trans (hb.mono B1.out.size))
  clear hb B1 R1 HB
  go_wp2_with fail
  refine (HH.out _).mono ?_
  rintro e w3 ⟨rfl,hb⟩
  have B3:=hid (B2.out.trans (hb.mono B2.out.size))
  clear hb B2 HH
  go_wp2
  go_ret2
  exact⟨rfl,B3.out⟩
 ·have E:=HEN.out h0
  subst E
  have q:(C != 0)=true:=by rw [bne_iff_ne];exact h0
  clear HEY HEN HBY HWH h0
  go_wp2
  go_ret2
  exact⟨rfl,B1.out⟩
open Pk (be num u8s u8s_length num_lt)
theorem tb_few {l:List UInt8}(h:(tbN l).2=false):Wd (tbN l).1∧(tbN l).1.I.length≤255∧(tbN l).1.K.length≤255∧(tbN l).1.V.length≤255:=by
 obtain⟨kd,s1,hp⟩:∃ kd s1,tkNum 1 (l,false)=(kd,s1):=⟨_,_,rfl⟩
 obtain⟨c,s2,hq⟩:∃ c s2,tkNum 1 s1=(c,s2):=⟨_,_,rfl⟩
 have hc:=num_byte s1
 rw [hq] at hc
 dsimp only at hc
 have e:tbN l=if kd=1 then (⟨kd,(tkMany cI c s2).1,[],[]⟩,(tkMany cI c s2).2.2) else if kd=2 then (⟨kd,[],(tkMany cK c s2).1,[]⟩,(tkMany cK c s2).2.2) else if kd=3 then (⟨kd,[],[],(tkMany cV c s2).1⟩,(tkMany cV c s2).2.2) else (⟨kd,[],[],[]⟩,s2.2||decide (0<c)):=by
  unfold tbN
  rw [hp]
  dsimp only
  rw [hq]
 rw [e] at h ⊢
 have many:∀ {α:Type}{C:Cod α},C.Good→(tkMany C c s2).2.2=false→(tkMany C c s2).1.length=c∧∀ x∈(tkMany C c s2).1,C.ok x:=by
  intro α C hC hf
  obtain⟨l2,b2⟩:=s2
  cases b2 with
  | false=>have:=many_fwd hC c l2 hf;exact⟨this.1,this.2.1⟩
  | true =>
   have:∀ n (s:S),s.2=true→(tkMany C n s).2.2=true:=by
    intro n
    cases n with
    | zero=>intro s hs;exact hs
    | succ n=>intro s hs;rw [tkMany,if_pos (hC.stay s hs)];exact hC.stay s hs
   rw [this c _ rfl] at hf
   cases hf
 by_cases h1:kd=1
 ·rw [if_pos h1] at h ⊢
  obtain⟨m1,m2⟩:=many cI_good h
  exact⟨⟨fun x hx=>(by cases hx),fun x hx=>(by cases hx)⟩,by dsimp only;omega,by dsimp only [List.length_nil];omega,by dsimp only [List.length_nil];omega⟩
 ·rw [if_neg h1] at h ⊢
  by_cases h2:kd=2
  ·rw [if_pos h2] at h ⊢
   obtain⟨m1,m2⟩:=many cK_good h
   exact⟨⟨fun x hx=>⟨(m2 x hx).2.1,(m2 x hx).2.2⟩,fun x hx=>(by cases hx)⟩,by dsimp only [List.length_nil];omega,by dsimp only;omega,by dsimp only [List.length_nil];omega⟩
  ·rw [if_neg h2] at h ⊢
   by_cases h3:kd=3
   ·rw [if_pos h3] at h ⊢
    obtain⟨m1,m2⟩:=many cV_good h
    exact⟨⟨fun x hx=>(by cases hx),fun x hx=>⟨(m2 x hx).2.2.1,(m2 x hx).2.2.2.1,(m2 x hx).2.2.2.2.1,(m2 x hx).2.2.2.2.2⟩⟩,by dsimp only [List.length_nil];omega,by dsimp only [List.length_nil];omega,by dsimp only;omega⟩
   ·rw [if_neg h3]
    exact⟨⟨fun x hx=>(by cases hx),fun x hx=>(by cases hx)⟩,by dsimp only [List.length_nil];omega,by dsimp only [List.length_nil];omega,by dsimp only [List.length_nil];omega⟩
theorem tb_tk {l:List UInt8}(h:(tkN l).2=true) (hk:(tkN l).1.kd=1∨(tkN l).1.kd=2∨(tkN l).1.kd=3):tbN l=((tkN l).1,false):=by
 obtain⟨kd,s1,hp⟩:∃ kd s1,tkNum 1 (l,false)=(kd,s1):=⟨_,_,rfl⟩
 obtain⟨c,s2,hq⟩:∃ c s2,tkNum 1 s1=(c,s2):=⟨_,_,rfl⟩
 unfold tkN tbN at *
 rw [hp] at h hk ⊢
 dsimp only at h hk ⊢
 rw [hq] at h hk ⊢
 dsimp only at h hk ⊢
 by_cases h1:kd=1
 ·rw [if_pos h1] at h ⊢
  rw [if_pos h1]
  simp only [Bool.and_eq_true,Bool.not_eq_true'] at h
  rw [h.1]
 ·rw [if_neg h1] at h hk ⊢
  rw [if_neg h1]
  by_cases h2:kd=2
  ·rw [if_pos h2] at h ⊢
   rw [if_pos h2]
   simp only [Bool.and_eq_true,Bool.not_eq_true'] at h
   rw [h.1]
  ·rw [if_neg h2] at h hk ⊢
   rw [if_neg h2]
   by_cases h3:kd=3
   ·rw [if_pos h3] at h ⊢
    rw [if_pos h3]
    simp only [Bool.and_eq_true,Bool.not_eq_true'] at h
    rw [h.1]
   ·rw [if_neg h3] at hk
    dsimp only at hk
    omega
theorem dec_way {d:List UInt8}(hd:d.length≤512):decN d=if (tbN ((fillz d 512).drop 4)).2=false∧ckN (tbN ((fillz d 512).drop 4)).1=0∧encN (tbN ((fillz d 512).drop 4)).1=d then some (tbN ((fillz d 512).drop 4)).1 else none:=by
 by_cases h:(tbN ((fillz d 512).drop 4)).2=false∧ckN (tbN ((fillz d 512).drop 4)).1=0∧encN (tbN ((fillz d 512).drop 4)).1=d
 ·rw [if_pos h]
  have:=dec_enc (tb_few h.1).1 h.2.1
  rwa [h.2.2] at this
 ·rw [if_neg h]
  cases hn:decN d with
  | none=>rfl
  | some n =>
   exfalso
   apply h
   obtain⟨h1,h2,h3⟩:=enc_dec hn
   unfold decN at hn
   split at hn
   ·cases hn
   ·rename_i w hw
    have e:w=(fillz d 512).drop 4:=by
     unfold openL at hw
     split at hw
     ·cases hw
     ·split at hw
      ·exact (Option.some.inj hw).symm
      ·cases hw
    subst e
    split at hn
    ·rename_i hc
     cases hn
     rw [tb_tk hc.1 (rt_kd (Nd.ck_zero.1 hc.2).1)]
     exact⟨rfl,h1,h3⟩
    ·cases hn
theorem own_go {w w' w'':World}{cs:Array Value}{n:Nd}(h:NdOwn w w' cs n) (hb:Below w'.heap.size w' w''):NdOwn w w'' cs n:=by
 obtain⟨vI,vK,vV,rfl,mI,mK,mV⟩:=h
 exact⟨vI,vK,vV,rfl,mI.go hb,mK.go hb,mV.go hb⟩
theorem own_put {w w':World}{cs ds Z:Array Value}{n:Nd}{r:Nat}(h:NdOwn w w' cs n) (hr:w'.heap[r]?=some (.cells Z 31 (0,0))) (h0:w.heap.size≤r):NdOwn w (w'.setRow r ds) cs n:=by
 obtain⟨vI,vK,vV,rfl,mI,mK,mV⟩:=h
 have hs:=grown_setRow w' r ds
 exact⟨vI,vK,vV,rfl,mI.grownQ hs h0 (mI.off hr (by decide)),mK.grownQ hs h0 (mK.off hr (by decide)),mV.grownQ hs h0 (mV.off hr (by decide))⟩
theorem own_since {w0 w w':World}{cs:Array Value}{n:Nd}(h:NdOwn w w' cs n) (hb:Below w0.heap.size w0 w):NdOwn w0 w' cs n:=by
 obtain⟨vI,vK,vV,rfl,mI,mK,mV⟩:=h
 exact⟨vI,vK,vV,rfl,mI.since hb,mK.since hb,mV.since hb⟩
theorem below_put {w w':World}{r:Nat}(h:Below w.heap.size w w') (h0:w.heap.size≤r) (cs:Array Value):Below w.heap.size w (w'.setRow r cs) :=
 h.grown (grown_setRow w' r cs) h.size (fun k hk=>by cases hk;exact h0)
theorem ne_strN {x y:ByteArray}(h:x≠y):(x.toList != y.toList)=true∧(x.toList==y.toList)=false:=by
 have e:(x.toList==y.toList)=false:=by
  rw [beq_eq_false_iff_ne,ByteArray.toList_eq,ByteArray.toList_eq]
  exact fun e=>h (ByteArray.ext (Array.toList_inj.1 e))
 exact⟨by rw [bne,e];rfl,e⟩
theorem decN_big {d:List UInt8}(h:512<d.length):decN d=none:=by
 unfold decN openL
 rw [if_pos (.inl h)]
theorem zN_one:(zN:Array Value).all (·.oneCell')=true:=four_cells _ _ _ _ rfl rfl rfl rfl
set_option maxRecDepth 100000 in
set_option maxHeartbeats 8000000 in
theorem rdecodeN_any (d:ByteArray) (hd:d.size≤9223372036854775807) (w:World):Calls Tryz.prog 42 #[.string d] w (DePost d w):=by
 have R0:=hid (heap_alloc_new w (.cells zN 31))
 have B0:=hid ((Below.refl w.heap.size w).alloc (Nat.le_refl _) (.cells zN 31))
 have hl:d.data.toList.length=d.size:=by rw [Array.length_toList];rfl
 by_cases hbig:512<d.size
 ·have HN:=hid (decN_big (d:=d.data.toList) (by omega))
  have q:decide ((512:Int)<(d.size:Int))=true:=by simp;omega
  have R4:=hid (setRow_heap' (cs:=zN) R0.out)
  have B4:=hid (below_put B0.out (Nat.le_refl _) zN)
  clear hbig hl
  go_enter Tryz.func42,Tryz.ntmps42
  go_wp2_with (refine wpList_store_row rfl 31 (.tmp 2) (.tmp 11) rfl w.heap.size zN rfl rfl 31 zN R0.out infoN4 rfl zN_one ?_)
  refine bodyPost_ret (v:=.tuple #[.agg zN,.int .i64 9]) (results_row2 rfl _ _ w.heap.size 31 zN (0,0) _ rfl R4.out Tryz.underlying31 rfl infoN4 _ rfl) rfl ?_
  exact de_none HN.out rfl B4.out
 have q:decide ((512:Int)<(d.size:Int))=false:=by simp;omega
 have HW:=hid (dec_way (d:=d.data.toList) (by omega))
 have hxl:(fillz d.data.toList 512).length=512:=fillz_len (by omega)
 have hxz:(bs (fillz d.data.toList 512)).size=512:=by rw [bs_size];exact hxl
 have h508:((fillz d.data.toList 512).drop 4).length=508:=by rw [List.length_drop,hxl]
 have hr0:(bs (fillz d.data.toList 512)).extract 4 512=bs ((fillz d.data.toList 512).drop 4):=by
  have:=extract_bs (bs (fillz d.data.toList 512)) 4
  rwa [hxz,bs_data] at this
 have HFI:=hid (fun w=>rfilled_any d (by omega) w)
 generalize (fillz d.data.toList 512).drop 4=l0 at *
 generalize bs (fillz d.data.toList 512)=X at *
 have H508:=hid h508
 have HR0:=hid hr0
 clear h508 hr0 hxl hl hbig
 go_enter Tryz.func42,Tryz.ntmps42
 go_wp2_with fail
 generalize w.alloc _=W at *
 refine (HFI.out _).mono ?_
 rintro e w1 ⟨rfl,hb⟩
 have R1:=hid ((hb.block _ (row_lt R0.out)).trans R0.out)
 have B1:=hid (B0.out.trans (hb.mono B0.out.size))
 have l1:=row_lt R1.out
 clear hb R0 B0 HFI
 have hx6:(4:Int)≤(X.size:Int):=by omega
 have hx0:X.extract 4 512=bs l0:=HR0.out
 have hx512:X.size=512:=hxz
 have hal:Below w1.heap.size w1 (w1.alloc (.cells #[.string (bs l0),.bool false] 125)):=(Below.refl _ _).alloc (Nat.le_refl _) _
 have HBG:=hid (show BagR (w1.alloc (.cells #[.string (bs l0),.bool false] 125)) w1.heap.size (l0,false) from⟨bs l0,heap_alloc_new w1 _,by rw [bs_size,H508.out];omega,fun _=>rfl⟩)
 have HAL:=hid hal
 clear hal l1
 go_wp2_with fail
 generalize w1.alloc _=w2 at *
 clear hx0 hx6 hx512 hxz
 refine (take_R w1 l0 (by rw [H508.out];decide) w1.heap.size (Nat.le_refl _) w2 HAL.out HBG.out).mono ?_
 rintro e w3 ⟨cs,SB,rfl,hbag,hbel,hsz,hone,hown⟩
 obtain⟨bad,hbd⟩:∃ b,(tbN l0).2=b:=⟨_,rfl⟩
 obtain⟨n,hnd⟩:∃ n,(tbN l0).1=n:=⟨_,rfl⟩
 have HF:=hid (fun h:(tbN l0).2=false=>tb_few h)
 rw [hbd] at hbag hown HW HF
 rw [hnd] at hown HW HF
 have HBAG:=hid hbag
 have HSZ:=hid hsz
 have HONE:=hid hone
 have HOWN:=hid hown
 have HI:=hid (show (Tryz.prog.info? 31).map (·.size)=some cs.size by rw [hsz];exact infoN4)
 have HZ4:=hid (show (zN:Array Value).size=cs.size by rw [hsz];rfl)
 have R3:=hid ((hbel.block _ (row_lt R1.out)).trans R1.out)
 have B3:=hid (B1.out.trans (hbel.mono B1.out.size))
 have HB1:=hid B1.out
 clear hbag hsz hone hown hbel hbd hnd HBG H508 HR0 R1 B1
 generalize w1.heap.size=g at *
 cases bad
 ·have hf:=HF.out rfl
  obtain⟨hw,k1,k2,k3⟩:=hf
  have HEN:=hid (fun w h=>rencodeN_any n hw cs w h)
  have HOW:=hid (own_since (HOWN.out rfl) HB1.out)
  go_wp2_with (first
   | (refine wpList_fresh rfl 31 (.tmp 5) (.tmp 18) rfl cs _ 31 rfl rfl HI.out HZ4.out HONE.out ?_;intro w4 hb hrow hz4;have R4:=hid ((hb.block _ (row_lt R3.out)).trans R3.out);have Q4:=hid hrow;have B4:=hid (B3.out.trans (hb.mono B3.out.size));have c1:w4.cell? ⟨g,1,none⟩=some (.bool false):=(HBAG.out.below hb).c1;have HO4:=hid (own_go HOW.out hb);clear hb hrow hz4 R3 B3)
   | (refine wpList_load_row rfl 31 (.tmp 5) rfl w3.heap.size rfl 31 cs (0,0) _ Q4.out Tryz.underlying31 rfl HI.out ?_))
  refine (HEN.out _ (HO4.out.at_ (by omega) (by omega) (by omega))).mono ?_
  rintro e w5 ⟨rfl,hb⟩
  have R5:=hid ((hb.block _ (row_lt R4.out)).trans R4.out)
  have Q5:=hid ((hb.block _ (row_lt Q4.out)).trans Q4.out)
  have B5:=hid (B4.out.trans (hb.mono B4.out.size))
  have HO5:=hid (own_go HO4.out hb)
  have RA:=hid (setRow_heap' (cs:=zN) R5.out)
  have RB:=hid (setRow_heap' (cs:=cs) R5.out)
  have BA:=hid (below_put B5.out (Nat.le_refl _) zN)
  have HOB:=hid (own_put (ds:=cs) HO5.out R5.out (Nat.le_refl _))
  clear hb R4 Q4 B4 HO4 HEN c1 hw k1 k2 k3
  by_cases hok:ckN n=0
  ·have HE:=hid (show encB n=bs (encN n) from if_pos hok)
   rw [HE.out,hok]
   by_cases hsame:encN n=d.data.toList
   ·have HD:=hid (show decN d.data.toList=some n by rw [HW.out,if_pos ⟨by trivial,hok,hsame⟩])
    have hx:bs (encN n)=d:=by rw [hsame,data_bs]
    rw [hx]
    have s1:(d.toList != d.toList)=false:=by rw [bne,beq_self_eq_true];rfl
    clear hok hsame hx HW HE
    go_wp2_with (first
     | (refine wpList_load_row rfl 31 (.tmp 5) rfl w3.heap.size rfl 31 cs (0,0) _ Q5.out Tryz.underlying31 rfl HI.out ?_)
     | (refine wpList_store_row rfl 31 (.tmp 2) (.tmp 37) rfl w.heap.size cs rfl rfl 31 zN R5.out HI.out HZ4.out HONE.out ?_))
    refine bodyPost_ret (v:=.tuple #[.agg cs,.int .i64 0]) (results_row2 rfl _ _ w.heap.size 31 cs (0,0) _ rfl RB.out Tryz.underlying31 rfl HI.out _ rfl) rfl ?_
    exact de_some HD.out rfl HOB.out
   ·have HD:=hid (show decN d.data.toList=none by rw [HW.out,if_neg (fun h=>hsame h.2.2)])
    obtain⟨s1,s2⟩:=ne_strN (show bs (encN n)≠d from fun e=>hsame (by rw [← e,bs_data]))
    generalize bs (encN n)=y at *
    clear hok hsame HW HE
    go_wp2_with (refine wpList_store_row rfl 31 (.tmp 2) (.tmp 36) rfl w.heap.size zN rfl rfl 31 zN R5.out infoN4 rfl zN_one ?_)
    refine bodyPost_ret (v:=.tuple #[.agg zN,.int .i64 9]) (results_row2 rfl _ _ w.heap.size 31 zN (0,0) _ rfl RA.out Tryz.underlying31 rfl infoN4 _ rfl) rfl ?_
    exact de_none HD.out rfl BA.out
  ·have HD:=hid (show decN d.data.toList=none by rw [HW.out,if_neg (fun h=>hok h.2.1)])
   have k0:(ckN n != 0)=true:=by rw [bne_iff_ne];exact hok
   generalize encB n=y at *
   generalize ckN n=c at *
   clear HW
   go_wp2_with (refine wpList_store_row rfl 31 (.tmp 2) (.tmp 36) rfl w.heap.size zN rfl rfl 31 zN R5.out infoN4 rfl zN_one ?_)
   refine bodyPost_ret (v:=.tuple #[.agg zN,.int .i64 9]) (results_row2 rfl _ _ w.heap.size 31 zN (0,0) _ rfl RA.out Tryz.underlying31 rfl infoN4 _ rfl) rfl ?_
   exact de_none HD.out rfl BA.out
 ·have HD:=hid (show decN d.data.toList=none by rw [HW.out,if_neg (fun h=>by cases h.1)])
  clear HW HOWN HF
  have R4':=hid (fun (w4:World) (h:w4.heap[w.heap.size]?=some (.cells zN 31 (0,0)))=>setRow_heap' (cs:=zN) h)
  go_wp2_with (first
   | (refine wpList_fresh rfl 31 (.tmp 5) (.tmp 18) rfl cs _ 31 rfl rfl HI.out HZ4.out HONE.out ?_;intro w4 hb hrow hz4;have R4:=hid ((hb.block _ (row_lt R3.out)).trans R3.out);have B4:=hid (B3.out.trans (hb.mono B3.out.size));have c1:w4.cell? ⟨g,1,none⟩=some (.bool true):=(HBAG.out.below hb).c1;have RA:=hid (setRow_heap' (cs:=zN) R4.out);have BA:=hid (below_put B4.out (Nat.le_refl _) zN);clear hb hrow hz4 R3 B3)
   | (refine wpList_store_row rfl 31 (.tmp 2) (.tmp 23) rfl w.heap.size zN rfl rfl 31 zN R4.out infoN4 rfl zN_one ?_))
  refine bodyPost_ret (v:=.tuple #[.agg zN,.int .i64 9]) (results_row2 rfl _ _ w.heap.size 31 zN (0,0) _ rfl RA.out Tryz.underlying31 rfl infoN4 _ rfl) rfl ?_
  exact de_none HD.out rfl BA.out
end Go.Proofs.YtlpejbbmemhloaaGreatDoor.Nr
namespace Go.Proofs.YtlpejbbmemhloaaGreatDoor.Hp
open Lib (hid)
set_option linter.unusedVariables false
set_option linter.unusedSimpArgs false
set_option maxRecDepth 100000
open Go.ChangeShapes Go.WideShapes Go.ChangeAt Go.RowKit
open Ar Nd
open BigFrame
set_option maxHeartbeats 4000000 in
theorem node_R (c:Ce) (hd:c.d.size≤9223372036854775807) (w:World) :
  Calls Tryz.prog 36 #[.agg #[.int .u32 c.num,.string c.d,.int .i64 c.r]] w fun e w'=>∃ cs,e=.returned (.agg cs)∧NdOwn w w' cs (ndD c.d):=by
 have HD:=hid hd
 obtain⟨R1,R2,S0,Z0⟩:=two_new w #[.int .u32 c.num,.string c.d,.int .i64 c.r] zN 75 31
 have HC:=hid R1
 have HR0:=hid R2
 have HB0:=hid S0
 clear R1 R2 S0 Z0 hd
 go_enter Tryz.func36,Tryz.ntmps36
 go_wp2_with fail
 refine (Nr.rdecodeN_any c.d HD.out _).mono ?_
 rintro e w2 ⟨nd,cs,rfl,hown,hnd⟩
 have HND:=hid (show nd=ndD c.d from hnd)
 generalize (if (decN c.d.data.toList).isSome then (0:Int) else 9)=z
 have HR2:=hid ((hown.bel.block _ (row_lt HR0.out)).trans HR0.out)
 have HB2:=hid (HB0.out.trans (hown.bel.mono HB0.out.size))
 have HO:=hid (hown.since HB0.out)
 obtain⟨vI,vK,vV,rfl,ho1,ho2,ho3⟩:=hown
 obtain⟨BI,mI,dI,rfl⟩:=own_shape ho1.1
 obtain⟨BK,mK,dK,rfl⟩:=own_shape ho2.1
 obtain⟨BV,mV,dV,rfl⟩:=own_shape ho3.1
 clear ho1 ho2 ho3 hnd HC HR0 HB0
 have hal:Below w2.heap.size w2 (w2.alloc (.cells #[.int .u8 nd.kd,.slice BI mI dI,.slice BK mK dK,.slice BV mV dV] 31)):=(Below.refl _ _).alloc (Nat.le_refl _) _
 have HR3:=hid ((hal.block _ (row_lt HR2.out)).trans HR2.out)
 have HB3:=hid (HB2.out.trans (hal.mono HB2.out.size))
 have HO3:=hid (HO.out.go hal)
 clear hal HR2 HB2 HO
 have k0:(w2.alloc (.cells #[.int .u8 nd.kd,.slice BI mI dI,.slice BK mK dK,.slice BV mV dV] 31)).cell? ⟨w.heap.size+1,0,none⟩=some (.int .u8 0):=cell_of_row _ _ 0 _ _ _ HR3.out
 have k1:(w2.alloc (.cells #[.int .u8 nd.kd,.slice BI mI dI,.slice BK mK dK,.slice BV mV dV] 31)).cell? ⟨w.heap.size+1,1,none⟩=some (.slice none 0 0):=cell_of_row _ _ 1 _ _ _ HR3.out
 have k2:(w2.alloc (.cells #[.int .u8 nd.kd,.slice BI mI dI,.slice BK mK dK,.slice BV mV dV] 31)).cell? ⟨w.heap.size+1,2,none⟩=some (.slice none 0 0):=cell_of_row _ _ 2 _ _ _ HR3.out
 have k3:(w2.alloc (.cells #[.int .u8 nd.kd,.slice BI mI dI,.slice BK mK dK,.slice BV mV dV] 31)).cell? ⟨w.heap.size+1,3,none⟩=some (.slice none 0 0):=cell_of_row _ _ 3 _ _ _ HR3.out
 have f0:=frozen_of_row _ (w.heap.size+1) 0 _ _ HR3.out
 have f1:=frozen_of_row _ (w.heap.size+1) 1 _ _ HR3.out
 have f2:=frozen_of_row _ (w.heap.size+1) 2 _ _ HR3.out
 have f3:=frozen_of_row _ (w.heap.size+1) 3 _ _ HR3.out
 have l0:=row_lt HR3.out
 go_wp2_with fail
 have Q1:=row_set (cs:=zN.toList) (i:=0) (u:=.int .u8 nd.kd) HR3.out
 have Q2:=row_set (i:=1) (u:=.slice BI mI dI) Q1
 have Q3:=row_set (i:=2) (u:=.slice BK mK dK) Q2
 have Q4:=row_set (i:=3) (u:=.slice BV mV dV) Q3
 refine bodyPost_ret (v:=.agg #[.int .u8 nd.kd,.slice BI mI dI,.slice BK mK dK,.slice BV mV dV]) (results_cell_row rfl _ _ (w.heap.size+1) 31 #[.int .u8 nd.kd,.slice BI mI dI,.slice BK mK dK,.slice BV mV dV] (0,0) _ rfl Q4 Tryz.underlying31 rfl (by kernel_rfl)) rfl ?_
 refine⟨_,rfl,?_⟩
 rw [← HND.out]
 have hN:=OwN.of HO3.out (Nat.le_refl _)
 exact (((((hN.cell HR3.out (by decide)).cell Q1 (by decide)).cell Q2 (by decide)).cell Q3 (by decide))).out (HB3.out.trans (below_of_grown (grown_trans (grown_trans (grown_trans (grown_cell _ _ _ _) (grown_cell _ _ _ _)) (grown_cell _ _ _ _)) (grown_cell _ _ _ _)) HB3.out.size (Nat.le_succ _)))
end Go.Proofs.YtlpejbbmemhloaaGreatDoor.Hp
namespace Go.Proofs.YtlpejbbmemhloaaGreatDoor.Nr
open Lib (hid)
set_option linter.unusedVariables false
set_option linter.unusedSimpArgs false
open Go.ChangeShapes Go.WideShapes Go.ChangeAt Go.RowKit
open Nd Ar Rg
open BigFrame
theorem map_sn {α β:Type}(f:α→β){D:List α}{i:Nat}{x:α}(h:D[i]?=some x):(D.take (i+1)).map f=(D.take i).map f++[f x]:=by
 rw [List.take_add_one,h];simp
theorem filt_sn {D:List Vo}{i:Nat}{x:Vo}(h:D[i]?=some x):((D.take (i+1)).filter isV).map (·.rt)=((D.take i).filter isV).map (·.rt)++(if isV x then [x.rt] else []):=by
 rw [List.take_add_one,h]
 cases hx:isV x<;>simp [hx]
set_option maxRecDepth 100000 in
set_option maxHeartbeats 8000000 in
theorem rkids_any (n:Nd) (hw:Wd n) (hs1:n.K.length≤2513169434915) (hs2:n.V.length≤2513169434915) (cs:Array Value) (w:World) (hn:NdAt w cs n) :
  Calls Tryz.prog 69 #[.agg cs] w fun e w'=>∃ v,e=.returned v∧MkU w w' v (kdN n):=by
 obtain⟨AI,nI,cI,AK,nK,cK,AV,nV,cV,rfl,hI,hK,hV,bI,bK,bV,lI,lK,lV⟩:=hn
 obtain⟨kd,I,K,V⟩:=n
 dsimp only at hI hK hV lI lK lV hs1 hs2
 have HB0:=hid (show Below w.heap.size w (w.alloc (.cells #[.int .u8 (kd:Int),.slice AI nI cI,.slice AK nK cK,.slice AV nV cV] 31)) from (Below.refl _ _).alloc (Nat.le_refl _) _)
 have HK:=hid hK
 have HV:=hid hV
 have LK:=hid lK
 have LV:=hid lV
 have hk9:nK≤2513169434915:=by omega
 have hv9:nV≤2513169434915:=by omega
 clear hI hK hV lI lK lV hw hs1 hs2
 by_cases k2:kd=2
 ·have q2:((kd:Int)==2)=true:=by rw [k2];rfl
  have q3:((kd:Int)==3)=false:=by rw [k2];rfl
  have HKD:=hid (show kdN ⟨kd,I,K,V⟩=K.map (·.n) by unfold kdN nmN;rw [if_pos k2,List.map_map];rfl)
  rw [HKD.out]
  clear k2
  have hc0:(w.alloc (.cells #[.int .u8 (kd:Int),.slice AI nI cI,.slice AK nK cK,.slice AV nV cV] 31)).cell? ⟨w.heap.size,0,none⟩=some (.int .u8 (kd:Int)):=by simp
  have HR0:=hid (heap_alloc_new w (.cells #[.int .u8 (kd:Int),.slice AI nI cI,.slice AK nK cK,.slice AV nV cV] 31))
  go_enter Tryz.func69,Tryz.ntmps69
  go_wp2_with fail
  clear hc0
  generalize w.alloc _=w0 at *
  go_loopw [3,14] (fun av v wr=>∃ (i:Nat) (E:List Nat),i≤nK∧v=.int .i64 i∧Hid (E=(K.take i).map (·.n))∧Hid (E.length≤i)∧Hid (MkU w0 wr av E)) (fun _ v _=>nK-(intOf v).toNat)
  case atStart=>exact⟨0,[],Nat.zero_le _,by go_num,rfl,Nat.le_refl _,Mk.nil (Below.refl _ _)⟩
  case round =>
   obtain⟨i,E,hi,rfl,hE,hEl,hmk⟩:=hrel
   by_cases hlt:i<nK
   ·obtain⟨x,hx⟩:∃ x,K[i]?=some x:=⟨_,List.getElem?_eq_getElem (by rw [← HK.out];exact hlt)⟩
    have HDL:=hid (show E.length≤2513169434915 by have h:=Hid.out hEl;omega)
    obtain⟨b,o,hAe,hb,hr⟩:=(LK.out.below (HB0.out.trans ((Hid.out hmk).2.mono HB0.out.size))) i x hx
    have hbs:b<wr.heap.size:=Nat.lt_of_lt_of_le hb (Nat.le_trans HB0.out.size (Hid.out hmk).2.size)
    have HRG:=hid hr
    have HM:=hid (Hid.out hmk)
    have HDN:=hid (show E++[x.n]=(K.take (i+1)).map (·.n) by rw [map_sn (·.n) hx,← Hid.out hE])
    have HLN2:=hid (show (E++[x.n]).length≤i+1 by rw [List.length_append];have h:=Hid.out hEl;simp;exact h)
    clear hr hmk hx
    subst hAe
    go_wp2_with (first
     | (refine wpList_load_at rfl 45 (.tmp 16) rfl b (o+i*34) rfl (ecK x) _ HRG.out Tryz.underlying45 rfl (infoKs x) ?_)
     | (refine wpList_fresh rfl 45 (.tmp 5) (.tmp 17) rfl (ecK x).toArray _ _ rfl rfl (infoKa x) (ecK_sz x) (all_of_one (ecK_one x)) ?_;intro W hb1 hr1 hz1;have HM1:=hid ((HM.out.go hb1).alloc (.cells #[.int .u32 x.n] 22));have HX2:=hid (heap_alloc_new W (.cells #[.int .u32 x.n] 22));have c0:W.cell? ⟨wr.heap.size,1,none⟩=some (.int .u32 x.n):=cell_of_row _ _ 1 _ _ _ hr1;clear hr1 hz1 hb1 HM HRG)
     | (refine wpList_plain rfl (fun K1 hK1=>op_catU HM1.out x.n W.heap.size 1 HX2.out (by have:=HDL.out;omega) (.tmp 18) (.tmp 21) rfl rfl rfl (fun v5 w5 hm5 hg5 hat5=>hK1 _ _ ?_));obtain⟨A5,n5,c5,rfl⟩:∃ A n c,v5=.slice A n c:=(by obtain⟨A,c,h,_⟩:=hm5.ls (show ∀ x,(enU x).length=1 from fun _=>rfl);exact⟨A,_,c,h⟩);have HM5:=hid hm5;clear hm5 hg5 hat5))
    exact⟨⟨i+1,E++[x.n],by omega,by go_num,HDN.out,HLN2.out,HM5.out⟩,by simp [intOf]<;>omega⟩
   ·have HE:=hid (show E=K.map (·.n) by have h:=Hid.out hE;rwa [List.take_of_length_le (by rw [← HK.out];omega)] at h)
    have HM:=hid ((Hid.out hmk).since HB0.out)
    have d0:wr.cell? ⟨w.heap.size,0,none⟩=some (.int .u8 (kd:Int)):=cell_of_row _ _ 0 _ _ _ (((Hid.out hmk).2.block _ (row_lt HR0.out)).trans HR0.out)
    clear hE hmk
    go_wp2
    go_ret
    exact⟨_,rfl,by rw [← HE.out];exact HM.out⟩
 have q2:((kd:Int)==2)=false:=by rw [beq_eq_false_iff_ne];omega
 by_cases k3:kd=3
 ·have q3:((kd:Int)==3)=true:=by rw [k3];rfl
  have HKD:=hid (show kdN ⟨kd,I,K,V⟩=(V.filter isV).map (·.rt) by unfold kdN nmN;rw [if_neg k2,if_pos k3,List.map_map];rfl)
  rw [HKD.out]
  clear k2 k3
  go_enter Tryz.func69,Tryz.ntmps69
  go_wp2_with fail
  generalize w.alloc _=w0 at *
  go_loopw [3,30] (fun av v wr=>∃ (i:Nat) (E:List Nat),i≤nV∧v=.int .i64 i∧Hid (E=((V.take i).filter isV).map (·.rt))∧Hid (E.length≤i)∧Hid (MkU w0 wr av E)) (fun _ v _=>nV-(intOf v).toNat)
  case atStart=>exact⟨0,[],Nat.zero_le _,by go_num,rfl,Nat.le_refl _,Mk.nil (Below.refl _ _)⟩
  case round =>
   obtain⟨i,E,hi,rfl,hE,hEl,hmk⟩:=hrel
   by_cases hlt:i<nV
   ·obtain⟨x,hx⟩:∃ x,V[i]?=some x:=⟨_,List.getElem?_eq_getElem (by rw [← HV.out];exact hlt)⟩
    have HDL:=hid (show E.length≤2513169434915 by have h:=Hid.out hEl;omega)
    obtain⟨b,o,hAe,hb,hr⟩:=(LV.out.below (HB0.out.trans ((Hid.out hmk).2.mono HB0.out.size))) i x hx
    have hbs:b<wr.heap.size:=Nat.lt_of_lt_of_le hb (Nat.le_trans HB0.out.size (Hid.out hmk).2.size)
    have HRG:=hid hr
    have HM:=hid (Hid.out hmk)
    have hsn:=filt_sn hx
    by_cases hrt:x.rt=0
    ·have hz:((x.rt:Int) != 0)=false:=by rw [hrt];rfl
     have HDN:=hid (show E=((V.take (i+1)).filter isV).map (·.rt) by rw [hsn,show isV x=false by unfold isV;simp [hrt],Hid.out hE];simp)
     have HEL:=hid (show E.length≤i+1 by have h:=Hid.out hEl;omega)
     clear hr hmk hx hsn hrt
     subst hAe
     go_wp2_with (first
      | (refine wpList_load_at rfl 121 (.tmp 32) rfl b (o+i*37) rfl (ecV x) _ HRG.out Tryz.underlying121 rfl (infoVs x) ?_)
      | (refine wpList_fresh rfl 121 (.tmp 7) (.tmp 33) rfl (ecV x).toArray _ _ rfl rfl (infoVa x) (ecV_sz x) (all_of_one (ecV_one x)) ?_;intro W hb1 hr1 hz1;have HM1:=hid (HM.out.go hb1);have c0:W.cell? ⟨wr.heap.size,4,none⟩=some (.int .u32 x.rt):=cell_of_row _ _ 4 _ _ _ hr1;clear hr1 hz1 hb1 HM HRG))
     exact⟨⟨i+1,E,by omega,by go_num,HDN.out,HEL.out,HM1.out⟩,by simp [intOf]<;>omega⟩
    ·have hz:((x.rt:Int) != 0)=true:=by rw [bne_iff_ne];omega
     have HDN:=hid (show E++[x.rt]=((V.take (i+1)).filter isV).map (·.rt) by rw [hsn,show isV x=true by unfold isV;simp [hrt],← Hid.out hE];simp)
     have HLN2:=hid (show (E++[x.rt]).length≤i+1 by rw [List.length_append];have h:=Hid.out hEl;simp;exact h)
     clear hr hmk hx hsn hrt
     subst hAe
     go_wp2_with (first
      | (refine wpList_load_at rfl 121 (.tmp 32) rfl b (o+i*37) rfl (ecV x) _ HRG.out Tryz.underlying121 rfl (infoVs x) ?_)
      | (refine wpList_fresh rfl 121 (.tmp 7) (.tmp 33) rfl (ecV x).toArray _ _ rfl rfl (infoVa x) (ecV_sz x) (all_of_one (ecV_one x)) ?_;intro W hb1 hr1 hz1;have HM1:=hid ((HM.out.go hb1).alloc (.cells #[.int .u32 x.rt] 22));have HX2:=hid (heap_alloc_new W (.cells #[.int .u32 x.rt] 22));have c0:W.cell? ⟨wr.heap.size,4,none⟩=some (.int .u32 x.rt):=cell_of_row _ _ 4 _ _ _ hr1;clear hr1 hz1 hb1 HM HRG)
      | (refine wpList_plain rfl (fun K1 hK1=>op_catU HM1.out x.rt W.heap.size 1 HX2.out (by have:=HDL.out;omega) (.tmp 37) (.tmp 40) rfl rfl rfl (fun v5 w5 hm5 hg5 hat5=>hK1 _ _ ?_));obtain⟨A5,n5,c5,rfl⟩:∃ A n c,v5=.slice A n c:=(by obtain⟨A,c,h,_⟩:=hm5.ls (show ∀ x,(enU x).length=1 from fun _=>rfl);exact⟨A,_,c,h⟩);have HM5:=hid hm5;clear hm5 hg5 hat5))
     exact⟨⟨i+1,E++[x.rt],by omega,by go_num,HDN.out,HLN2.out,HM5.out⟩,by simp [intOf]<;>omega⟩
   ·have HE:=hid (show E=(V.filter isV).map (·.rt) by have h:=Hid.out hE;rwa [List.take_of_length_le (by rw [← HV.out];omega)] at h)
    have HM:=hid ((Hid.out hmk).since HB0.out)
    clear hE hmk
    go_wp2
    go_ret
    exact⟨_,rfl,by rw [← HE.out];exact HM.out⟩
 have q3:((kd:Int)==3)=false:=by rw [beq_eq_false_iff_ne];omega
 have HKD:=hid (show kdN ⟨kd,I,K,V⟩=[] by unfold kdN nmN;rw [if_neg k2,if_neg k3];rfl)
 rw [HKD.out]
 clear k2 k3
 go_enter Tryz.func69,Tryz.ntmps69
 go_wp2
 go_ret
 exact⟨.slice none 0 0,rfl,Mk.nil HB0.out⟩
end Go.Proofs.YtlpejbbmemhloaaGreatDoor.Nr
namespace Go.Proofs.YtlpejbbmemhloaaGreatDoor.Hp
open Lib (hid)
set_option linter.unusedVariables false
set_option linter.unusedSimpArgs false
set_option maxRecDepth 100000
open Ar Nd
theorem okTo.of {sz:Nat}{L:List Ce}(h1:∀ c∈L,2≤c.num∧c.num<sz∧isN c.d=true) (h2:L.Pairwise fun a b=>a.num<b.num):okTo sz L L.length:=fun j c hj hc=>by
 obtain⟨a,b,d⟩:=h1 c (List.mem_of_getElem? hc)
 refine⟨a,b,d,fun x h0 hx=>?_⟩
 rw [List.pairwise_iff_getElem] at h2
 obtain⟨l1,rfl⟩:=List.getElem?_eq_some_iff.1 hc
 obtain⟨l2,rfl⟩:=List.getElem?_eq_some_iff.1 hx
 exact h2 _ _ l2 l1 (by omega)
theorem okTo.mem {sz:Nat}{L:List Ce}(h:okTo sz L L.length):∀ c∈L,2≤c.num∧c.num<sz∧isN c.d=true:=fun c hc=>by
 obtain⟨j,hj⟩:=List.mem_iff_getElem?.1 hc
 have:=h j c (List.getElem?_eq_some_iff.1 hj).1 hj
 exact⟨this.1,this.2.1,this.2.2.1⟩
theorem sum_filter (P:List Nat) (g:Nat→Bool) (f:Nat→Nat):((P.filter fun p=>!g p).map f).sum=(P.map fun p=>if g p then 0 else f p).sum:=by
 induction P with
 | nil=>rfl
 | cons x P ih =>
  rw [List.map_cons,List.sum_cons,← ih]
  cases h:g x
  ·rw [List.filter_cons_of_pos (by simp [h]),List.map_cons,List.sum_cons];simp
  ·rw [List.filter_cons_of_neg (by simp [h])];simp
structure Aw (P:List Nat) (s:Nat→Ob) (L:List Ce):Prop where
 nd:P.Nodup
 up:Up s P
 lst:L=P.map fun p=>ceO (s p)
 gn:∀ p∈P,(s p).gn=false
 bl:∀ p∈P,bO s p=toF s P p
 n:∀ p∈P,(s p).n=ndD (s p).d
 good:∀ p∈P,gdF s P p=true
theorem Aw.num_inj {P:List Nat}{s:Nat→Ob}{L:List Ce}(h:Aw P s L){p q:Nat}(hp:p∈P) (hq:q∈P) (e:(s p).num=(s q).num):p=q:=up_inj h.up hp hq e
theorem Aw.closed {P:List Nat}{s:Nat→Ob}{L:List Ce}(h:Aw P s L):∀ p∈P,∀ q∈bO s p,q∈P:=fun p hp q hq=>by
 rw [h.bl p hp] at hq
 exact psF_mem q hq
def lvP (P:List Nat) (t:Nat→Ob):List Nat:=P.filter fun p=>!(t p).gn
theorem plL_lv (P:List Nat) (t:Nat→Ob):plL P t=(lvP P t).map fun p=>ceO (t p):=rfl
theorem mem_lv {P:List Nat}{t:Nat→Ob}{p:Nat}:p∈lvP P t↔p∈P∧(t p).gn=false:=by
 unfold lvP
 rw [List.mem_filter]
 simp
section
variable {P:List Nat}{s t:Nat→Ob}{L:List Ce}{hd:Nat→Nat}
theorem Aw.ldL (h:Aw P s L) (hs:∀ p,Sg (s p) (t p)){x:Nat}(hx:x∈P):ldL (plL P t) (s x).num=lds P (bO s) (gO t) x:=by
 have h1:∀ Q:List Nat,(∀ q∈Q,q∈P)→(Q.map fun p=>ceO (t p)).flatMap (fun c=>nms c.d)=(Q.flatMap (bO s)).map fun q=>(s q).num:=by
  intro Q
  induction Q with
  | nil=>intro _;rfl
  | cons y Q ih =>
   intro hQ
   have hy:=hQ y List.mem_cons_self
   rw [List.map_cons,List.flatMap_cons,List.flatMap_cons,List.map_append,ih fun q hq=>hQ q (List.mem_cons_of_mem _ hq),h.bl y hy,to_num h.n hy (h.good y hy)]
   show nms (t y).d++_=_
   rw [(hs y).d]
 unfold Hp.ldL
 rw [plL_lv,h1 _ fun q hq=>(mem_lv.1 hq).1,count_map_inj (f:=fun q=>(s q).num) fun q hq e=>by
  obtain⟨r,hr,hq⟩:=List.mem_flatMap.1 hq
  exact h.num_inj (h.closed r (mem_lv.1 hr).1 q hq) hx e,sum_count]
 unfold lds lvP
 exact sum_filter P (gO t) fun p=>(bO s p).count x
theorem Aw.live (h:Aw P s L) (hs:∀ p,Sg (s p) (t p)) (hi:Inv P (bO s) hd (rO t) (gO t) []){x:Nat}(hx:x∈P) (hg:(t x).gn=false):(t x).r=hd x+Hp.ldL (plL P t) (s x).num:=by
 rw [h.ldL hs hx]
 exact hi.nil_live hx hg
theorem Aw.up_t (h:Aw P s L) (hs:∀ p,Sg (s p) (t p)):Up t (lvP P t):=by
 have:=h.up
 unfold Up at this ⊢
 refine List.Pairwise.sublist List.filter_sublist (this.imp fun {a b} hab=>?_)
 rw [(hs a).num,(hs b).num]
 exact hab
theorem Aw.fnd_live (h:Aw P s L) (hs:∀ p,Sg (s p) (t p)){x:Nat}(hx:x∈P) (hg:(t x).gn=false):fndL (plL P t) (s x).num=some (ceO (t x)):=by
 rw [plL_lv,fnd_LP,fndP_yes (h.up_t hs) (mem_lv.2 ⟨hx,hg⟩) (hs x).num]
 rfl
theorem Aw.fnd_some (h:Aw P s L) (hs:∀ p,Sg (s p) (t p)){n:Nat}{c:Ce}(hf:fndL (plL P t) n=some c):∃ x,x∈P∧(t x).gn=false∧(s x).num=n∧c=ceO (t x):=by
 rw [plL_lv,fnd_LP] at hf
 cases hq:fndP t (lvP P t) n with
 | none=>rw [hq] at hf;cases hf
 | some x =>
  rw [hq] at hf
  obtain⟨h1,h2⟩:=fndP_some hq
  obtain⟨h3,h4⟩:=mem_lv.1 h1
  exact⟨x,h3,h4,by rw [← h2,(hs x).num],by cases hf;rfl⟩
theorem Aw.left (h:Aw P s L){sz:Nat}(hok:okH sz L) (hs:∀ p,Sg (s p) (t p)) (hi:Inv P (bO s) hd (rO t) (gO t) []) (hr:∀ x,x∈P→(t x).gn=false→(t x).r≤16777216):okH sz (plL P t):=by
 have hm:∀ p∈P,ceO (s p)∈L:=fun p hp=>by rw [h.lst];exact List.mem_map.2 ⟨p,hp,rfl⟩
 refine⟨hok.lo,hok.hi,okTo.of (fun c hc=>?_) ?_,fun c hc k hk=>?_,fun c hc=>?_⟩
 ·obtain⟨p,hp,rfl⟩:=List.mem_map.1 (plL_lv P t▸hc)
  have:=hok.cs.mem _ (hm p (mem_lv.1 hp).1)
  show 2≤(t p).num∧(t p).num<sz∧isN (t p).d=true
  rw [(hs p).num,(hs p).d]
  exact this
 ·rw [plL_lv,List.pairwise_map]
  exact h.up_t hs
 ·obtain⟨p,hp,rfl⟩:=List.mem_map.1 (plL_lv P t▸hc)
  obtain⟨hp1,hp2⟩:=mem_lv.1 hp
  have hk':k∈nmN (s p).n:=by
   have:k∈nmN (ndD (t p).d):=hk
   rw [(hs p).d] at this
   rwa [h.n p hp1]
  have hg:=h.good p hp1
  unfold gdF goodF at hg
  rw [List.all_eq_true] at hg
  have h2:=hg k hk'
  unfold okF at h2
  cases hf:fndP s P k.n with
  | none=>rw [hf] at h2;cases h2
  | some q =>
   rw [hf] at h2
   obtain⟨hq,hqn⟩:=fndP_some hf
   have hqb:q∈bO s p:=by
    rw [h.bl p hp1]
    unfold toF psF
    exact List.mem_filterMap.2 ⟨k,hk',hf⟩
   have hql:(t q).gn=false:=by
    cases e:(t q).gn with
    | false=>rfl
    | true =>
     have h3:=(hi.dead q hq e).1
     have h4:=sum_le (f:=fun p=>if gO t p then 0 else (bO s p).count q) hp1
     unfold lds at h3
     rw [h3] at h4
     have h5:(if gO t p then 0 else (bO s p).count q)=(bO s p).count q:=by
      rw [if_neg (by show ¬ (t p).gn=true;rw [hp2];decide)]
     have h6:=List.count_pos_iff.2 hqb
     simp only [h5] at h4
     omega
   refine⟨ceO (t q),List.mem_map.2 ⟨q,mem_lv.2 ⟨hq,hql⟩,rfl⟩,?_,?_⟩
   ·show (t q).num=k.n
    rw [(hs q).num];exact hqn
   ·show hsD (t q).d=k.hs
    rw [(hs q).d];exact of_decide_eq_true h2
 ·obtain⟨p,hp,rfl⟩:=List.mem_map.1 (plL_lv P t▸hc)
  obtain⟨hp1,hp2⟩:=mem_lv.1 hp
  have h1:=h.live hs hi hp1 hp2
  show (Hp.ldL (plL P t) (t p).num:Int)≤(t p).r∧(t p).r≤16777216
  rw [(hs p).num]
  exact⟨by omega,hr p hp1 hp2⟩
theorem Aw.heldX (h:Aw P s L){sz:Nat}(hok:okH sz (plL P t)) (hs:∀ p,Sg (s p) (t p)) (hi:Inv P (bO s) hd (rO t) (gO t) []){x:Nat}(hx:x∈P) (hg:(t x).gn=false):heldX sz (plL P t) (s x).num=hd x∧fndE sz (plL P t) (s x).num=0:=by
 unfold Hp.heldX fndE
 rw [if_pos hok,if_pos hok,h.fnd_live hs hx hg]
 refine⟨?_,rfl⟩
 have:=h.live hs hi hx hg
 show (t x).r-(Hp.ldL (plL P t) (s x).num:Int)=_
 omega
theorem Aw.self (h:Aw P s L):plL P s=L:=by rw [plL_live h.gn,h.lst]
theorem Aw.inv (h:Aw P s L){sz:Nat}(hok:okH sz L):Inv P (bO s) (fun x=>((s x).r-Hp.ldL L (s x).num).toNat) (rO s) (gO s) []:=by
 refine⟨fun x hx _=>?_,fun x hx hg=>absurd (show (s x).gn=true from hg) (by rw [h.gn x hx];decide),fun x hx=>(by cases hx)⟩
 have h1:=h.ldL (t:=s) (fun p=>Sg.refl _) hx
 rw [h.self] at h1
 rw [← h1]
 have h2:=hok.rf (ceO (s x)) (by rw [h.lst];exact List.mem_map.2 ⟨x,hx,rfl⟩)
 have h3:(Hp.ldL L (s x).num:Int)≤(s x).r:=h2.1
 show (s x).r=_
 simp
 omega
end
theorem Lets.dead0 {P:List Nat}{bl:Nat→List Nat}{hd:Nat→Nat}{r r':Nat→Int}{g g':Nat→Bool}{k:List Nat}(h:Lets bl r g k r' g') (hn:P.Nodup) (hb:∀ p∈P,∀ q∈bl p,q∈P) (hi:Inv P bl hd r g k) (h0:∀ x∈P,g x=true→hd x=0):∀ x∈P,g' x=true→hd x=0:=by
 induction h with
 | nil r g=>exact h0
 | less hne hh ih=>exact ih hi.less h0
 | gone hz hh ih =>
  rename_i r r' g g' k c
  obtain⟨hP,hg,hr⟩:=hi.alive
  refine ih (hi.gone hn hb hz) fun x hx hgx=>?_
  by_cases e:x=c
  ·subst e;omega
  ·rw [updF_other e] at hgx
   exact h0 x hx hgx
theorem Swp.le {bl:Nat→List Nat}{r r':Nat→Int}{g g':Nat→Bool}{k:List Nat}(h:Swp bl k r g r' g'):∀ x,r' x≤r x:=by
 induction h with
 | nil r g=>intro x;exact Int.le_refl _
 | skip h hh ih=>exact ih
 | take h hg hl hh ih=>intro x;exact Int.le_trans (ih x) (hl.le x)
theorem Swp.live {bl:Nat→List Nat}{r r':Nat→Int}{g g':Nat→Bool}{k:List Nat}(h:Swp bl k r g r' g'):∀ x,g' x=false→g x=false∧(r' x=0→r x=0):=by
 induction h with
 | nil r g=>intro x hx;exact⟨hx,fun h=>h⟩
 | skip h hh ih=>exact ih
 | take h hg hl hh ih =>
  rename_i r r1 r' g g1 g' k c
  intro x hx
  obtain⟨h1,h2⟩:=ih x hx
  obtain⟨h3,h4⟩:=hl.keep x h1
  have e:x≠c:=fun e=>by rw [e,updF_same] at h3;cases h3
  rw [updF_other e] at h3
  exact⟨h3,fun h0=>h4 (h2 h0)⟩
theorem Swp.none0 {bl:Nat→List Nat}{r r':Nat→Int}{g g':Nat→Bool}{k:List Nat}(h:Swp bl k r g r' g'):∀ x∈k,g' x=false→r' x≠0:=by
 induction h with
 | nil r g=>intro x hx;cases hx
 | skip hno hh ih =>
  rename_i r r' g g' k c
  intro x hx hgx h0
  rcases List.mem_cons.1 hx with rfl | hx
  ·obtain⟨h1,h2⟩:=hh.live x hgx
   exact hno ⟨h2 h0,h1⟩
  ·exact ih x hx hgx h0
 | take h hg hl hh ih =>
  rename_i r r1 r' g g1 g' k c
  intro x hx hgx h0
  rcases List.mem_cons.1 hx with rfl | hx
  ·obtain⟨h1,h2⟩:=hh.live x hgx
   obtain⟨h3,h4⟩:=hl.keep x h1
   rw [updF_same] at h3
   cases h3
  ·exact ih x hx hgx h0
theorem Swp.dead0 {P:List Nat}{bl:Nat→List Nat}{hd:Nat→Nat}{r r':Nat→Int}{g g':Nat→Bool}{k:List Nat}(h:Swp bl k r g r' g') (hn:P.Nodup) (hb:∀ p∈P,∀ q∈bl p,q∈P) (hk:∀ x∈k,x∈P) (hi:Inv P bl hd r g [])
  (hl:∀ (r r':Nat→Int) (g g':Nat→Bool) (k:List Nat),Lets bl r g k r' g'→Inv P bl hd r g k→Inv P bl hd r' g' []) (h0:∀ x∈P,g x=true→hd x=0):∀ x∈P,g' x=true→hd x=0:=by
 induction h with
 | nil r g=>exact h0
 | skip hno hh ih=>exact ih (fun x hx=>hk x (List.mem_cons_of_mem _ hx)) hi h0
 | take h hg hlt hh ih =>
  rename_i r r1 r' g g1 g' k c
  have hc:=hk c List.mem_cons_self
  have hi2:=hi.sweep hn hb hc hg h
  have hz:=hi.nil_live hc hg
  refine ih (fun x hx=>hk x (List.mem_cons_of_mem _ hx)) (hl _ _ _ _ _ hlt hi2) (hlt.dead0 hn hb hi2 fun x hx hgx=>?_)
  by_cases e:x=c
  ·subst e;omega
  ·rw [updF_other e] at hgx
   exact h0 x hx hgx
theorem Lets.inv {P:List Nat}{bl:Nat→List Nat}{hd:Nat→Nat}(hn:P.Nodup) (hb:∀ p∈P,∀ q∈bl p,q∈P){r r':Nat→Int}{g g':Nat→Bool}{k:List Nat}(h:Lets bl r g k r' g'):Inv P bl hd r g k→Inv P bl hd r' g' []:=by
 induction h with
 | nil r g=>exact fun h=>h
 | less hne hh ih=>exact fun h=>ih h.less
 | gone hz hh ih=>exact fun h=>ih (h.gone hn hb hz)
def SwP (L M:List Ce):Prop:=∃ (P:List Nat) (s t:Nat→Ob),Aw P s L∧(∀ p,Sg (s p) (t p))∧Swp (bO s) P (rO s) (gO s) (rO t) (gO t)∧M=plL P t
theorem Swp.inv {P:List Nat}{bl:Nat→List Nat}{hd:Nat→Nat}(hn:P.Nodup) (hb:∀ p∈P,∀ q∈bl p,q∈P){r r':Nat→Int}{g g':Nat→Bool}{k:List Nat}(h:Swp bl k r g r' g'):(∀ x∈k,x∈P)→Inv P bl hd r g []→Inv P bl hd r' g' []:=by
 induction h with
 | nil r g=>exact fun _ h=>h
 | skip hno hh ih=>exact fun hk h=>ih (fun x hx=>hk x (List.mem_cons_of_mem _ hx)) h
 | take h hg hl hh ih =>
  rename_i r r1 r' g g1 g' k c
  exact fun hk hi=>ih (fun x hx=>hk x (List.mem_cons_of_mem _ hx)) (hl.inv hn hb (hi.sweep hn hb (hk c List.mem_cons_self) hg h))
theorem heldX_at {P:List Nat}{s:Nat→Ob}{L:List Ce}(h:Aw P s L){sz:Nat}(hok:okH sz L){x:Nat}(hx:x∈P):heldX sz L (s x).num=(s x).r-ldL L (s x).num∧(0:Int)≤(s x).r-ldL L (s x).num:=by
 have h1:=h.fnd_live (t:=s) (fun p=>Sg.refl _) hx (h.gn x hx)
 rw [h.self] at h1
 unfold heldX
 rw [if_pos hok,h1]
 have h2:=hok.rf (ceO (s x)) (by rw [h.lst];exact List.mem_map.2 ⟨x,hx,rfl⟩)
 have h3:(ldL L (s x).num:Int)≤(s x).r:=h2.1
 exact⟨rfl,by omega⟩
theorem SwP.right {sz:Nat}{L M:List Ce}(h:SwP L M) (hok:okH sz L):okH sz M∧(∀ c∈M,c.r≠0)∧(∀ n,0<heldX sz L n→heldX sz M n=heldX sz L n∧fndE sz M n=0):=by
 obtain⟨P,s,t,ha,hs,hw,rfl⟩:=h
 have hi:=ha.inv hok
 have hi2:=hw.inv ha.nd ha.closed (fun x hx=>hx) hi
 have hok2:=ha.left hok hs hi2 (fun x hx hg=>by
  have h1:=hw.le x
  have h2:=(hok.rf (ceO (s x)) (by rw [ha.lst];exact List.mem_map.2 ⟨x,hx,rfl⟩)).2
  have h3:(s x).r≤16777216:=h2
  have h4:(t x).r≤(s x).r:=h1
  omega)
 refine⟨hok2,fun c hc=>?_,fun n hn=>?_⟩
 ·obtain⟨p,hp,rfl⟩:=List.mem_map.1 (plL_lv P t▸hc)
  obtain⟨hp1,hp2⟩:=mem_lv.1 hp
  exact hw.none0 p hp1 hp2
 ·have hf:∃ c,fndL L n=some c:=by
   unfold Hp.heldX at hn
   rw [if_pos hok] at hn
   cases hq:fndL L n with
   | none=>rw [hq] at hn;exact absurd hn (show ¬ (0:Int)<0 by decide)
   | some c=>exact⟨c,rfl⟩
  obtain⟨c,hc⟩:=hf
  have hc':=hc
  rw [← ha.self] at hc'
  obtain⟨x,hx,hg,hxn,_⟩:=ha.fnd_some (t:=s) (fun p=>Sg.refl _) hc'
  subst hxn
  obtain⟨h1,h2⟩:=heldX_at ha hok hx
  have hlv:(t x).gn=false:=by
   cases e:(t x).gn with
   | false=>rfl
   | true =>
    have:=hw.dead0 ha.nd ha.closed (fun x hx=>hx) hi (fun _ _ _ _ _ hl hi=>hl.inv ha.nd ha.closed hi) (fun y hy hgy=>absurd (show (s y).gn=true from hgy) (by rw [ha.gn y hy];decide)) x hx e
    omega
  obtain⟨h3,h4⟩:=ha.heldX hok2 hs hi2 hx hlv
  exact⟨by rw [h3,h1];omega,h4⟩
set_option linter.unusedVariables false
set_option linter.unusedSimpArgs false
set_option maxRecDepth 100000
open Go.ChangeShapes Go.WideShapes Go.ChangeAt Go.RowKit
open Ar Nd
open BigFrame
def cntL (L:List Ce) (M:List Nat):List Nat:=L.map fun c=>M.count c.num
def enN (D:List Nat):List Value:=D.map fun (k:Nat)=>Value.int .i64 (k:Int)
theorem cntL_none {L:List Ce}{M:List Nat}{k:Nat}(h:∀ c∈L,c.num≠k):cntL L (M++[k])=cntL L M:=by
 unfold cntL
 apply List.map_congr_left
 intro c hc
 rw [List.count_append,List.count_cons_of_ne (Ne.symm (h c hc)),List.count_nil,Nat.add_zero]
theorem cntL_some {L:List Ce}{M:List Nat}{k p:Nat}{c:Ce}(hp:L[p]?=some c) (hk:c.num=k) (hd:∀ (j:Nat) (x:Ce),j≠p→L[j]?=some x→x.num≠k):cntL L (M++[k])=(cntL L M).set p (M.count k+1):=by
 apply List.ext_getElem?
 intro j
 unfold cntL
 rw [List.getElem?_map,List.getElem?_set,List.length_map,List.getElem?_map]
 by_cases e:p=j
 ·subst e
  rw [if_pos rfl,hp,if_pos (List.getElem?_eq_some_iff.1 hp).1]
  simp [hk,List.count_append]
 ·rw [if_neg e]
  cases hj:L[j]? with
  | none=>rfl
  | some x =>
   have:=hd j x (Ne.symm e) hj
   simp [List.count_append,List.count_cons_of_ne (Ne.symm this)]
theorem fine_R {d:ByteArray}(h:isN d=true):Wd (ndD d)∧(ndD d).I.length≤255∧(ndD d).K.length≤255∧(ndD d).V.length≤255:=by
 have h1:=isN_some h
 unfold decN at h1
 cases ho:openL d.data.toList with
 | none=>rw [ho] at h1;cases h1
 | some l =>
  rw [ho] at h1
  simp only at h1
  split at h1
  ·rw [← Option.some.inj h1]
   have:=tkN_fine l
   exact⟨this.1,this.2.1,this.2.2.1,this.2.2.2.1⟩
  ·cases h1
theorem kd_len {d:ByteArray}(h:isN d=true):(kdN (ndD d)).length≤255:=by
 have h1:=fine_R h
 unfold kdN
 rw [List.length_map]
 exact nmN_le h1.2.2.1 h1.2.2.2
theorem dis_of {sz:Nat}{L:List Ce}(h:okTo sz L L.length){p:Nat}{c:Ce}(hp:L[p]?=some c):∀ (j:Nat) (x:Ce),j≠p→L[j]?=some x→x.num≠c.num:=fun j x hj hx=>by
 rcases Nat.lt_or_ge j p with h1 | h1
 ·have:=h.rise p j _ _ h1 hx hp;omega
 ·have:=h.rise j p _ _ (by omega) hp hx;omega
structure LeI (w wr:World) (b n:Nat) (L:List Ce) (M:List Nat):Prop where
 row:wr.heap[b]?=some (.cells (enN (cntL L M)).toArray 3 (0,0))
 bel:Below w.heap.size w wr
 ge:w.heap.size≤b
theorem LeI.go {w wr w':World}{b n:Nat}{L:List Ce}{M:List Nat}(h:LeI w wr b n L M) (hb:Below wr.heap.size wr w'):LeI w w' b n L M:=⟨(hb.block _ (row_lt h.row)).trans h.row,h.bel.trans (hb.mono h.bel.size),h.ge⟩
theorem LeI.put {w wr:World}{b n p k:Nat}{L:List Ce}{M:List Nat}{c:Ce}(h:LeI w wr b n L M) (hp:L[p]?=some c) (hk:c.num=k) (hd:∀ (j:Nat) (x:Ce),j≠p→L[j]?=some x→x.num≠k):LeI w (wr.setCell ⟨b,p,none⟩ (.int .i64 ((M.count k:Nat)+1:Int))) b n L (M++[k]):=by
 refine⟨?_,h.bel.trans (below_of_grown (grown_cell _ _ _ _) h.bel.size h.ge),h.ge⟩
 have h1:=row_set (i:=p) (u:=.int .i64 ((M.count k:Nat)+1:Int)) h.row
 rw [cntL_some hp hk hd]
 unfold enN at h1 ⊢
 rw [List.map_set]
 exact h1
theorem LeI.none {w wr:World}{b n k:Nat}{L:List Ce}{M:List Nat}(h:LeI w wr b n L M) (hk:∀ c∈L,c.num≠k):LeI w wr b n L (M++[k]):=⟨by rw [cntL_none hk];exact h.row,h.bel,h.ge⟩
def LePost (w:World) (n:Nat) (L:List Ce) (e:Ending) (w':World):Prop:=∃ b,e=.returned (.slice (some ⟨b,0,none⟩) n n)∧LeI w w' b n L (L.flatMap fun c=>kdN (ndD c.d))
theorem infInt:(Tryz.prog.info? 3).map (fun i=>(i.zero,i.size,i.bytes))=some (some (.int .i64 0),1,8):=by kernel_rfl
theorem ints_make (n:Nat) (hn:n≤1048576) (w:World):(Instr.makeSlice 86 (.int .i64 n) (.int .i64 n)).run Tryz.prog w=.ok (.slice (some ⟨w.heap.size,0,none⟩) n n) (w.alloc (.cells (madeCells #[Value.int .i64 0] n) 3)) :=
 run_make_row' (P:=Tryz.prog) 86 3 (.int .i64 0) 8 Tryz.underlying86 infInt rfl .i64 .i64 n (by omega) (by omega) w
theorem made_cnt (L:List Ce):madeCells #[Value.int .i64 0] L.length=(enN (cntL L [])).toArray:=by
 apply Array.toList_inj.1
 rw [toList_madeCells_one]
 unfold enN cntL
 rw [List.map_map]
 apply List.ext_getElem?
 intro j
 rw [List.getElem?_replicate,List.getElem?_map]
 by_cases hj:j<L.length
 ·rw [if_pos hj,List.getElem?_eq_getElem hj];rfl
 ·rw [if_neg hj,List.getElem?_eq_none (by omega)];rfl
theorem kids_le:∀ L:List Ce,(∀ c∈L,isN c.d=true)→(L.flatMap fun c=>kdN (ndD c.d)).length≤L.length*255
 | [],_=>Nat.zero_le _
 | c::L,h=>by
  have h1:=kids_le L fun x hx=>h x (List.mem_cons_of_mem _ hx)
  have h2:=kd_len (h c List.mem_cons_self)
  rw [List.flatMap_cons,List.length_append,List.length_cons]
  omega
set_option maxHeartbeats 8000000 in
theorem led_R {w:World}{A:Option Addr}{n:Nat}{L:List Ce}(hin:HIn w A n L) (cap:Nat){sz:Nat}(hok:okTo sz L L.length) (hs:sz≤65536) :
  Calls Tryz.prog 38 #[.slice A n cap] w (LePost w n L):=by
 have hle:n≤65536:=by rw [hin.len];exact hok.len hs
 have hmk:=ints_make n (by omega) w
 have HI:=hid hin
 have HOK:=hid hok
 have HN:=hid hin.len
 have HAL:=hid (show ∀ c∈L,isN c.d=true from fun c hc=>(hok.mem c hc).2.2)
 have h0:LeI w (w.alloc (.cells (madeCells #[Value.int .i64 0] n) 3)) w.heap.size n L []:=⟨by rw [← made_cnt,← HN.out];exact heap_alloc_new _ _,(Below.refl _ _).alloc (Nat.le_refl _) _,Nat.le_refl _⟩
 have HL0:=hid h0
 clear hin hok h0 hs
 go_enter Tryz.func38,Tryz.ntmps38
 go_wp2_with fail
 clear hmk
 generalize (w.alloc (.cells (madeCells #[Value.int .i64 0] n) 3))=w0 at *
 go_loopw [14] (fun v wr=>∃ i:Nat,i≤n∧v=.int .i64 i∧Hid (LeI w wr w.heap.size n L ((L.take i).flatMap fun c=>kdN (ndD c.d)))) (fun v _=>n-(intOf v).toNat)
 case atStart=>exact⟨0,Nat.zero_le _,by go_num,HL0.out⟩
 case round =>
  obtain⟨i,hi,rfl,hM⟩:=hrel
  have HLI:=hid (Hid.out hM)
  clear hM HL0
  by_cases hlt:i<n
  ·obtain⟨c,hx⟩:∃ c,L[i]?=some c:=⟨_,List.getElem?_eq_getElem (by rw [← HN.out];exact hlt)⟩
   have hcN:=HAL.out c (List.mem_of_getElem? hx)
   have hfn:=fine_R hcN
   obtain⟨b,o,hAe,hbs,hr⟩:=HI.out.ls i c hx
   have HRG:=hid (show wr.rangeAt b (o+i*3) [.int .u32 c.num,.string c.d,.int .i64 c.r] from range_below hr HLI.out.bel hbs)
   have HSN:=hid (show (L.take (i+1)).flatMap (fun c=>kdN (ndD c.d))=(L.take i).flatMap (fun c=>kdN (ndD c.d))++kdN (ndD c.d) by rw [take_snoc hx,List.flatMap_append,List.flatMap_cons,List.flatMap_nil,List.append_nil])
   have HML:=hid (show ((L.take i).flatMap fun c=>kdN (ndD c.d)).length≤16711680 by
    have h1:=kids_le (L.take i) fun x hx=>HAL.out x (List.mem_of_mem_take hx)
    rw [List.length_take] at h1
    have:=HN.out
    omega)
   have HUL:=hid (kd_len hcN)
   have hcs:c.d.size≤9223372036854775807:=Nat.le_trans (isN_size hcN) (by decide)
   have hb:Below wr.heap.size wr (wr.alloc (.cells #[.int .u32 c.num,.string c.d,.int .i64 c.r] 75)):=(Below.refl _ _).alloc (Nat.le_refl _) _
   have HL1:=hid (HLI.out.go hb)
   clear hr hbs hb HLI hx
   subst hAe
   go_wp2_with (refine wpList_load_at rfl 75 (.tmp 16) rfl b (o+i*3) rfl [.int .u32 c.num,.string c.d,.int .i64 c.r] _ HRG.out Tryz.underlying75 rfl infoC ?_)
   generalize wr.alloc (.cells #[.int .u32 c.num,.string c.d,.int .i64 c.r] 75)=w1 at *
   refine (node_R c hcs w1).mono ?_
   rintro e w2 ⟨cs,rfl,hown⟩
   have HL2:=hid (HL1.out.go hown.bel)
   have hnd:=hown.at_ (by have:=hfn.2.1;omega) (by have:=hfn.2.2.1;omega) (by have:=hfn.2.2.2;omega)
   have HND:=hid hnd
   have HFN:=hid hfn
   clear hown hnd hfn HL1
   go_wp2_with fail
   refine (Nr.rkids_any (ndD c.d) HFN.out.1 (by have:=HFN.out.2.2.1;omega) (by have:=HFN.out.2.2.2;omega) cs w2 HND.out).mono ?_
   rintro e w3 ⟨v,rfl,hm⟩
   have HL3:=hid (HL2.out.go hm.2)
   have hmw:MkU w w3 v (kdN (ndD c.d)):=hm.since HL2.out.bel
   clear hm HL2 HND HFN hcN hcs
   obtain⟨U,hU⟩:∃ U,kdN (ndD c.d)=U:=⟨_,rfl⟩
   obtain⟨M,hM⟩:∃ M,(L.take i).flatMap (fun c=>kdN (ndD c.d))=M:=⟨_,rfl⟩
   rw [hU] at hmw HUL HSN
   rw [hM] at HSN HML HL3
   clear hU hM
   obtain⟨AU,cU,rfl,-,-,-⟩:=Ar.Mk.ls (enc:=enU) (k:=1) (fun _=>rfl) hmw
   have HMW:=hid hmw
   obtain⟨m,hm⟩:∃ m,U.length=m:=⟨_,rfl⟩
   rw [hm] at HMW HUL ⊢
   have HM0:=hid hm
   have HMM:=hid (show m≤255 from HUL.out)
   have hmm:m≤255:=HMM.out
   clear hmw hm HUL
   go_wp2_with fail
   go_loopw [22] (fun v wr=>∃ j:Nat,j≤m∧v=.int .i64 j∧Hid (LeI w wr w.heap.size n L (M++U.take j))∧Hid (MkU w wr (.slice AU m cU) U)) (fun v _=>m-(intOf v).toNat)
   case atStart=>exact⟨0,Nat.zero_le _,by go_num,by rw [List.take_zero,List.append_nil];exact HL3.out,HMW.out⟩
   case round =>
    obtain⟨j,hj,rfl,hLe,hMk⟩:=hrel
    have HLE:=hid (Hid.out hLe)
    have HMK:=hid (Hid.out hMk)
    clear hLe hMk HL3 HMW
    by_cases hlt2:j<m
    ·obtain⟨u,hu⟩:∃ u,U[j]?=some u:=⟨_,List.getElem?_eq_getElem (by rw [HM0.out];exact hlt2)⟩
     obtain⟨AU',cU',hv,-,-,hls⟩:=Ar.Mk.ls (enc:=enU) (k:=1) (fun _=>rfl) HMK.out
     obtain⟨bu,ou,hAe,hbu,hr⟩:=hls j u hu
     injection hv with h1 h2 h3
     subst h1
     clear h2 h3 hls hbu
     have hcu:wr.cell? ⟨bu,ou+j,none⟩=some (.int .u32 u):=by
      have:=hr 0 (.int .u32 u) rfl
      simpa using this
     have HTK:=hid (show M++U.take (j+1)=(M++U.take j)++[u] by rw [take_snoc hu,List.append_assoc])
     clear hr hu
     subst hAe
     have j0:(0:Int)≤(j:Int):=by omega
     have j1:(j:Int)<(m:Int):=by omega
     go_wp2_with fail
     refine (find_R (w:=wr) L _ n cap u HN.out (by omega) HLE.out.bel.size (HI.out.ls.below HLE.out.bel)).mono ?_
     rintro e w5 ⟨rfl,hb⟩
     have HLE5:=hid (HLE.out.go hb)
     have HMK5:=hid (show MkU w w5 _ U from Mk.go HMK.out hb)
     clear hb hcu HLE HMK
     rcases fndI_cases L u with ⟨p,c',hp,hpc,hn,-,-⟩ | ⟨hno,-,hall⟩
     ·rw [hp]
      have HPC:=hid hpc
      have HDS:=hid (show ∀ (j:Nat) (x:Ce),j≠p→L[j]?=some x→x.num≠u by rw [← hn];exact dis_of HOK.out hpc)
      have HNU:=hid hn
      have p1:(p:Int)<(n:Int):=by have:=(List.getElem?_eq_some_iff.1 hpc).1;have:=HN.out;omega
      have p0:(0:Int)≤(p:Int):=by omega
      have k0:w5.cell? ⟨w.heap.size,p,none⟩=some (.int .i64 ((M++U.take j).count u:Nat)):=(cell_of_row _ _ p _ _ _ HLE5.out.row).trans (by unfold enN cntL;simp [hpc,hn])
      have f0:=frozen_of_row w5 w.heap.size p _ _ HLE5.out.row
      have l0:=row_lt HLE5.out.row
      have hcnt:(M++U.take j).count u≤16777216:=by
       have h1:=List.count_le_length (a:=u) (l:=M++U.take j)
       have h2:=HML.out
       rw [List.length_append,List.length_take] at h1
       omega
      have HPUT:=hid (HLE5.out.put HPC.out HNU.out HDS.out)
      clear hp hpc hn
      generalize (M++U.take j).count u=q at *
      have hwr:IntKind.i64.wrap ((q:Int)+1)=(q:Int)+1:=IntWalk.i64_in _ (by omega)
      go_wp2_with fail
      exact⟨⟨j+1,by omega,by go_num,by rw [HTK.out];exact HPUT.out,Mk.grownQ HMK5.out (grown_cell _ _ _ _) (Nat.le_refl _) (Mk.off HMK5.out HLE5.out.row (by decide))⟩,by simp [intOf]<;>omega⟩
     ·rw [hno]
      have HNN:=hid (HLE5.out.none hall)
      clear hno hall
      go_wp2_with fail
      exact⟨⟨j+1,by omega,by go_num,by rw [HTK.out];exact HNN.out,HMK5.out⟩,by simp [intOf]<;>omega⟩
    ·have hjm:j=m:=by omega
     have HE:=hid (show LeI w wr w.heap.size n L ((L.take (i+1)).flatMap fun c=>kdN (ndD c.d)) by rw [HSN.out];have h2:=HLE.out;rwa [hjm,← HM0.out,List.take_length] at h2)
     clear hjm
     go_wp2
     exact⟨⟨i+1,by omega,by go_num,HE.out⟩,by simp [intOf]<;>omega⟩
  ·have hin:i=n:=by omega
   have HT:=hid (show L.take i=L by rw [hin,HN.out,List.take_length])
   clear hin
   go_wp2
   go_ret
   exact⟨w.heap.size,rfl,by have:=HLI.out;rwa [HT.out] at this⟩
end Go.Proofs.YtlpejbbmemhloaaGreatDoor.Hp
namespace Go.Proofs.YtlpejbbmemhloaaGreatDoor.Nd
open Lib (hid)
set_option linter.unusedVariables false
set_option linter.unusedSimpArgs false
open Go.ChangeShapes Go.WideShapes Go.ChangeAt Go.RowKit
open Ar Rg
open BigFrame
open Pk (u8s u8s_length)
def One (n:Nd):Prop:=n.kd=1∧n.K=[]∧n.V=[]∨n.kd=2∧n.V=[]∨n.kd=3∧n.K=[]∨n.K=[]∧n.V=[]
theorem One.nm {n:Nd}(h:One n) (hk:n.kd=2∨n.kd=3∨n.K=[]∧n.V=[]):nmN n=n.K.map nmK++(n.V.filter isV).map nmV:=by
 unfold nmN
 rcases h with ⟨h1,h2,h3⟩ | ⟨h1,h3⟩ | ⟨h1,h2⟩ | ⟨h2,h3⟩
 ·rw [h1,h2,h3];rfl
 ·rw [h1,h3];simp
 ·rw [h1,h2];simp
 ·rw [h2,h3];simp
set_option maxRecDepth 100000 in
set_option maxHeartbeats 8000000 in
theorem rnamed_any (n:Nd) (hw:Wd n) (hs1:n.K.length≤1099511627776) (hs2:n.V.length≤1099511627776) (cs:Array Value) (w:World) (hn:NdAt w cs n) :
  Calls Tryz.prog 73 #[.agg cs] w fun e w'=>∃ v,e=.returned v∧MkK w w' v (n.K.map nmK++(n.V.filter isV).map nmV):=by
 obtain⟨AI,nI,dI,AK,nK,dK,AV,nV,dV,rfl,hI,hK,hV,bI,bK,bV,lI,lK,lV⟩:=hn
 obtain⟨kd,I,K,V⟩:=n
 obtain⟨wK,wV⟩:=hw
 dsimp only at hI hK hV lI lK lV wK wV hs1 hs2 ⊢
 have HB0:=hid (show Below w.heap.size w (w.alloc (.cells #[.int .u8 (kd:Int),.slice AI nI dI,.slice AK nK dK,.slice AV nV dV] 31)) from (Below.refl _ _).alloc (Nat.le_refl _) _)
 have HR0:=hid (heap_alloc_new w (.cells #[.int .u8 (kd:Int),.slice AI nI dI,.slice AK nK dK,.slice AV nV dV] 31))
 have HWK:=hid (show ∀ x∈K,x.hs.length=32 from fun x hx=>(wK x hx).2)
 have HWV:=hid (show ∀ x∈V,x.hs.length=32 from fun x hx=>(wV x hx).2.2.2)
 have HSM:=hid (show nK≤1099511627776∧nV≤1099511627776 from⟨by rw [hK];exact hs1,by rw [hV];exact hs2⟩)
 have HK:=hid hK
 have HV:=hid hV
 have HLK:=hid lK
 have HLV:=hid lV
 clear hI hK hV lI lK lV wK wV hs1 hs2 bI
 go_enter Tryz.func73,Tryz.ntmps73
 go_wp2_with fail
 generalize w.alloc _=w0 at *
 go_loopw [3,11] (fun av v wr=>∃ (i:Nat) (D:List Kd),i≤nK∧v=.int .i64 i∧Hid (D=(K.take i).map nmK)∧Hid (D.length≤i)∧Hid (MkK w wr av D)∧Hid (wr.heap[w.heap.size]?=some (.cells #[.int .u8 (kd:Int),.slice AI nI dI,.slice AK nK dK,.slice AV nV dV] 31 (0,0)))) (fun _ v _=>nK-(intOf v).toNat)
 case atStart=>exact⟨0,[],Nat.zero_le _,by go_num,rfl,Nat.le_refl _,Mk.nil HB0.out,HR0.out⟩
 case round =>
  obtain⟨i,D,hi,rfl,hD,hDl,hmk,hbx⟩:=hrel
  have HBX:=hid (Hid.out hbx)
  clear hbx
  by_cases hlt:i<nK
  ·obtain⟨x,hx⟩:∃ x,K[i]?=some x:=⟨_,List.getElem?_eq_getElem (by rw [← HK.out];exact hlt)⟩
   have HXL:=hid (HWK.out x (List.mem_of_getElem? hx))
   have HDL:=hid (show D.length≤2199023255552 by have h:=Hid.out hDl;have:=HSM.out;omega)
   obtain⟨b,o,hAe,hb,hr⟩:=(HLK.out.below (Hid.out hmk).2) i x hx
   have hbs:b<wr.heap.size:=Nat.lt_of_lt_of_le hb (Hid.out hmk).2.size
   have HRG:=hid hr
   have HM:=hid (Hid.out hmk)
   have HAI:=hid (arr_info x.hs HXL.out)
   have HXX:=hid hx
   obtain⟨y,hy⟩:∃ y,nmK x=y:=⟨_,rfl⟩
   have hb1:=kid_built y (by rw [← hy];rfl) (by rw [← hy];exact HXL.out)
   rw [show y.n=x.n by rw [← hy];rfl,show y.hs=x.hs by rw [← hy];rfl] at hb1
   have HY:=hid hy
   have hz1:(u8s x.hs).length=32:=by rw [u8s_length,HXL.out]
   have hz2:x.hs.length=32:=HXL.out
   clear hr hx hmk hy
   subst hAe
   have HDN:=hid (show D++[y]=(K.take (i+1)).map nmK by rw [map_snoc nmK HXX.out,← Hid.out hD,HY.out])
   have HLN:=hid (show (D++[y]).length≤i+1 by rw [List.length_append];have h:=Hid.out hDl;simp;exact h)
   go_wp2_with (first
     | (refine wpList_load_at rfl 45 (.tmp 13) rfl b (o+i*34) rfl (ecK x) _ HRG.out Tryz.underlying45 rfl (infoKs x) ?_)
     | (refine wpList_fresh rfl 45 (.tmp 5) (.tmp 14) rfl (ecK x).toArray _ _ rfl rfl (infoKa x) (ecK_sz x) (all_of_one (ecK_one x)) ?_;intro W hb1 hr1 hz1;have HM1:=hid (HM.out.go hb1);have HBX1:=hid ((hb1.block _ (row_lt HBX.out)).trans HBX.out);have c0:W.cell? ⟨wr.heap.size,1,none⟩=some (.int .u32 x.n):=cell_of_row _ _ 1 _ _ _ hr1;have HRH:=hid (show W.rangeAt wr.heap.size 2 (u8s x.hs) from rangeAt_row hr1 (fun a v hv=>by unfold ecK;rw [fix_of HXL.out,List.getElem?_toArray,Nat.add_comm 2 a];exact hv));clear hr1 hz1 hb1 HM HRG HBX)
     | (refine wpList_load_at rfl 43 (.tmp 18) rfl wr.heap.size 2 rfl (u8s x.hs) _ HRH.out Tryz.underlying43 rfl HAI.out ?_)
     | (refine wpList_plain rfl (fun K1 hK1=>op_oneK (.tmp 20) y rfl rfl (hK1 _ _ ?_));have hal:Below W.heap.size W (W.alloc (.cells (ecK y).toArray 45)):=(Below.refl _ _).alloc (Nat.le_refl _) _;have HM2:=hid (HM1.out.go hal);have HBX2:=hid ((hal.block _ (row_lt HBX1.out)).trans HBX1.out);have HX2:=hid (heap_alloc_new W (.cells (ecK y).toArray 45));clear hal HM1 HBX1)
     | (refine wpList_plain rfl (fun K1 hK1=>op_catK HM2.out y W.heap.size 1 HX2.out (by have:=HDL.out;omega) (.tmp 15) (.tmp 21) rfl rfl rfl (fun v5 w5 hm5 hg5 hat5=>hK1 _ _ ?_));obtain⟨A5,n5,c5,rfl⟩:∃ A n c,v5=.slice A n c:=(by obtain⟨A,c,h,_⟩:=hm5.ls ecK_len;exact⟨A,_,c,h⟩);have HM5:=hid hm5;have HBX5:=hid ((hg5.block w.heap.size (row_lt HBX2.out) (fun e=>Mk.off HM2.out HBX2.out (by decide) e.symm)).trans HBX2.out);clear hm5 hg5 hat5))
   exact⟨⟨i+1,D++[y],by omega,by go_num,HDN.out,HLN.out,HM5.out,HBX5.out⟩,by simp [intOf]<;>omega⟩
  ·have HE:=hid (show D=K.map nmK by have h:=Hid.out hD;rwa [List.take_of_length_le (by rw [← HK.out];omega)] at h)
   have HLE:=hid (show D.length≤nK+0 by have h:=Hid.out hDl;omega)
   have HMA:=hid (Hid.out hmk)
   replace HR0:=HBX
   have k3:wr.cell? ⟨w.heap.size,3,none⟩=some (.slice AV nV dV):=cell_of_row _ _ 3 _ _ _ HR0.out
   clear hD hmk hDl HB0 HBX
   go_wp2_with fail
   clear k3
   go_loopw [3,27] (fun av v wr=>∃ (i:Nat) (D:List Kd),i≤nV∧v=.int .i64 i∧Hid (D=K.map nmK++((V.take i).filter isV).map nmV)∧Hid (D.length≤nK+i)∧Hid (MkK w wr av D)∧Hid (wr.heap[w.heap.size]?=some (.cells #[.int .u8 (kd:Int),.slice AI nI dI,.slice AK nK dK,.slice AV nV dV] 31 (0,0)))) (fun _ v _=>nV-(intOf v).toNat)
   case atStart=>exact⟨0,D,Nat.zero_le _,by go_num,by rw [HE.out,List.take_zero];exact (List.append_nil _).symm,HLE.out,HMA.out,HR0.out⟩
   case round =>
    obtain⟨i,D,hi,rfl,hD,hDl,hmk,hbx⟩:=hrel
    have HBX:=hid (Hid.out hbx)
    clear hbx
    by_cases hlt:i<nV
    ·obtain⟨x,hx⟩:∃ x,V[i]?=some x:=⟨_,List.getElem?_eq_getElem (by rw [← HV.out];exact hlt)⟩
     have HXL:=hid (HWV.out x (List.mem_of_getElem? hx))
     have HDL:=hid (show D.length≤2199023255552 by have h:=Hid.out hDl;have:=HSM.out;omega)
     obtain⟨b,o,hAe,hb,hr⟩:=(HLV.out.below (Hid.out hmk).2) i x hx
     have hbs:b<wr.heap.size:=Nat.lt_of_lt_of_le hb (Hid.out hmk).2.size
     have HRG:=hid hr
     have HM:=hid (Hid.out hmk)
     have HAI:=hid (arr_info x.hs HXL.out)
     have HXX:=hid hx
     obtain⟨y,hy⟩:∃ y,nmV x=y:=⟨_,rfl⟩
     have hb1:=kid_built y (by rw [← hy];rfl) (by rw [← hy];exact HXL.out)
     rw [show y.n=x.rt by rw [← hy];rfl,show y.hs=x.hs by rw [← hy];rfl] at hb1
     have HY:=hid hy
     have hz1:(u8s x.hs).length=32:=by rw [u8s_length,HXL.out]
     have hz2:x.hs.length=32:=HXL.out
     clear hr hx hmk hy
     subst hAe
     by_cases hv0:x.rt=0
     ·have qv:((x.rt:Int) != 0)=false:=by rw [hv0];rfl
      have HDN:=hid (show D=K.map nmK++((V.take (i+1)).filter isV).map nmV by rw [filt_snoc HXX.out,if_neg (by simp [isV,hv0]),List.append_nil];exact Hid.out hD)
      have HLN:=hid (show D.length≤nK+(i+1) by have h:=Hid.out hDl;omega)
      clear hv0
      go_wp2_with (first
       | (refine wpList_load_at rfl 121 (.tmp 29) rfl b (o+i*37) rfl (ecV x) _ HRG.out Tryz.underlying121 rfl (infoVs x) ?_)
       | (refine wpList_fresh rfl 121 (.tmp 7) (.tmp 30) rfl (ecV x).toArray _ _ rfl rfl (infoVa x) (ecV_sz x) (all_of_one (ecV_one x)) ?_;intro W hb1 hr1 hz1;have HM1:=hid (HM.out.go hb1);have HBX1:=hid ((hb1.block _ (row_lt HBX.out)).trans HBX.out);have c0:W.cell? ⟨wr.heap.size,4,none⟩=some (.int .u32 x.rt):=cell_of_row _ _ 4 _ _ _ hr1;have HRH:=hid (show W.rangeAt wr.heap.size 5 (u8s x.hs) from rangeAt_row hr1 (fun a v hv=>by unfold ecV;rw [fix_of HXL.out,List.getElem?_toArray,Nat.add_comm 5 a];exact hv));clear hr1 hz1 hb1 HM HRG HBX))
      exact⟨⟨i+1,D,by omega,by go_num,HDN.out,HLN.out,HM1.out,HBX1.out⟩,by simp [intOf]<;>omega⟩
     ·have qv:((x.rt:Int) != 0)=true:=by rw [bne_iff_ne];omega
      have HDN:=hid (show D++[y]=K.map nmK++((V.take (i+1)).filter isV).map nmV by rw [filt_snoc HXX.out,if_pos (by simp [isV,hv0]),← List.append_assoc,← Hid.out hD,HY.out])
      have HLN:=hid (show (D++[y]).length≤nK+(i+1) by rw [List.length_append,List.length_singleton];have h:=Hid.out hDl;omega)
      clear hv0
      go_wp2_with (first
       | (refine wpList_load_at rfl 121 (.tmp 29) rfl b (o+i*37) rfl (ecV x) _ HRG.out Tryz.underlying121 rfl (infoVs x) ?_)
       | (refine wpList_fresh rfl 121 (.tmp 7) (.tmp 30) rfl (ecV x).toArray _ _ rfl rfl (infoVa x) (ecV_sz x) (all_of_one (ecV_one x)) ?_;intro W hb1 hr1 hz1;have HM1:=hid (HM.out.go hb1);have HBX1:=hid ((hb1.block _ (row_lt HBX.out)).trans HBX.out);have c0:W.cell? ⟨wr.heap.size,4,none⟩=some (.int .u32 x.rt):=cell_of_row _ _ 4 _ _ _ hr1;have HRH:=hid (show W.rangeAt wr.heap.size 5 (u8s x.hs) from rangeAt_row hr1 (fun a v hv=>by unfold ecV;rw [fix_of HXL.out,List.getElem?_toArray,Nat.add_comm 5 a];exact hv));clear hr1 hz1 hb1 HM HRG HBX)
       | (refine wpList_load_at rfl 43 (.tmp 37) rfl wr.heap.size 5 rfl (u8s x.hs) _ HRH.out Tryz.underlying43 rfl HAI.out ?_)
       | (refine wpList_plain rfl (fun K1 hK1=>op_oneK (.tmp 39) y rfl rfl (hK1 _ _ ?_));have hal:Below W.heap.size W (W.alloc (.cells (ecK y).toArray 45)):=(Below.refl _ _).alloc (Nat.le_refl _) _;have HM2:=hid (HM1.out.go hal);have HBX2:=hid ((hal.block _ (row_lt HBX1.out)).trans HBX1.out);have HX2:=hid (heap_alloc_new W (.cells (ecK y).toArray 45));clear hal HM1 HBX1)
       | (refine wpList_plain rfl (fun K1 hK1=>op_catK HM2.out y W.heap.size 1 HX2.out (by have:=HDL.out;omega) (.tmp 34) (.tmp 40) rfl rfl rfl (fun v5 w5 hm5 hg5 hat5=>hK1 _ _ ?_));obtain⟨A5,n5,c5,rfl⟩:∃ A n c,v5=.slice A n c:=(by obtain⟨A,c,h,_⟩:=hm5.ls ecK_len;exact⟨A,_,c,h⟩);have HM5:=hid hm5;have HBX5:=hid ((hg5.block w.heap.size (row_lt HBX2.out) (fun e=>Mk.off HM2.out HBX2.out (by decide) e.symm)).trans HBX2.out);clear hm5 hg5 hat5))
      exact⟨⟨i+1,D++[y],by omega,by go_num,HDN.out,HLN.out,HM5.out,HBX5.out⟩,by simp [intOf]<;>omega⟩
    ·have HE2:=hid (show D=K.map nmK++(V.filter isV).map nmV by have h:=Hid.out hD;rwa [List.take_of_length_le (by rw [← HV.out];omega)] at h)
     have HM:=hid (Hid.out hmk)
     clear hD hmk
     go_wp2
     go_ret
     exact⟨_,rfl,by rw [← HE2.out];exact HM.out⟩
end Go.Proofs.YtlpejbbmemhloaaGreatDoor.Nd
