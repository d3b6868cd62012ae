import Derived.Test.YtlpejbbmemhloaaGreatDoorRgG
import Derived.Test.YtlpejbbmemhloaaGreatDoorGb2
import Derived.Test.YtlpejbbmemhloaaGreatDoorGb3
import Derived.Test.YtlpejbbmemhloaaGreatDoorGb4
import Derived.Test.YtlpejbbmemhloaaGreatDoorGw2Asks
import Derived.Test.YtlpejbbmemhloaaGreatDoorGx1
import Derived.ChangeKeysEq
import Derived.Shelf.Spec.SlicesInsertGrow
import Derived.BigQuiet
set_option maxRecDepth 100000
namespace Go.Proofs.YtlpejbbmemhloaaGreatDoor
theorem Gw3Asksa {α:Type}(l:List α)(i:Nat)(x:α):l.toArray.setIfInBounds i x=(l.set i x).toArray:=List.setIfInBounds_toArray ..
theorem Gw3Asksb {α:Type}{a b:α}{l:List α}:(a::l).set 0 b=b::l:=List.set_cons_zero
theorem Gw3Asksc {α:Type}{a b:α}{l:List α}{n:Nat}:(a::l).set (n+1) b=a::l.set n b:=List.set_cons_succ
end Go.Proofs.YtlpejbbmemhloaaGreatDoor
namespace Go.Proofs.YtlpejbbmemhloaaGreatDoor.Hk
open Lib (hid)
set_option linter.unusedVariables false
open Go.ChangeShapes Go.WideShapes Go.ChangeAt Go.RowKit
variable {tK tS:TypeId}
open Pk (be be_length u8s u8s_length u8s_set u8s_get)
theorem refsum_lit (x:ByteArray) (hx:x.size≤140737488351232) (w:World) :
  Calls Tryz.prog 74 #[.string x] w fun e w'=>∃ C,C=(u8s (hashOf x.data.toList)).toArray∧e=.returned (.agg C)∧Below w.heap.size w w' :=
 (refsum_any x hx w).mono fun _ _ h=>⟨_,by unfold hashOf;simp,h.1,h.2⟩
end Go.Proofs.YtlpejbbmemhloaaGreatDoor.Hk
namespace Go.Proofs.YtlpejbbmemhloaaGreatDoor.Hp
open Lib (hid)
set_option linter.unusedVariables false
set_option linter.unusedSimpArgs false
set_option maxRecDepth 100000
open Go.ChangeShapes Go.WideShapes Go.ChangeAt Go.RowKit Go.WideMaps Go.Maps
open Go.Shelf Go.Lib
open Ar Nd
open BigFrame
open Go.Proofs.YtlpejbbmemhloaaGreatDoor.Rg (take_at only_H)
open Pk (u8s u8s_length)
open Hk (sum_lit)
def gapF:List Ce→Nat→Nat
 | [],_=>0
 | c::L,k=>if c.num=k+2 then gapF L (k+1)+1 else 0
def gapN (L:List Ce):Nat:=gapF L 0
def allL (L:List Ce) (D:List Kd):Bool:=D.all fun k=>(fndL L k.n).isSome
def goodL (L:List Ce) (D:List Kd):Bool:=D.all fun k=>match fndL L k.n with | some c=>decide (hsD c.d=k.hs) | none=>false
def bump (L:List Ce) (nd:Nd):List Ce:=L.map fun c=>⟨c.num,c.d,c.r+(nmsN nd).count c.num⟩
open Classical in
def putNG (L:List Ce) (nd:Nd):Nat:=match fstC L (encB nd).data.toList with | some c=>c.num | none=>gapN L+2
def putLG (L:List Ce) (nd:Nd):List Ce:=match fstC L (encB nd).data.toList with | some _=>L | none=>(bump L nd).take (gapN L)++[⟨gapN L+2,encB nd,0⟩]++(bump L nd).drop (gapN L)
end Go.Proofs.YtlpejbbmemhloaaGreatDoor.Hp
namespace Go.Proofs.YtlpejbbmemhloaaGreatDoor.Hp
open Lib (hid)
set_option linter.unusedVariables false
set_option linter.unusedSimpArgs false
set_option maxRecDepth 100000
open Ar Nd
open BigFrame
open Pk (u8s u8s_length)
open Go.ChangeShapes Go.WideShapes Go.ChangeAt Go.RowKit
open Rg
open Hk (hashOf refsum_lit)
def tldL (L:List Ce) (D:List Kd):Int:=if allL L D=true then (if goodL L D=true then 0 else 9) else 5
theorem allL_snoc (L:List Ce) (D:List Kd) (y:Kd):allL L (D++[y])=(allL L D&&(fndL L y.n).isSome):=by unfold allL;simp
theorem goodL_snoc {L:List Ce}{D:List Kd}{y:Kd}{c:Ce}(h:fndL L y.n=some c):goodL L (D++[y])=(goodL L D&&decide (hsD c.d=y.hs)):=by unfold goodL;simp [h]
theorem tld_none {L:List Ce}{D:List Kd}{y:Kd}{i:Nat}(hy:D[i]?=some y) (h:fndL L y.n=none):tldL L D=5:=by
 have:allL L D=false:=by
  unfold allL
  rw [← Bool.not_eq_true,List.all_eq_true]
  intro h2
  have:=h2 y (List.mem_of_getElem? hy)
  rw [h] at this
  cases this
 unfold tldL
 rw [this]
 rfl
theorem nmN_hs {n:Nd}(hw:Wd n):∀ x∈nmN n,x.hs.length=32:=by
 intro x hx
 unfold nmN at hx
 split at hx
 ·obtain⟨y,hy,rfl⟩:=List.mem_map.1 hx
  exact (hw.1 y hy).2
 ·split at hx
  ·obtain⟨y,hy,rfl⟩:=List.mem_map.1 hx
   exact (hw.2 y (List.mem_filter.1 hy).1).2.2.2
  ·cases hx
set_option maxHeartbeats 8000000 in
theorem told_R {w:World}{A:Option Addr}{n:Nat}{L:List Ce}(hin:HIn w A n L) (cap:Nat){sz:Nat}(hok:okTo sz L L.length) (hs:sz≤65536) (nd:Nd) (hw:Wd nd) (h1:nd.K.length≤255) (h2:nd.V.length≤255) (hnm:nmN nd=nd.K.map nmK++(nd.V.filter isV).map nmV) (cs:Array Value) (hN:NdAt w cs nd) :
  Calls Tryz.prog 43 #[.slice A n cap,.agg cs] w fun e w'=>e=.returned (.int .i64 (tldL L (nmN nd)))∧Below w.heap.size w w':=by
 have hle:n≤65536:=by rw [hin.len];exact hok.len hs
 have HNM:=hid (rnamed_any nd hw (by omega) (by omega) cs)
 have HW0:=hid (show ∀ x∈nmN nd,x.hs.length=32 from fun x hx=>nmN_hs hw x hx)
 have HLN:=hid (nmN_le h1 h2)
 rw [← hnm] at HNM
 have HI:=hid hin
 have HN:=hid hin.len
 have HAL:=hid (show ∀ c∈L,c.d.size≤140737488351232 from fun c hc=>Nat.le_trans (isN_size (hok.mem c hc).2.2) (by decide))
 have HNA:=hid hN
 obtain⟨AI,nI,cI,AK,nK,cK,AV,nV,cV,rfl,hrest⟩:=hN
 have hb0:Below w.heap.size w (w.alloc (.cells #[.int .u8 nd.kd,.slice AI nI cI,.slice AK nK cK,.slice AV nV cV] 31)):=(Below.refl _ _).alloc (Nat.le_refl _) _
 have HB0:=hid hb0
 have HNA0:=hid (HNA.out.below hb0)
 clear hrest hin hok hs hw h1 h2 hnm hb0 HNA
 obtain⟨D,hD⟩:∃ D,nmN nd=D:=⟨_,rfl⟩
 rw [hD] at HNM HW0 HLN ⊢
 clear hD
 go_enter Tryz.func43,Tryz.ntmps43
 go_wp2_with fail
 refine (HNM.out _ HNA0.out).mono ?_
 rintro e w2 ⟨v,rfl,hm⟩
 have hmw:MkK w w2 v D:=hm.since HB0.out
 obtain⟨AD,cD,rfl,-,-,-⟩:=hmw.ls ecK_len
 have HMW:=hid hmw
 obtain⟨m,hm2⟩:∃ m,D.length=m:=⟨_,rfl⟩
 rw [hm2] at HMW HLN ⊢
 have HM0:=hid hm2
 have hmm:m≤255:=HLN.out
 clear hm hmw hm2 HNM HNA0 HB0 HLN
 go_wp2_with fail
 go_loopw [5,12] (fun wv v wr=>∃ (i:Nat) (z:Int),i≤m∧v=.int .i64 i∧wv=.int .i64 z∧Hid (allL L (D.take i)=true)∧Hid (z=if goodL L (D.take i)=true then 0 else 9)∧Hid (MkK w wr (.slice AD m cD) D)) (fun _ v _=>m-(intOf v).toNat)
 case atStart=>exact⟨0,0,Nat.zero_le _,by go_num,rfl,by rw [List.take_zero];rfl,by rw [List.take_zero];rfl,HMW.out⟩
 case round =>
  obtain⟨i,z,hi,rfl,rfl,hAl,hGd,hMk⟩:=hrel
  have HA:=hid (Hid.out hAl)
  have HG:=hid (Hid.out hGd)
  have HMK:=hid (Hid.out hMk)
  clear hAl hGd hMk HMW
  by_cases hlt:i<m
  ·obtain⟨y,hy⟩:∃ y,D[i]?=some y:=⟨_,List.getElem?_eq_getElem (by rw [HM0.out];exact hlt)⟩
   have HYL:=hid (HW0.out y (List.mem_of_getElem? hy))
   obtain⟨AU',cU',hv,-,-,hls⟩:=HMK.out.ls ecK_len
   obtain⟨b,o,hAe,hb,hr⟩:=hls i y hy
   injection hv with e1 e2 e3
   subst e1
   clear e2 e3 hls hb
   have HRG:=hid hr
   have HY:=hid hy
   have HTK:=hid (take_snoc hy)
   clear hr hy
   subst hAe
   go_wp2_with (first
    | (refine wpList_load_at rfl 45 (.tmp 14) rfl b (o+i*34) rfl (ecK y) _ HRG.out Tryz.underlying45 rfl (infoKs y) ?_)
    | (refine wpList_fresh rfl 45 (.tmp 7) (.tmp 15) rfl (ecK y).toArray _ _ rfl rfl (infoKa y) (ecK_sz y) (all_of_one (ecK_one y)) ?_;intro W hb1 hr1 hz1;have HM1:=hid (show MkK w W (.slice (some ⟨b,o,none⟩) m cD) D from Mk.go HMK.out hb1);have HR1:=hid hr1;have c0:W.cell? ⟨wr.heap.size,1,none⟩=some (.int .u32 y.n):=(cell_of_row _ _ 1 _ _ _ hr1).trans (by unfold ecK;rfl);clear hb1 hr1 hz1 HMK HRG))
   clear c0
   generalize wr.heap.size=q at *
   refine (find_R (w:=W) L A n cap y.n HN.out (by omega) HM1.out.2.size (HI.out.ls.below HM1.out.2)).mono ?_
   rintro e w3 ⟨rfl,hb⟩
   have HM3:=hid (show MkK w w3 (.slice (some ⟨b,o,none⟩) m cD) D from Mk.go HM1.out hb)
   have HR3:=hid ((hb.block _ (row_lt HR1.out)).trans HR1.out)
   clear hb HM1 HR1
   rcases fndI_cases L y.n with ⟨p,c,hp,hpc,hn,hfl,-⟩ | ⟨hno,hfl,-⟩
   ·rw [hp]
    have p1:(p:Int)<(n:Int):=by have:=(List.getElem?_eq_some_iff.1 hpc).1;have:=HN.out;omega
    have p0:(0:Int)≤(p:Int):=by omega
    have d0:decide ((p:Int)<0)=false:=by rw [decide_eq_false_iff_not];omega
    obtain⟨bc,oc,hAc,hbc,hrc⟩:=HI.out.ls p c hpc
    have HCC:=hid (show w.cell? ⟨bc,oc+p*3+1,none⟩=some (.string c.d) from hrc 1 (.string c.d) rfl)
    have HCD:=hid (HAL.out c (List.mem_of_getElem? hpc))
    have HAN:=hid (show allL L (D.take (i+1))=true by rw [HTK.out,allL_snoc,HA.out,hfl];rfl)
    have HGN:=hid (show goodL L (D.take (i+1))=(goodL L (D.take i)&&decide (hsD c.d=y.hs)) by rw [HTK.out,goodL_snoc hfl])
    have HBL:=hid hbc
    clear hp hpc hn hfl hrc hbc
    subst hAc
    go_wp2_with fail
    have l3:=row_lt HR3.out
    refine wp_region_G (fun w'=>Below w3.heap.size w3 w') (by kernel_rfl) (by kernel_rfl) (Below.refl _ _).drew ?_
    refine wpG_val (.slice (some ⟨bc,oc,none⟩) n cap) rfl (by rfl) (fun w' hSw=>by go_simp) ?_
    simp only [Gw3Asksa,Gw3Asksb,Gw3Asksc]
    refine wpG_val (.int .i64 p) rfl (by rfl) (fun w' hSw=>by go_simp) ?_
    simp only [Gw3Asksa,Gw3Asksb,Gw3Asksc]
    refine wpG_val (.pointer (some ⟨bc,oc+p*3,none⟩)) rfl (by rfl) (fun w' hSw=>by go_simp) ?_
    simp only [Gw3Asksa,Gw3Asksb,Gw3Asksc]
    refine wpG_val (.pointer (some ⟨bc,oc+p*3+1,none⟩)) rfl (by rfl) (fun w' hSw=>by go_simp) ?_
    simp only [Gw3Asksa,Gw3Asksb,Gw3Asksc]
    refine wpG_val (.string c.d) rfl (by rfl) (fun w' hSw=>by have hb:=HM3.out.2.trans (hSw.mono HM3.out.2.size);have c1:w'.cell? ⟨bc,oc+p*3+1,none⟩=some (.string c.d):=(hb.cell (p:=⟨bc,_,none⟩) HBL.out).trans HCC.out;go_simp) ?_
    simp only [Gw3Asksa,Gw3Asksb,Gw3Asksc]
    refine wpG_call (.agg (u8s (hsD c.d)).toArray) 74 #[.string c.d] rfl (by rfl) (fun w'=>by go_simp) (fun w' hSw=>(refsum_lit c.d HCD.out w').mono fun e w2 h=>by obtain⟨C,hC,h1,h2⟩:=h;exact⟨by rw [h1,hC];rfl,hSw.trans (h2.mono hSw.size)⟩) ?_
    simp only [Gw3Asksa,Gw3Asksb,Gw3Asksc]
    refine wpG_val (.pointer (some ⟨q,2,none⟩)) rfl (by rfl) (fun w' hSw=>by go_simp) ?_
    simp only [Gw3Asksa,Gw3Asksb,Gw3Asksc]
    refine wpG_val (.agg (u8s y.hs).toArray) rfl (by rfl) (fun w' hSw=>load_run 43 (.tmp 28) rfl q 2 rfl (u8s y.hs) _ (kid_hash HYL.out ((hSw.block _ l3).trans HR3.out)) Tryz.underlying43 rfl (by rw [u8s_length,HYL.out];kernel_rfl)) ?_
    simp only [Gw3Asksa,Gw3Asksb,Gw3Asksc]
    by_cases he:hsD c.d=y.hs
    ·have hq:=fun W:World=>(eq_arr (hsD_len c.d) HYL.out W).trans (by rw [decide_eq_true he])
     have HE:=hid he
     clear he
     refine wpG_val (.bool false) rfl (by rfl) (fun w' hSw=>by have h1:=hq;go_simp) ?_
     simp only [Gw3Asksa,Gw3Asksb,Gw3Asksc]
     clear hq
     refine wpG_nil ?_
     intro w9 hS9
     have HM9:=hid (show MkK w w9 (.slice (some ⟨b,o,none⟩) m cD) D from Mk.go HM3.out hS9)
     have HZ:=hid (show z=if goodL L (D.take (i+1))=true then 0 else 9 by rw [HGN.out,decide_eq_true HE.out,Bool.and_true];exact HG.out)
     clear hS9
     go_wp2_with fail
     exact⟨⟨i+1,z,by omega,by go_num,rfl,HAN.out,HZ.out,HM9.out⟩,by simp [intOf]<;>omega⟩
    ·have hq:=fun W:World=>(eq_arr (hsD_len c.d) HYL.out W).trans (by rw [decide_eq_false he])
     refine wpG_val (.bool true) rfl (by rfl) (fun w' hSw=>by have h1:=hq;go_simp) ?_
     simp only [Gw3Asksa,Gw3Asksb,Gw3Asksc]
     clear hq
     refine wpG_nil ?_
     intro w9 hS9
     have HM9:=hid (show MkK w w9 (.slice (some ⟨b,o,none⟩) m cD) D from Mk.go HM3.out hS9)
     have HZ:=hid (show (9:Int)=if goodL L (D.take (i+1))=true then 0 else 9 by rw [HGN.out,decide_eq_false he,Bool.and_false];rfl)
     clear hS9 he
     go_wp2_with fail
     exact⟨⟨i+1,9,by omega,by go_num,rfl,HAN.out,HZ.out,HM9.out⟩,by simp [intOf]<;>omega⟩
   ·rw [hno]
    have HT:=hid (tld_none HY.out hfl)
    have HB:=hid HM3.out.2
    clear hno hfl
    go_wp2_with fail
    go_ret
    refine⟨?_,HB.out⟩
    rw [HT.out]
    rfl
  ·have hin:i=m:=by omega
   have HT:=hid (show D.take i=D by rw [hin,← HM0.out,List.take_length])
   have HB:=hid HMK.out.2
   have HZ:=hid (show tldL L D=z by have h1:=HA.out;have h2:=HG.out;rw [HT.out] at h1 h2;unfold tldL;rw [if_pos h1];exact h2.symm)
   clear hin
   go_wp2
   go_ret
   refine⟨?_,HB.out⟩
   rw [HZ.out]
   rfl
theorem FrX.go {k q:Nat}{w w1 w2:World}(h:FrX k w w1) (hs:w1.heap.size≤w2.heap.size) (hq:w.heap.size≤q) (hb:∀ g,g<w1.heap.size→g≠q→w2.heap[g]?=w1.heap[g]?):FrX k w w2 :=
 ⟨Nat.le_trans h.1 hs,fun g cs t f hne ht hg=>by
  have h1:=h.2 g cs t f hne ht hg
  rw [hb g (row_lt h1) (by have:=row_lt hg;omega)]
  exact h1⟩
open It (below_drewN)
theorem okTo.pair {sz:Nat}{L:List Ce}(h:okTo sz L L.length):L.Pairwise fun a b=>a.num<b.num:=by
 rw [List.pairwise_iff_getElem]
 intro i j hi hj hij
 exact h.rise j i _ _ hij (List.getElem?_eq_getElem hi) (List.getElem?_eq_getElem hj)
theorem fndL_num {L:List Ce}{num:Nat}{c:Ce}(h:fndL L num=some c):c∈L∧c.num=num:=⟨List.mem_of_find?_eq_some h,by have:=List.find?_some h;simpa using this⟩
theorem ldL_map (L:List Ce) (f:Ce→Ce) (hf:∀ c,(f c).d=c.d) (n:Nat):ldL (L.map f) n=ldL L n:=by
 unfold ldL
 congr 1
 induction L with
 | nil=>rfl
 | cons c L ih=>rw [List.map_cons,List.flatMap_cons,List.flatMap_cons,ih,hf]
def hd1 (num:Nat) (d:Int) (c:Ce):Ce:=if c.num=num then ⟨c.num,c.d,c.r+d⟩ else c
theorem hd1_num (num:Nat) (d:Int) (c:Ce):(hd1 num d c).num=c.num:=by unfold hd1;split<;>rfl
theorem hd1_d (num:Nat) (d:Int) (c:Ce):(hd1 num d c).d=c.d:=by unfold hd1;split<;>rfl
theorem holdL_eq (L:List Ce) (num:Nat):holdL L num=L.map (hd1 num 1):=rfl
theorem okH.hold {sz:Nat}{L:List Ce}{num:Nat}{c:Ce}(h:okH sz L) (hf:fndL L num=some c) (hr:c.r<16777216):okH sz (holdL L num):=by
 rw [holdL_eq]
 refine⟨h.lo,h.hi,okTo.of (fun x hx=>?_) ?_,fun x hx k hk=>?_,fun x hx=>?_⟩
 ·obtain⟨y,hy,rfl⟩:=List.mem_map.1 hx
  rw [hd1_num,hd1_d]
  exact h.cs.mem y hy
 ·rw [List.pairwise_map]
  exact h.cs.pair.imp fun {a b} hab=>by rw [hd1_num,hd1_num];exact hab
 ·obtain⟨y,hy,rfl⟩:=List.mem_map.1 hx
  rw [hd1_d] at hk
  obtain⟨z,hz,h1,h2⟩:=h.ld y hy k hk
  exact⟨_,List.mem_map.2 ⟨z,hz,rfl⟩,by rw [hd1_num];exact h1,by rw [hd1_d];exact h2⟩
 ·obtain⟨y,hy,rfl⟩:=List.mem_map.1 hx
  rw [hd1_num,ldL_map _ _ (hd1_d num 1)]
  have h1:=h.rf y hy
  unfold hd1
  split
  ·rename_i e
   have h2:fndL L num=some y:=by
    obtain⟨hc,hcn⟩:=fndL_num hf
    obtain⟨i,hi⟩:=List.mem_iff_getElem?.1 hc
    obtain⟨j,hj⟩:=List.mem_iff_getElem?.1 hy
    rcases Nat.lt_trichotomy i j with hij | rfl | hij
    ·have:=h.cs.rise j i _ _ hij hi hj;omega
    ·rw [hi] at hj;cases hj;exact hf
    ·have:=h.cs.rise i j _ _ hij hj hi;omega
   rw [hf] at h2
   cases h2
   show (ldL L c.num:Int)≤c.r+1∧c.r+1≤16777216
   omega
  ·exact h1
theorem fnd_mem {sz:Nat}{L:List Ce}(h:okTo sz L L.length){x:Ce}(hx:x∈L):fndL L x.num=some x:=by
 obtain⟨j,hj⟩:=List.mem_iff_getElem?.1 hx
 cases hf:fndL L x.num with
 | none =>
  unfold fndL at hf
  rw [List.find?_eq_none] at hf
  exact absurd (decide_eq_true (rfl:x.num=x.num)) (hf x hx)
 | some y =>
  obtain⟨hy,hyn⟩:=fndL_num hf
  obtain⟨i,hi⟩:=List.mem_iff_getElem?.1 hy
  rcases Nat.lt_trichotomy i j with hij | rfl | hij
  ·have:=h.rise j i _ _ hij hi hj;omega
  ·rw [hi] at hj;rw [hj]
  ·have:=h.rise i j _ _ hij hj hi;omega
def bmp (nd:Nd) (c:Ce):Ce:=⟨c.num,c.d,c.r+(nmsN nd).count c.num⟩
theorem bump_eq (L:List Ce) (nd:Nd):bump L nd=L.map (bmp nd):=rfl
theorem gap_spec:∀ (L:List Ce) (k:Nat),gapF L k≤L.length∧(∀ j c,j<gapF L k→L[j]?=some c→c.num=k+j+2)∧(∀ c,L[gapF L k]?=some c→c.num≠k+gapF L k+2)
 | [],k=>⟨Nat.le_refl _,fun j c h=>absurd h (Nat.not_lt_zero _),fun c h=>by cases h⟩
 | c::L,k=>by
  obtain⟨h1,h2,h3⟩:=gap_spec L (k+1)
  unfold gapF
  by_cases e:c.num=k+2
  ·rw [if_pos e]
   refine⟨Nat.succ_le_succ h1,fun j x hj hx=>?_,fun x hx=>?_⟩
   ·cases j with
    | zero=>cases hx;omega
    | succ j=>have:=h2 j x (by omega) (by simpa using hx);omega
   ·have:=h3 x (by simpa using hx);omega
  ·rw [if_neg e]
   exact⟨Nat.zero_le _,fun j x hj=>absurd hj (Nat.not_lt_zero _),fun x hx=>by cases hx;simpa using e⟩
theorem gapN_le (L:List Ce):gapN L≤L.length:=(gap_spec L 0).1
section
variable {sz:Nat}{L:List Ce}{nd:Nd}
theorem enc_dec (hw:Wd nd) (hck:ckN nd=0):ndD (encB nd)=nd∧isN (encB nd)=true:=by
 have h:decN (encB nd).data.toList=some nd:=by
  rw [encB_yes hck,show (bs (encN nd)).data.toList=encN nd from by unfold bs;simp]
  exact dec_enc hw hck
 exact⟨by unfold ndD;rw [h];rfl,by unfold isN;rw [h];rfl⟩
structure PutOk (sz:Nat) (L:List Ce) (nd:Nd):Prop where
 ck:ckN nd=0
 good:∀ k∈nmN nd,∃ c,fndL L k.n=some c∧hsD c.d=k.hs
 new:fstC L (encB nd).data.toList=none→gapN L+2≠sz∧∀ c∈L,c.r+((nmsN nd).count c.num:Int)≤16777216
theorem goodL_iff {D:List Kd}:goodL L D=true↔∀ k∈D,∃ c,fndL L k.n=some c∧hsD c.d=k.hs:=by
 unfold goodL
 rw [List.all_eq_true]
 constructor
 ·intro h k hk
  have:=h k hk
  cases hf:fndL L k.n with
  | none=>rw [hf] at this;cases this
  | some c=>rw [hf] at this;exact⟨c,rfl,of_decide_eq_true this⟩
 ·intro h k hk
  obtain⟨c,h1,h2⟩:=h k hk
  rw [h1]
  exact decide_eq_true h2
theorem all_of_good {D:List Kd}(h:goodL L D=true):allL L D=true:=by
 unfold allL
 rw [List.all_eq_true]
 intro k hk
 obtain⟨c,h1,_⟩:=goodL_iff.1 h k hk
 rw [h1];rfl
theorem count_zero_of {l:List Nat}{n:Nat}(h:∀ x∈l,x≠n):l.count n=0:=List.count_eq_zero.2 fun hn=>h n hn rfl
theorem ldL_ins (L:List Ce) (nd:Nd) (hw:Wd nd) (hck:ckN nd=0) (g k:Nat) (r:Int) (n:Nat):ldL ((bump L nd).take g++[⟨k,encB nd,r⟩]++(bump L nd).drop g) n=ldL L n+(nmsN nd).count n:=by
 have h1:nms (encB nd)=nmsN nd:=by unfold nms nmsN;rw [(enc_dec hw hck).1]
 have h2:ldL (bump L nd) n=ldL L n:=by rw [bump_eq];exact ldL_map L (bmp nd) (fun _=>rfl) n
 rw [← h2]
 unfold ldL
 have h3:((bump L nd).flatMap fun c=>nms c.d)=(((bump L nd).take g).flatMap fun c=>nms c.d)++(((bump L nd).drop g).flatMap fun c=>nms c.d):=by rw [← List.flatMap_append,List.take_append_drop]
 rw [List.flatMap_append,List.flatMap_append,List.flatMap_cons,List.flatMap_nil,List.append_nil,h1,h3,List.count_append,List.count_append,List.count_append]
 omega
theorem mem_ins {M:List Ce}{g:Nat}{c x:Ce}:x∈M.take g++[c]++M.drop g↔x=c∨x∈M:=by
 rw [List.mem_append,List.mem_append,List.mem_singleton]
 constructor
 ·rintro ((h | h) | h)
  ·exact .inr (List.mem_of_mem_take h)
  ·exact .inl h
  ·exact .inr (List.mem_of_mem_drop h)
 ·rintro (h | h)
  ·exact .inl (.inr h)
  ·rw [← List.take_append_drop g M,List.mem_append] at h
   rcases h with h | h
   ·exact .inl (.inl h)
   ·exact .inr h
theorem putLG_some {c:Ce}(h:fstC L (encB nd).data.toList=some c):putLG L nd=L∧putNG L nd=c.num:=by
 unfold putLG putNG
 rw [h]
 exact⟨rfl,rfl⟩
theorem putLG_none (h:fstC L (encB nd).data.toList=none):putLG L nd=(bump L nd).take (gapN L)++[⟨gapN L+2,encB nd,0⟩]++(bump L nd).drop (gapN L)∧putNG L nd=gapN L+2:=by
 unfold putLG putNG
 rw [h]
 exact⟨rfl,rfl⟩
theorem gap_no (h:okH sz L){c:Ce}(hc:c∈L):c.num≠gapN L+2:=by
 obtain⟨j,hj⟩:=List.mem_iff_getElem?.1 hc
 obtain⟨h1,h2,h3⟩:=gap_spec L 0
 have hjl:=(List.getElem?_eq_some_iff.1 hj).1
 have h4:=h.cs.ge j c hjl hj
 intro e
 show False
 have e:c.num=gapF L 0+2:=e
 rcases Nat.lt_trichotomy j (gapF L 0) with hl | hl | hl
 ·have:=h2 j c hl hj;omega
 ·have:=h3 c (hl▸hj);omega
 ·omega
theorem PutOk.right (h:PutOk sz L nd) (hw:Wd nd) (hok:okH sz L):okH sz (putLG L nd):=by
 cases hf:fstC L (encB nd).data.toList with
 | some c=>rw [(putLG_some hf).1];exact hok
 | none =>
  obtain⟨hne,hmx⟩:=h.new hf
  rw [(putLG_none hf).1]
  have hgl:=gapN_le L
  have hrm:=hok.room
  obtain⟨g1,g2,g3⟩:=gap_spec L 0
  have hsub:∀ n∈nmsN nd,∃ c∈L,c.num=n:=fun n hn=>by
   obtain⟨k,hk,rfl⟩:=List.mem_map.1 hn
   obtain⟨c,hc,_⟩:=h.good k hk
   exact⟨c,(fndL_num hc).1,(fndL_num hc).2⟩
  refine⟨hok.lo,hok.hi,okTo.of (fun x hx=>?_) ?_,fun x hx k hk=>?_,fun x hx=>?_⟩
  ·rcases mem_ins.1 hx with rfl | hx
   ·exact⟨by show 2≤gapN L+2;omega,by show gapN L+2<sz;omega,(enc_dec hw h.ck).2⟩
   ·obtain⟨c,hc,rfl⟩:=List.mem_map.1 hx
    exact hok.cs.mem c hc
  ·have hp:(bump L nd).Pairwise fun a b=>a.num<b.num:=by
    rw [bump_eq,List.pairwise_map]
    exact hok.cs.pair
   rw [List.append_assoc,List.pairwise_append]
   refine⟨hp.sublist (List.take_sublist _ _),?_,fun a ha b hb=>?_⟩
   ·rw [List.singleton_append,List.pairwise_cons]
    refine⟨fun b hb=>?_,hp.sublist (List.drop_sublist _ _)⟩
    obtain⟨j,hj⟩:=List.mem_iff_getElem?.1 hb
    rw [List.getElem?_drop,bump_eq,List.getElem?_map] at hj
    cases hc:L[gapN L+j]? with
    | none=>rw [hc] at hj;cases hj
    | some c =>
     rw [hc] at hj
     cases hj
     have h4:=hok.cs.ge _ c (List.getElem?_eq_some_iff.1 hc).1 hc
     have h5:=gap_no hok (List.mem_of_getElem? hc)
     show gapN L+2<c.num
     omega
   ·obtain⟨i,hi⟩:=List.mem_iff_getElem?.1 ha
    rw [List.getElem?_take] at hi
    split at hi
    ·rename_i hig
     rw [bump_eq,List.getElem?_map] at hi
     cases hc:L[i]? with
     | none=>rw [hc] at hi;cases hi
     | some c =>
      rw [hc] at hi
      cases hi
      have h4:=g2 i c hig hc
      rcases List.mem_append.1 hb with hb | hb
      ·rw [List.mem_singleton.1 hb]
       show c.num<gapN L+2
       unfold gapN at *
       omega
      ·obtain⟨j,hj⟩:=List.mem_iff_getElem?.1 hb
       rw [List.getElem?_drop,bump_eq,List.getElem?_map] at hj
       cases hd:L[gapN L+j]? with
       | none=>rw [hd] at hj;cases hj
       | some d =>
        rw [hd] at hj
        cases hj
        exact hok.cs.rise (gapN L+j) i c d (by unfold gapN at *;omega) hc hd
    ·cases hi
  ·have hbk:∀ c∈L,bmp nd c∈(bump L nd).take (gapN L)++[⟨gapN L+2,encB nd,0⟩]++(bump L nd).drop (gapN L):=fun c hc=>mem_ins.2 (.inr (List.mem_map.2 ⟨c,hc,rfl⟩))
   rcases mem_ins.1 hx with rfl | hx
   ·have hk':k∈nmN nd:=by
     have:k∈nmN (ndD (encB nd)):=hk
     rwa [(enc_dec hw h.ck).1] at this
    obtain⟨c,hc,hs⟩:=h.good k hk'
    exact⟨_,hbk c (fndL_num hc).1,(fndL_num hc).2,hs⟩
   ·obtain⟨c,hc,rfl⟩:=List.mem_map.1 hx
    obtain⟨y,hy,h1,h2⟩:=hok.ld c hc k hk
    exact⟨_,hbk y hy,h1,h2⟩
  ·rcases mem_ins.1 hx with rfl | hx
   ·rw [ldL_ins L nd hw h.ck]
    have z1:ldL L (gapN L+2)=0:=by
     unfold ldL
     refine count_zero_of fun y hy e=>?_
     obtain⟨c,hc,hyc⟩:=List.mem_flatMap.1 hy
     obtain⟨k,hk,rfl⟩:=List.mem_map.1 hyc
     obtain⟨d,hd,h1,_⟩:=hok.ld c hc k hk
     exact gap_no hok hd (h1.trans e)
    have z2:(nmsN nd).count (gapN L+2)=0:=count_zero_of fun y hy e=>by
     obtain⟨c,hc,h1⟩:=hsub y hy
     exact gap_no hok hc (h1.trans e)
    rw [show (⟨gapN L+2,encB nd,0⟩:Ce).num=gapN L+2 from rfl,z1,z2]
    show (((0+0:Nat)):Int)≤0∧(0:Int)≤16777216
    decide
   ·obtain⟨c,hc,rfl⟩:=List.mem_map.1 hx
    have h1:=hok.rf c hc
    have h2:=hmx c hc
    rw [ldL_ins L nd hw h.ck]
    show ((ldL L c.num+(nmsN nd).count c.num:Nat):Int)≤c.r+((nmsN nd).count c.num:Int)∧c.r+((nmsN nd).count c.num:Int)≤16777216
    omega
theorem PutOk.old (h:PutOk sz L nd) (hw:Wd nd) (hok:okH sz L){n:Nat}{c:Ce}(hc:fndL L n=some c):∃ c',fndL (putLG L nd) n=some c'∧c'.d=c.d∧c'.num=c.num∧c'.r-(ldL (putLG L nd) n:Int)=c.r-(ldL L n:Int):=by
 cases hf:fstC L (encB nd).data.toList with
 | some c0=>rw [(putLG_some hf).1];exact⟨c,hc,rfl,rfl,rfl⟩
 | none =>
  have hr:=(h.right hw hok).cs
  obtain⟨h1,h2⟩:=fndL_num hc
  have hm:bmp nd c∈putLG L nd:=by rw [(putLG_none hf).1];exact mem_ins.2 (.inr (List.mem_map.2 ⟨c,h1,rfl⟩))
  have h3:=fnd_mem hr hm
  refine⟨bmp nd c,by rw [← h2];exact h3,rfl,rfl,?_⟩
  rw [(putLG_none hf).1,ldL_ins L nd hw h.ck]
  show c.r+((nmsN nd).count c.num:Int)-((ldL L n+(nmsN nd).count n:Nat):Int)=_
  rw [h2]
  omega
theorem PutOk.cell (h:PutOk sz L nd) (hw:Wd nd) (hok:okH sz L):∃ c,fndL (putLG L nd) (putNG L nd)=some c∧c.d=encB nd∧fstC (putLG L nd) (encB nd).data.toList=some c:=by
 cases hf:fstC L (encB nd).data.toList with
 | some c =>
  rw [(putLG_some hf).1,(putLG_some hf).2]
  have h1:c∈L:=List.mem_of_find?_eq_some hf
  have h2:c.d.data.toList=(encB nd).data.toList:=by have:=List.find?_some hf;simpa using this
  exact⟨c,fnd_mem hok.cs h1,by
   have:c.d.data=(encB nd).data:=Array.ext' h2
   cases hc:c.d;cases he:encB nd;rw [hc,he] at this;simp at this;rw [this],hf⟩
 | none =>
  have hr:=(h.right hw hok).cs
  have hm:(⟨gapN L+2,encB nd,0⟩:Ce)∈putLG L nd:=by rw [(putLG_none hf).1];exact mem_ins.2 (.inl rfl)
  refine⟨⟨gapN L+2,encB nd,0⟩,by rw [(putLG_none hf).2];exact fnd_mem hr hm,rfl,?_⟩
  rw [(putLG_none hf).1]
  unfold fstC
  rw [List.append_assoc,List.find?_append]
  have h1:((bump L nd).take (gapN L)).find? (fun c=>decide (c.d.data.toList=(encB nd).data.toList))=none:=by
   rw [List.find?_eq_none]
   intro x hx
   obtain⟨c,hc,rfl⟩:=List.mem_map.1 (List.mem_of_mem_take hx)
   unfold fstC at hf
   rw [List.find?_eq_none] at hf
   exact hf c hc
  rw [h1,Option.none_or,List.singleton_append,List.find?_cons_of_pos (by exact decide_eq_true rfl)]
theorem PutOk.len (h:PutOk sz L nd):(putLG L nd).length=L.length∨(putLG L nd).length=L.length+1:=by
 cases hf:fstC L (encB nd).data.toList with
 | some c=>rw [(putLG_some hf).1];exact .inl rfl
 | none =>
  right
  rw [(putLG_none hf).1,List.length_append,List.length_append,List.length_take,List.length_drop,List.length_singleton]
  have:(bump L nd).length=L.length:=List.length_map _
  have:=gapN_le L
  omega
end
set_option linter.unusedVariables false
set_option linter.unusedSimpArgs false
set_option maxRecDepth 100000
open Go.ChangeShapes Go.WideShapes Go.ChangeAt Go.RowKit
open Ar Nd
open BigFrame
open Rg
open It (below_drewN)
theorem okE_y {sz:Nat}{L:List Ce}(h:okH sz L):okE sz L=0:=by unfold okE;rw [if_pos h]
theorem okE_n {sz:Nat}{L:List Ce}(h:¬ okH sz L):okE sz L=7:=by unfold okE;rw [if_neg h]
def okTwo (L:List Ce) (j:Nat):Prop:=∀ (k:Nat) (c:Ce),k<j→L[k]?=some c→tldL L (nmN (ndD c.d))=0∧(ldL L c.num:Int)≤c.r∧c.r≤16777216
theorem tld_zero {L:List Ce}{D:List Kd}:tldL L D=0↔goodL L D=true:=by
 unfold tldL
 constructor
 ·intro h
  by_cases h1:allL L D=true
  ·rw [if_pos h1] at h
   by_cases h2:goodL L D=true
   ·exact h2
   ·rw [if_neg h2] at h;cases h
  ·rw [if_neg h1] at h;cases h
 ·intro h;rw [if_pos (all_of_good h),if_pos h]
theorem okH_of {sz:Nat}{L:List Ce}(h1:16≤sz) (h2:sz≤65536) (h3:okTo sz L L.length) (h4:okTwo L L.length):okH sz L:=by
 refine⟨h1,h2,h3,fun c hc k hk=>?_,fun c hc=>?_⟩
 ·obtain⟨j,hj⟩:=List.getElem?_of_mem hc
  have h:=(h4 j c (List.getElem?_eq_some_iff.1 hj).1 hj).1
  obtain⟨x,hx,hh⟩:=goodL_iff.1 (tld_zero.1 h) k hk
  obtain⟨hxm,hxn⟩:=fndL_num hx
  exact⟨x,hxm,hxn,hh⟩
 ·obtain⟨j,hj⟩:=List.getElem?_of_mem hc
  exact (h4 j c (List.getElem?_eq_some_iff.1 hj).1 hj).2
theorem okTwo_of {sz:Nat}{L:List Ce}(h:okH sz L){c:Ce}(hc:c∈L):tldL L (nmN (ndD c.d))=0∧(ldL L c.num:Int)≤c.r∧c.r≤16777216:=by
 refine⟨tld_zero.2 (goodL_iff.2 fun k hk=>?_),h.rf c hc⟩
 obtain⟨x,hx,hn,hh⟩:=h.ld c hc k hk
 exact⟨x,by rw [← hn];exact fnd_mem h.cs hx,hh⟩
theorem okTwo.snoc {L:List Ce}{j:Nat}{c:Ce}(h:okTwo L j) (hc:L[j]?=some c) (h1:tldL L (nmN (ndD c.d))=0) (h2:(ldL L c.num:Int)≤c.r) (h3:c.r≤16777216):okTwo L (j+1):=fun k x hk hx=>by
 rcases Nat.lt_or_ge k j with h4 | h4
 ·exact h k x h4 hx
 ·have:k=j:=by omega
  subst this
  rw [hc] at hx
  cases hx
  exact⟨h1,h2,h3⟩
theorem fm_one {d:ByteArray}(h:isN d=true):nmN (ndD d)=(ndD d).K.map nmK++((ndD d).V.filter isV).map nmV:=by
 have h1:=isN_some h
 unfold decN at h1
 cases ho:openL d.data.toList with
 | none=>rw [ho] at h1;cases h1
 | some l =>
  rw [ho] at h1
  simp only at h1
  split at h1
  ·rename_i hh
   have e:=Option.some.inj h1
   have hw:=(tkN_fine l).1
   have hf:=rt_fm hw (ck_zero.1 (by simpa using hh.2)).1
   rw [e] at hf
   have hn:(ndD d).kd=1∧(ndD d).K=[]∧(ndD d).V=[]∨(ndD d).kd=2∧(ndD d).I=[]∧(ndD d).V=[]∨(ndD d).kd=3∧(ndD d).I=[]∧(ndD d).K=[]:=hf.kd
   unfold nmN
   rcases hn with ⟨a1,a2,a3⟩ | ⟨a1,a2,a3⟩ | ⟨a1,a2,a3⟩
   ·rw [a1,a2,a3];rfl
   ·rw [a1,a3];simp
   ·rw [a1,a3];simp
  ·cases h1
set_option maxHeartbeats 8000000 in
theorem checkH_R {w:World}{A:Option Addr}{n:Nat}{L:List Ce}(h:HIn w A n L) (sz cap:Nat) :
  Calls Tryz.prog 16 #[.agg #[.int .u32 sz,.slice A n cap]] w fun e w'=>e=.returned (.int .i64 (okE sz L))∧Below w.heap.size w w':=by
 have HI:=hid h
 have HN:=hid h.len
 have hnle:=h.le
 have HB0:=hid (show Below w.heap.size w (w.alloc (.cells #[.int .u32 sz,.slice A n cap] 25)) from (Below.refl _ _).alloc (Nat.le_refl _) _)
 have HR0:=hid (heap_alloc_new w (.cells #[.int .u32 sz,.slice A n cap] 25))
 clear h
 by_cases hlo:16≤sz
 case neg =>
  have q1:decide ((sz:Int)<16)=true:=by rw [decide_eq_true_iff];omega
  have HE:=hid (okE_n (L:=L) fun h=>hlo h.lo)
  clear hlo
  go_enter Tryz.func16,Tryz.ntmps16
  go_wp2_with fail
  go_ret
  refine⟨?_,HB0.out⟩
  rw [HE.out]
  rfl
 have q1:decide ((sz:Int)<16)=false:=by rw [decide_eq_false_iff_not];omega
 by_cases hhi:sz≤65536
 case neg =>
  have q2:decide ((65536:Int)<(sz:Int))=true:=by rw [decide_eq_true_iff];omega
  have HE:=hid (okE_n (L:=L) fun h=>hhi h.hi)
  clear hlo hhi
  go_enter Tryz.func16,Tryz.ntmps16
  go_wp2_with fail
  go_ret
  refine⟨?_,HB0.out⟩
  rw [HE.out]
  rfl
 have q2:decide ((65536:Int)<(sz:Int))=false:=by rw [decide_eq_false_iff_not];omega
 have HS:=hid (And.intro hlo hhi)
 go_enter Tryz.func16,Tryz.ntmps16
 go_wp2_with fail
 clear q1 q2 hlo
 generalize w.alloc _=w0 at *
 go_loopw [21] (fun v wr=>∃ i:Nat,i≤n∧v=.int .i64 i∧Hid (okTo sz L i)∧Hid (Below w.heap.size w wr)∧Hid (wr.heap[w.heap.size]?=some (.cells #[.int .u32 sz,.slice A n cap] 25 (0,0)))) (fun v _=>n-(intOf v).toNat)
 case atStart=>exact⟨0,Nat.zero_le _,by go_num,okTo.zero sz L,HB0.out,HR0.out⟩
 case round =>
  obtain⟨i,hi,rfl,hT,hB,hR⟩:=hrel
  have HT:=hid (Hid.out hT)
  have HB:=hid (Hid.out hB)
  have HR:=hid (Hid.out hR)
  clear hT hB hR HB0 HR0
  by_cases hlt:i<n
  ·obtain⟨c,hx⟩:∃ c,L[i]?=some c:=⟨_,List.getElem?_eq_getElem (by rw [← HN.out];exact hlt)⟩
   obtain⟨b,o,hAe,hbs,hr⟩:=HI.out.ls i c hx
   have HX:=hid hx
   have HRG:=hid (show wr.rangeAt b (o+i*3) [.int .u32 c.num,.string c.d,.int .i64 c.r] from range_below hr HB.out hbs)
   have hcs:c.d.size≤9223372036854775807:=HI.out.sz c (List.mem_of_getElem? hx)
   clear hr hbs hx
   subst hAe
   have hb:Below wr.heap.size wr (wr.alloc (.cells #[.int .u32 c.num,.string c.d,.int .i64 c.r] 75)):=(Below.refl _ _).alloc (Nat.le_refl _) _
   have HRC:=hid (heap_alloc_new wr (.cells #[.int .u32 c.num,.string c.d,.int .i64 c.r] 75))
   have HR1:=hid ((hb.block _ (row_lt HR.out)).trans HR.out)
   have HB1:=hid (HB.out.trans (hb.mono HB.out.size))
   have i0:(0:Int)≤(i:Int):=by omega
   have i1:(i:Int)<(n:Int):=by omega
   clear hb HR HB
   go_wp2_with (refine wpList_load_at rfl 75 (.tmp 24) rfl b (o+i*3) rfl [.int .u32 c.num,.string c.d,.int .i64 c.r] _ HRG.out Tryz.underlying75 rfl infoC ?_)
   generalize (wr.alloc (.cells #[.int .u32 c.num,.string c.d,.int .i64 c.r] 75))=w1 at *
   generalize wr.heap.size=gc at *
   refine (Nr.rdecodeN_any c.d hcs w1).mono ?_
   rintro e w2 ⟨nd,cs,rfl,hown,hnd⟩
   clear hnd
   obtain⟨z,hz⟩:∃ z:Int,(if (decN c.d.data.toList).isSome then (0:Int) else 9)=z:=⟨_,rfl⟩
   rw [hz]
   have HZ:=hid hz
   clear hz hcs
   have HR2:=hid ((hown.bel.block _ (row_lt HR1.out)).trans HR1.out)
   have HC2:=hid ((hown.bel.block _ (row_lt HRC.out)).trans HRC.out)
   have HB2:=hid (HB1.out.trans (hown.bel.mono HB1.out.size))
   obtain⟨vI,vK,vV,rfl,ho1,ho2,ho3⟩:=hown
   obtain⟨BI,mI,dI,rfl⟩:=own_shape ho1.1
   obtain⟨BK,mK,dK,rfl⟩:=own_shape ho2.1
   obtain⟨BV,mV,dV,rfl⟩:=own_shape ho3.1
   clear ho1 ho2 ho3 HR1 HRC HB1
   have hb:Below w2.heap.size w2 (w2.alloc (.cells #[.int .u8 nd.kd,.slice BI mI dI,.slice BK mK dK,.slice BV mV dV] 31)):=(Below.refl _ _).alloc (Nat.le_refl _) _
   have HR3:=hid ((hb.block _ (row_lt HR2.out)).trans HR2.out)
   have HC3:=hid ((hb.block _ (row_lt HC2.out)).trans HC2.out)
   have HB3:=hid (HB2.out.trans (hb.mono HB2.out.size))
   clear hb HR2 HC2 HB2
   go_upto_region 7 with fail
   generalize (w2.alloc (.cells #[.int .u8 nd.kd,.slice BI mI dI,.slice BK mK dK,.slice BV mV dV] 31))=w3 at *
   have c0:w3.cell? ⟨gc,0,none⟩=some (.int .u32 c.num):=cell_of_row _ _ 0 _ _ _ HC3.out
   have h0:w3.cell? ⟨w.heap.size,0,none⟩=some (.int .u32 sz):=cell_of_row _ _ 0 _ _ _ HR3.out
   have h1:w3.cell? ⟨w.heap.size,1,none⟩=some (.slice (some ⟨b,o,none⟩) n cap):=cell_of_row _ _ 1 _ _ _ HR3.out
   cases hn:isN c.d
   ·have hz9:z=9:=by rw [← HZ.out];unfold isN at hn;rw [hn];rfl
    have q1:((z:Int) != 0)=true:=by rw [hz9];rfl
    have HE:=hid (okE_n (sz:=sz) fun h=>not_ok HX.out (fun hh=>by rw [hn] at hh;cases hh.2.2.1) h.cs)
    clear hz9 hn
    go_big_quiet (fail)
    have HB4:=hid (below_drewN HB3.out nq)
    have HR4:=hid (show (World.drewN _ nq).heap[w.heap.size]?=_ from HR3.out)
    generalize World.drewN _ _=w4 at *
    go_wp2_with fail
    go_ret
    refine⟨?_,HB4.out⟩
    rw [HE.out]
    rfl
   have hz0:z=0:=by rw [← HZ.out];unfold isN at hn;rw [hn];rfl
   have q1:((z:Int) != 0)=false:=by rw [hz0];rfl
   have HL3:=hid hn
   clear hz0 hn
   by_cases h2:2≤c.num
   case neg =>
    have q2:decide ((c.num:Int)<2)=true:=by rw [decide_eq_true_iff];omega
    have HE:=hid (okE_n (sz:=sz) fun h=>not_ok HX.out (fun hh=>h2 hh.1) h.cs)
    clear h2
    go_big_quiet (fail)
    have HB4:=hid (below_drewN HB3.out nq)
    have HR4:=hid (show (World.drewN _ nq).heap[w.heap.size]?=_ from HR3.out)
    generalize World.drewN _ _=w4 at *
    go_wp2_with fail
    go_ret
    refine⟨?_,HB4.out⟩
    rw [HE.out]
    rfl
   have q2:decide ((c.num:Int)<2)=false:=by rw [decide_eq_false_iff_not];omega
   have HL1:=hid h2
   clear h2
   by_cases h3:c.num<sz
   case neg =>
    have q3:decide (sz≤c.num)=true:=by rw [decide_eq_true_iff];omega
    have HE:=hid (okE_n (sz:=sz) fun h=>not_ok HX.out (fun hh=>h3 hh.2.1) h.cs)
    clear h3
    go_big_quiet (fail)
    have HB4:=hid (below_drewN HB3.out nq)
    have HR4:=hid (show (World.drewN _ nq).heap[w.heap.size]?=_ from HR3.out)
    generalize World.drewN _ _=w4 at *
    go_wp2_with fail
    go_ret
    refine⟨?_,HB4.out⟩
    rw [HE.out]
    rfl
   have q3:decide (sz≤c.num)=false:=by rw [decide_eq_false_iff_not];omega
   have HL2:=hid h3
   clear h3
   by_cases hi0:i=0
   case pos =>
    subst hi0
    have HTN:=hid (HT.out.snoc HX.out HL1.out HL2.out HL3.out (fun x hj=>absurd hj (Nat.lt_irrefl _)))
    go_big_quiet (fail)
    have HB4:=hid (below_drewN HB3.out nq)
    have HR4:=hid (show (World.drewN _ nq).heap[w.heap.size]?=_ from HR3.out)
    generalize World.drewN _ _=w4 at *
    go_wp2_with fail
    exact⟨⟨1,by omega,by go_num,HTN.out,HB4.out,HR4.out⟩,by simp [intOf]<;>omega⟩
   obtain⟨k,hk⟩:∃ k,i=k+1:=⟨i-1,by omega⟩
   have hk1:(i:Int)-1=(k:Int):=by omega
   have hk2:decide ((0:Int)<(i:Int))=true:=by rw [decide_eq_true_iff];omega
   have hk2b:decide (0<i)=true:=by rw [decide_eq_true_iff];omega
   have hk3:(k:Int)<(n:Int):=by omega
   have hk0:(0:Int)≤(k:Int):=by omega
   obtain⟨y,hy⟩:∃ y,L[k]?=some y:=⟨_,List.getElem?_eq_getElem (by rw [← HN.out];omega)⟩
   obtain⟨b2,o2,hAe,hb2,hr2⟩:=HI.out.ls k y hy
   cases hAe
   have cy:w3.cell? ⟨b,o+k*3,none⟩=some (.int .u32 y.num):=(HB3.out.cell (p:=⟨b,_,none⟩) hb2).trans (by have:=hr2 0 _ rfl;simpa using this)
   have HYP:=hid (show ∀ x,L[i-1]?=some x→x=y from fun x hx=>by rw [hk,Nat.add_sub_cancel,hy] at hx;exact (Option.some.inj hx).symm)
   have HYI:=hid (show 0<i∧L[i-1]?=some y from⟨by omega,by rw [hk,Nat.add_sub_cancel];exact hy⟩)
   clear hr2 hb2 hy hk hi0
   by_cases h4:y.num<c.num
   case neg =>
    have q4:decide (c.num≤y.num)=true:=by rw [decide_eq_true_iff];omega
    have HE:=hid (okE_n (sz:=sz) fun h=>not_ok HX.out (fun hh=>h4 (hh.2.2.2 y HYI.out.1 HYI.out.2)) h.cs)
    clear h4
    go_big_quiet (fail)
    have HB4:=hid (below_drewN HB3.out nq)
    have HR4:=hid (show (World.drewN _ nq).heap[w.heap.size]?=_ from HR3.out)
    generalize World.drewN _ _=w4 at *
    go_wp2_with fail
    go_ret
    refine⟨?_,HB4.out⟩
    rw [HE.out]
    rfl
   have q4:decide (c.num≤y.num)=false:=by rw [decide_eq_false_iff_not];omega
   have HTN:=hid (HT.out.snoc HX.out HL1.out HL2.out HL3.out (fun x _ hx=>by rw [HYP.out x hx];exact h4))
   clear h4
   go_big_quiet (fail)
   have HB4:=hid (below_drewN HB3.out nq)
   have HR4:=hid (show (World.drewN _ nq).heap[w.heap.size]?=_ from HR3.out)
   generalize World.drewN _ _=w4 at *
   go_wp2_with fail
   exact⟨⟨i+1,by omega,by go_num,HTN.out,HB4.out,HR4.out⟩,by simp [intOf]<;>omega⟩
  ·have hin:i=n:=by omega
   have HOK:=hid (show okTo sz L L.length by rw [← HN.out,← hin];exact HT.out)
   clear hin HT
   have h1:wr.cell? ⟨w.heap.size,1,none⟩=some (.slice A n cap):=cell_of_row _ _ 1 _ _ _ HR.out
   go_wp2_with fail
   clear h1
   refine (led_R (w:=wr) (HI.out.go HB.out) cap HOK.out HS.out.2).mono ?_
   rintro e w5 ⟨bl,rfl,hle⟩
   have HLE:=hid (show LeI w w5 bl n L (L.flatMap fun c=>kdN (ndD c.d)) from⟨hle.row,HB.out.trans (hle.bel.mono HB.out.size),Nat.le_trans HB.out.size hle.ge⟩)
   have HR5:=hid ((hle.bel.block _ (row_lt HR.out)).trans HR.out)
   clear hle HR HB
   have h1:w5.cell? ⟨w.heap.size,1,none⟩=some (.slice A n cap):=cell_of_row _ _ 1 _ _ _ HR5.out
   go_wp2_with fail
   clear h1
   go_loopw [69] (fun v wr=>∃ j:Nat,j≤n∧v=.int .i64 j∧Hid (okTwo L j)∧Hid (LeI w wr bl n L (L.flatMap fun c=>kdN (ndD c.d)))∧Hid (wr.heap[w.heap.size]?=some (.cells #[.int .u32 sz,.slice A n cap] 25 (0,0)))) (fun v _=>n-(intOf v).toNat)
   case atStart=>exact⟨0,Nat.zero_le _,by go_num,fun k c hk=>absurd hk (Nat.not_lt_zero _),HLE.out,HR5.out⟩
   case round =>
    obtain⟨j,hj,rfl,hT,hL,hR⟩:=hrel
    have HT:=hid (Hid.out hT)
    have HL:=hid (Hid.out hL)
    have HR:=hid (Hid.out hR)
    have HB:=hid HL.out.bel
    clear hT hL hR HLE HR5
    by_cases hlt:j<n
    ·obtain⟨c,hx⟩:∃ c,L[j]?=some c:=⟨_,List.getElem?_eq_getElem (by rw [← HN.out];exact hlt)⟩
     obtain⟨b,o,hAe,hbs,hr⟩:=HI.out.ls j c hx
     have HX:=hid hx
     have HRG:=hid (show wr.rangeAt b (o+j*3) [.int .u32 c.num,.string c.d,.int .i64 c.r] from range_below hr HB.out hbs)
     have hcs:c.d.size≤9223372036854775807:=HI.out.sz c (List.mem_of_getElem? hx)
     clear hr hbs hx
     subst hAe
     have hb:Below wr.heap.size wr (wr.alloc (.cells #[.int .u32 c.num,.string c.d,.int .i64 c.r] 75)):=(Below.refl _ _).alloc (Nat.le_refl _) _
     have HRC:=hid (heap_alloc_new wr (.cells #[.int .u32 c.num,.string c.d,.int .i64 c.r] 75))
     have HR1:=hid ((hb.block _ (row_lt HR.out)).trans HR.out)
     have HB1:=hid (HB.out.trans (hb.mono HB.out.size))
     have j0:(0:Int)≤(j:Int):=by omega
     have j1:(j:Int)<(n:Int):=by omega
     have HL1:=hid (HL.out.go hb)
     have HCN:=hid (HOK.out.mem c (List.mem_of_getElem? HX.out)).2.2
     have HMC:=hid (List.mem_of_getElem? HX.out)
     clear hb HR HB HL
     go_wp2_with (refine wpList_load_at rfl 75 (.tmp 72) rfl b (o+j*3) rfl [.int .u32 c.num,.string c.d,.int .i64 c.r] _ HRG.out Tryz.underlying75 rfl infoC ?_)
     generalize (wr.alloc (.cells #[.int .u32 c.num,.string c.d,.int .i64 c.r] 75))=w1 at *
     generalize wr.heap.size=gc at *
     obtain⟨q,hq⟩:∃ q,ldL L c.num=q:=⟨_,rfl⟩
     have HQ:=hid hq
     clear hq
     have hdr:Below w1.heap.size w1 w1.drew:=(Below.refl _ _).drew
     refine wp_region_X (fun _ (w':World)=>Below w1.heap.size w1 w') (by kernel_rfl) ?_
     refine take_X 0 74 (.pointer (some ⟨w.heap.size,1,none⟩)) rfl (by rfl) (by kernel_rfl) (by kernel_rfl) (by kernel_rfl) (by kernel_rfl) (fun _ _ _ h=>h) (fun _ _ h=>h) (Or.inl ⟨by rfl,fun w' hB=>by obtain⟨_,_,_,hSw⟩:=hB;go_simp⟩) hdr ?_
     simp only [Gw3Asksa,Gw3Asksb,Gw3Asksc]
     refine take_X 1 75 (.slice (some ⟨b,o,none⟩) n cap) rfl (by rfl) (by kernel_rfl) (by kernel_rfl) (by kernel_rfl) (by kernel_rfl) (fun _ _ _ h=>h) (fun _ _ h=>h) (Or.inl ⟨by rfl,fun w' hB=>by obtain⟨_,_,_,hSw⟩:=hB;have c1:w'.cell? ⟨w.heap.size,1,none⟩=some (.slice (some ⟨b,o,none⟩) n cap):=cell_of_row _ _ 1 _ _ _ ((hSw.block _ (row_lt HR1.out)).trans HR1.out);go_simp⟩) hdr ?_
     simp only [Gw3Asksa,Gw3Asksb,Gw3Asksc]
     refine take_X 2 76 (.agg #[.int .u32 c.num,.string c.d,.int .i64 c.r]) rfl (by rfl) (by kernel_rfl) (by kernel_rfl) (by kernel_rfl) (by kernel_rfl) (fun _ _ _ h=>h) (fun _ _ h=>h) (Or.inl ⟨by rfl,fun w' hB=>by obtain⟨_,_,_,hSw⟩:=hB;exact row_runO 75 rfl gc rfl _ _ (0,0) _ ((hSw.block _ (row_lt HRC.out)).trans HRC.out) Tryz.underlying75 rfl infoC⟩) hdr ?_
     simp only [Gw3Asksa,Gw3Asksb,Gw3Asksc]
     generalize w1.drew=v0 at *
     refine only_X 3 rfl (by kernel_rfl) (by rfl) (fun K hK=>?_)
     go_wp2_with fail
     refine (node_R c hcs v0).mono ?_
     rintro e v1 ⟨cs,rfl,hown⟩
     have hS1:=hdr.trans (hown.bel.mono hdr.size)
     have hfn:=fine_R HCN.out
     have HND:=hid (hown.at_ (by have:=hfn.2.1;omega) (by have:=hfn.2.2.1;omega) (by have:=hfn.2.2.2;omega))
     have HFN:=hid hfn
     clear hown hfn hdr
     refine hK.out _ _ hS1 ?_
     clear hK K
     try simp only [Act.put,Gw3Asksa,Gw3Asksb,Gw3Asksc]
     refine only_X 4 rfl (by kernel_rfl) (by rfl) (fun K hK=>?_)
     go_wp2_with fail
     refine (told_R (w:=v1) (HI.out.go (HB1.out.trans (hS1.mono HB1.out.size))) cap HOK.out HS.out.2 (ndD c.d) HFN.out.1 HFN.out.2.2.1 HFN.out.2.2.2 (fm_one HCN.out) cs HND.out).mono ?_
     rintro e v2 ⟨rfl,hb⟩
     have hS2:=hS1.trans (hb.mono hS1.size)
     clear hb hS1 HND HFN
     obtain⟨z,hz⟩:∃ z,tldL L (nmN (ndD c.d))=z:=⟨_,rfl⟩
     rw [hz]
     have HZ:=hid hz
     clear hz
     refine hK.out _ _ hS2 ?_
     clear hK K
     try simp only [Act.put,Gw3Asksa,Gw3Asksb,Gw3Asksc]
     have HB2:=hid (HB1.out.trans (hS2.mono HB1.out.size))
     have HR2:=hid ((hS2.block _ (row_lt HR1.out)).trans HR1.out)
     have HL2:=hid (HL1.out.go hS2)
     have hcell:∀ w',Below w1.heap.size w1 w'→w'.cell? ⟨bl,j,none⟩=some (.int .i64 q):=fun w' hSw=>(cell_of_row _ _ j _ _ _ (HL1.out.go hSw).row).trans (by rw [← HQ.out];unfold enN cntL;rw [List.getElem?_toArray,List.getElem?_map,List.getElem?_map,HX.out];rfl)
     have HCE:=hid hcell
     clear hcell
     have HRF:=hid (show ∀ w',Below w1.heap.size w1 w'→w'.cell? ⟨gc,2,none⟩=some (.int .i64 c.r) from fun w' hSw=>cell_of_row _ _ 2 _ _ _ ((hSw.block _ (row_lt HRC.out)).trans HRC.out))
     by_cases hz0:z=0
     case neg =>
      have q1:((z:Int) != 0)=true:=by rw [bne_iff_ne];exact hz0
      have HE:=hid (okE_n (sz:=sz) fun h=>(fun hh=>hz0 (HZ.out.symm.trans hh.1)) (okTwo_of h HMC.out))
      clear hz0
      refine take_X 5 79 (.bool true) rfl (by rfl) (by kernel_rfl) (by kernel_rfl) (by kernel_rfl) (by kernel_rfl) (fun _ _ _ h=>h) (fun _ _ h=>h) (Or.inl ⟨by rfl,fun w' hB=>by obtain⟨_,_,_,hSw⟩:=hB;go_simp⟩) hS2 ?_
      simp only [Gw3Asksa,Gw3Asksb,Gw3Asksc]
      refine take_X 6 80 (.bool true) rfl (by rfl) (by kernel_rfl) (by kernel_rfl) (by kernel_rfl) (by kernel_rfl) (fun _ _ _ h=>h) (fun _ _ h=>h) (Or.inl ⟨by rfl,fun w' hB=>by obtain⟨_,_,_,hSw⟩:=hB;go_simp⟩) hS2 ?_
      simp only [Gw3Asksa,Gw3Asksb,Gw3Asksc]
      refine take_X 7 81 undef rfl (by rfl) (by kernel_rfl) (by kernel_rfl) (by kernel_rfl) (by kernel_rfl) (fun _ _ _ h=>h) (fun _ _ h=>h) (Or.inr ⟨by rfl,rfl⟩) hS2 ?_
      simp only [Gw3Asksa,Gw3Asksb,Gw3Asksc]
      refine take_X 8 82 undef rfl (by rfl) (by kernel_rfl) (by kernel_rfl) (by kernel_rfl) (by kernel_rfl) (fun _ _ _ h=>h) (fun _ _ h=>h) (Or.inr ⟨by rfl,rfl⟩) hS2 ?_
      simp only [Gw3Asksa,Gw3Asksb,Gw3Asksc]
      refine take_X 9 83 undef rfl (by rfl) (by kernel_rfl) (by kernel_rfl) (by kernel_rfl) (by kernel_rfl) (fun _ _ _ h=>h) (fun _ _ h=>h) (Or.inr ⟨by rfl,rfl⟩) hS2 ?_
      simp only [Gw3Asksa,Gw3Asksb,Gw3Asksc]
      refine take_X 10 84 undef rfl (by rfl) (by kernel_rfl) (by kernel_rfl) (by kernel_rfl) (by kernel_rfl) (fun _ _ _ h=>h) (fun _ _ h=>h) (Or.inr ⟨by rfl,rfl⟩) hS2 ?_
      simp only [Gw3Asksa,Gw3Asksb,Gw3Asksc]
      refine take_X 11 85 undef rfl (by rfl) (by kernel_rfl) (by kernel_rfl) (by kernel_rfl) (by kernel_rfl) (fun _ _ _ h=>h) (fun _ _ h=>h) (Or.inr ⟨by rfl,rfl⟩) hS2 ?_
      simp only [Gw3Asksa,Gw3Asksb,Gw3Asksc]
      refine take_X 12 86 undef rfl (by rfl) (by kernel_rfl) (by kernel_rfl) (by kernel_rfl) (by kernel_rfl) (fun _ _ _ h=>h) (fun _ _ h=>h) (Or.inr ⟨by rfl,rfl⟩) hS2 ?_
      simp only [Gw3Asksa,Gw3Asksb,Gw3Asksc]
      refine take_X 13 87 undef rfl (by rfl) (by kernel_rfl) (by kernel_rfl) (by kernel_rfl) (by kernel_rfl) (fun _ _ _ h=>h) (fun _ _ h=>h) (Or.inr ⟨by rfl,rfl⟩) hS2 ?_
      simp only [Gw3Asksa,Gw3Asksb,Gw3Asksc]
      refine take_X 14 88 (.bool true) rfl (by rfl) (by kernel_rfl) (by kernel_rfl) (by kernel_rfl) (by kernel_rfl) (fun _ _ _ h=>h) (fun _ _ h=>h) (Or.inl ⟨by rfl,fun w' hB=>by obtain⟨_,_,_,hSw⟩:=hB;go_simp⟩) hS2 ?_
      simp only [Gw3Asksa,Gw3Asksb,Gw3Asksc]
      refine take_X 15 89 (.bool true) rfl (by rfl) (by kernel_rfl) (by kernel_rfl) (by kernel_rfl) (by kernel_rfl) (fun _ _ _ h=>h) (fun _ _ h=>h) (Or.inl ⟨by rfl,fun w' hB=>by obtain⟨_,_,_,hSw⟩:=hB;go_simp⟩) hS2 ?_
      simp only [Gw3Asksa,Gw3Asksb,Gw3Asksc]
      refine take_X 16 90 undef rfl (by rfl) (by kernel_rfl) (by kernel_rfl) (by kernel_rfl) (by kernel_rfl) (fun _ _ _ h=>h) (fun _ _ h=>h) (Or.inr ⟨by rfl,rfl⟩) hS2 ?_
      simp only [Gw3Asksa,Gw3Asksb,Gw3Asksc]
      refine take_X 17 91 undef rfl (by rfl) (by kernel_rfl) (by kernel_rfl) (by kernel_rfl) (by kernel_rfl) (fun _ _ _ h=>h) (fun _ _ h=>h) (Or.inr ⟨by rfl,rfl⟩) hS2 ?_
      simp only [Gw3Asksa,Gw3Asksb,Gw3Asksc]
      refine take_X 18 92 undef rfl (by rfl) (by kernel_rfl) (by kernel_rfl) (by kernel_rfl) (by kernel_rfl) (fun _ _ _ h=>h) (fun _ _ h=>h) (Or.inr ⟨by rfl,rfl⟩) hS2 ?_
      simp only [Gw3Asksa,Gw3Asksb,Gw3Asksc]
      refine take_X 19 93 (.bool true) rfl (by rfl) (by kernel_rfl) (by kernel_rfl) (by kernel_rfl) (by kernel_rfl) (fun _ _ _ h=>h) (fun _ _ h=>h) (Or.inl ⟨by rfl,fun w' hB=>by obtain⟨_,_,_,hSw⟩:=hB;go_simp⟩) hS2 ?_
      simp only [Gw3Asksa,Gw3Asksb,Gw3Asksc]
      refine done_X (by kernel_rfl) ?_ _
      go_wp2_with fail
      go_ret
      refine⟨?_,HB2.out⟩
      rw [HE.out]
      rfl
     have q1:((z:Int) != 0)=false:=by rw [hz0];rfl
     have HZ0:=hid (HZ.out.trans hz0)
     clear hz0
     refine take_X 5 79 (.bool false) rfl (by rfl) (by kernel_rfl) (by kernel_rfl) (by kernel_rfl) (by kernel_rfl) (fun _ _ _ h=>h) (fun _ _ h=>h) (Or.inl ⟨by rfl,fun w' hB=>by obtain⟨_,_,_,hSw⟩:=hB;go_simp⟩) hS2 ?_
     simp only [Gw3Asksa,Gw3Asksb,Gw3Asksc]
     refine take_X 6 80 (.bool false) rfl (by rfl) (by kernel_rfl) (by kernel_rfl) (by kernel_rfl) (by kernel_rfl) (fun _ _ _ h=>h) (fun _ _ h=>h) (Or.inl ⟨by rfl,fun w' hB=>by obtain⟨_,_,_,hSw⟩:=hB;go_simp⟩) hS2 ?_
     simp only [Gw3Asksa,Gw3Asksb,Gw3Asksc]
     refine take_X 7 81 (.pointer (some ⟨gc,2,none⟩)) rfl (by rfl) (by kernel_rfl) (by kernel_rfl) (by kernel_rfl) (by kernel_rfl) (fun _ _ _ h=>h) (fun _ _ h=>h) (Or.inl ⟨by rfl,fun w' hB=>by obtain⟨_,_,_,hSw⟩:=hB;go_simp⟩) hS2 ?_
     simp only [Gw3Asksa,Gw3Asksb,Gw3Asksc]
     refine take_X 8 82 (.int .i64 c.r) rfl (by rfl) (by kernel_rfl) (by kernel_rfl) (by kernel_rfl) (by kernel_rfl) (fun _ _ _ h=>h) (fun _ _ h=>h) (Or.inl ⟨by rfl,fun w' hB=>by obtain⟨_,_,_,hSw⟩:=hB;have c1:=HRF.out w' hSw;go_simp⟩) hS2 ?_
     simp only [Gw3Asksa,Gw3Asksb,Gw3Asksc]
     refine take_X 9 83 (.slice (some ⟨bl,0,none⟩) n n) rfl (by rfl) (by kernel_rfl) (by kernel_rfl) (by kernel_rfl) (by kernel_rfl) (fun _ _ _ h=>h) (fun _ _ h=>h) (Or.inl ⟨by rfl,fun w' hB=>by obtain⟨_,_,_,hSw⟩:=hB;go_simp⟩) hS2 ?_
     simp only [Gw3Asksa,Gw3Asksb,Gw3Asksc]
     refine take_X 10 84 (.int .i64 j) rfl (by rfl) (by kernel_rfl) (by kernel_rfl) (by kernel_rfl) (by kernel_rfl) (fun _ _ _ h=>h) (fun _ _ h=>h) (Or.inl ⟨by rfl,fun w' hB=>by obtain⟨_,_,_,hSw⟩:=hB;go_simp⟩) hS2 ?_
     simp only [Gw3Asksa,Gw3Asksb,Gw3Asksc]
     refine take_X 11 85 (.pointer (some ⟨bl,j,none⟩)) rfl (by rfl) (by kernel_rfl) (by kernel_rfl) (by kernel_rfl) (by kernel_rfl) (fun _ _ _ h=>h) (fun _ _ h=>h) (Or.inl ⟨by rfl,fun w' hB=>by obtain⟨_,_,_,hSw⟩:=hB;go_simp⟩) hS2 ?_
     simp only [Gw3Asksa,Gw3Asksb,Gw3Asksc]
     refine take_X 12 86 (.int .i64 q) rfl (by rfl) (by kernel_rfl) (by kernel_rfl) (by kernel_rfl) (by kernel_rfl) (fun _ _ _ h=>h) (fun _ _ h=>h) (Or.inl ⟨by rfl,fun w' hB=>by obtain⟨_,_,_,hSw⟩:=hB;have c1:=HCE.out w' hSw;go_simp⟩) hS2 ?_
     simp only [Gw3Asksa,Gw3Asksb,Gw3Asksc]
     by_cases h5:(q:Int)≤c.r
     case neg =>
      have q5:decide (c.r<(q:Int))=true:=by rw [decide_eq_true_iff];omega
      have HE:=hid (okE_n (sz:=sz) fun h=>(fun hh=>h5 (by rw [← HQ.out];exact hh.2.1)) (okTwo_of h HMC.out))
      clear h5
      refine take_X 13 87 (.bool true) rfl (by rfl) (by kernel_rfl) (by kernel_rfl) (by kernel_rfl) (by kernel_rfl) (fun _ _ _ h=>h) (fun _ _ h=>h) (Or.inl ⟨by rfl,fun w' hB=>by obtain⟨_,_,_,hSw⟩:=hB;go_simp⟩) hS2 ?_
      simp only [Gw3Asksa,Gw3Asksb,Gw3Asksc]
      refine take_X 14 88 (.bool true) rfl (by rfl) (by kernel_rfl) (by kernel_rfl) (by kernel_rfl) (by kernel_rfl) (fun _ _ _ h=>h) (fun _ _ h=>h) (Or.inl ⟨by rfl,fun w' hB=>by obtain⟨_,_,_,hSw⟩:=hB;go_simp⟩) hS2 ?_
      simp only [Gw3Asksa,Gw3Asksb,Gw3Asksc]
      refine take_X 15 89 (.bool true) rfl (by rfl) (by kernel_rfl) (by kernel_rfl) (by kernel_rfl) (by kernel_rfl) (fun _ _ _ h=>h) (fun _ _ h=>h) (Or.inl ⟨by rfl,fun w' hB=>by obtain⟨_,_,_,hSw⟩:=hB;go_simp⟩) hS2 ?_
      simp only [Gw3Asksa,Gw3Asksb,Gw3Asksc]
      refine take_X 16 90 undef rfl (by rfl) (by kernel_rfl) (by kernel_rfl) (by kernel_rfl) (by kernel_rfl) (fun _ _ _ h=>h) (fun _ _ h=>h) (Or.inr ⟨by rfl,rfl⟩) hS2 ?_
      simp only [Gw3Asksa,Gw3Asksb,Gw3Asksc]
      refine take_X 17 91 undef rfl (by rfl) (by kernel_rfl) (by kernel_rfl) (by kernel_rfl) (by kernel_rfl) (fun _ _ _ h=>h) (fun _ _ h=>h) (Or.inr ⟨by rfl,rfl⟩) hS2 ?_
      simp only [Gw3Asksa,Gw3Asksb,Gw3Asksc]
      refine take_X 18 92 undef rfl (by rfl) (by kernel_rfl) (by kernel_rfl) (by kernel_rfl) (by kernel_rfl) (fun _ _ _ h=>h) (fun _ _ h=>h) (Or.inr ⟨by rfl,rfl⟩) hS2 ?_
      simp only [Gw3Asksa,Gw3Asksb,Gw3Asksc]
      refine take_X 19 93 (.bool true) rfl (by rfl) (by kernel_rfl) (by kernel_rfl) (by kernel_rfl) (by kernel_rfl) (fun _ _ _ h=>h) (fun _ _ h=>h) (Or.inl ⟨by rfl,fun w' hB=>by obtain⟨_,_,_,hSw⟩:=hB;go_simp⟩) hS2 ?_
      simp only [Gw3Asksa,Gw3Asksb,Gw3Asksc]
      refine done_X (by kernel_rfl) ?_ _
      go_wp2_with fail
      go_ret
      refine⟨?_,HB2.out⟩
      rw [HE.out]
      rfl
     have q5:decide (c.r<(q:Int))=false:=by rw [decide_eq_false_iff_not];omega
     have H5:=hid h5
     clear h5
     refine take_X 13 87 (.bool false) rfl (by rfl) (by kernel_rfl) (by kernel_rfl) (by kernel_rfl) (by kernel_rfl) (fun _ _ _ h=>h) (fun _ _ h=>h) (Or.inl ⟨by rfl,fun w' hB=>by obtain⟨_,_,_,hSw⟩:=hB;go_simp⟩) hS2 ?_
     simp only [Gw3Asksa,Gw3Asksb,Gw3Asksc]
     refine take_X 14 88 (.bool false) rfl (by rfl) (by kernel_rfl) (by kernel_rfl) (by kernel_rfl) (by kernel_rfl) (fun _ _ _ h=>h) (fun _ _ h=>h) (Or.inl ⟨by rfl,fun w' hB=>by obtain⟨_,_,_,hSw⟩:=hB;go_simp⟩) hS2 ?_
     simp only [Gw3Asksa,Gw3Asksb,Gw3Asksc]
     refine take_X 15 89 (.bool false) rfl (by rfl) (by kernel_rfl) (by kernel_rfl) (by kernel_rfl) (by kernel_rfl) (fun _ _ _ h=>h) (fun _ _ h=>h) (Or.inl ⟨by rfl,fun w' hB=>by obtain⟨_,_,_,hSw⟩:=hB;go_simp⟩) hS2 ?_
     simp only [Gw3Asksa,Gw3Asksb,Gw3Asksc]
     refine take_X 16 90 (.pointer (some ⟨gc,2,none⟩)) rfl (by rfl) (by kernel_rfl) (by kernel_rfl) (by kernel_rfl) (by kernel_rfl) (fun _ _ _ h=>h) (fun _ _ h=>h) (Or.inl ⟨by rfl,fun w' hB=>by obtain⟨_,_,_,hSw⟩:=hB;go_simp⟩) hS2 ?_
     simp only [Gw3Asksa,Gw3Asksb,Gw3Asksc]
     refine take_X 17 91 (.int .i64 c.r) rfl (by rfl) (by kernel_rfl) (by kernel_rfl) (by kernel_rfl) (by kernel_rfl) (fun _ _ _ h=>h) (fun _ _ h=>h) (Or.inl ⟨by rfl,fun w' hB=>by obtain⟨_,_,_,hSw⟩:=hB;have c1:=HRF.out w' hSw;go_simp⟩) hS2 ?_
     simp only [Gw3Asksa,Gw3Asksb,Gw3Asksc]
     by_cases h6:c.r≤16777216
     case neg =>
      have q6:decide ((16777216:Int)<c.r)=true:=by rw [decide_eq_true_iff];omega
      have HE:=hid (okE_n (sz:=sz) fun h=>(fun hh=>h6 hh.2.2) (okTwo_of h HMC.out))
      clear h6
      refine take_X 18 92 (.bool true) rfl (by rfl) (by kernel_rfl) (by kernel_rfl) (by kernel_rfl) (by kernel_rfl) (fun _ _ _ h=>h) (fun _ _ h=>h) (Or.inl ⟨by rfl,fun w' hB=>by obtain⟨_,_,_,hSw⟩:=hB;go_simp⟩) hS2 ?_
      simp only [Gw3Asksa,Gw3Asksb,Gw3Asksc]
      refine take_X 19 93 (.bool true) rfl (by rfl) (by kernel_rfl) (by kernel_rfl) (by kernel_rfl) (by kernel_rfl) (fun _ _ _ h=>h) (fun _ _ h=>h) (Or.inl ⟨by rfl,fun w' hB=>by obtain⟨_,_,_,hSw⟩:=hB;go_simp⟩) hS2 ?_
      simp only [Gw3Asksa,Gw3Asksb,Gw3Asksc]
      refine done_X (by kernel_rfl) ?_ _
      go_wp2_with fail
      go_ret
      refine⟨?_,HB2.out⟩
      rw [HE.out]
      rfl
     have q6:decide ((16777216:Int)<c.r)=false:=by rw [decide_eq_false_iff_not];omega
     have HTN:=hid (HT.out.snoc HX.out HZ0.out (by rw [HQ.out];exact H5.out) h6)
     clear h6
     refine take_X 18 92 (.bool false) rfl (by rfl) (by kernel_rfl) (by kernel_rfl) (by kernel_rfl) (by kernel_rfl) (fun _ _ _ h=>h) (fun _ _ h=>h) (Or.inl ⟨by rfl,fun w' hB=>by obtain⟨_,_,_,hSw⟩:=hB;go_simp⟩) hS2 ?_
     simp only [Gw3Asksa,Gw3Asksb,Gw3Asksc]
     refine take_X 19 93 (.bool false) rfl (by rfl) (by kernel_rfl) (by kernel_rfl) (by kernel_rfl) (by kernel_rfl) (fun _ _ _ h=>h) (fun _ _ h=>h) (Or.inl ⟨by rfl,fun w' hB=>by obtain⟨_,_,_,hSw⟩:=hB;go_simp⟩) hS2 ?_
     simp only [Gw3Asksa,Gw3Asksb,Gw3Asksc]
     refine done_X (by kernel_rfl) ?_ _
     go_wp2_with fail
     exact⟨⟨j+1,by omega,by go_num,HTN.out,HL2.out,HR2.out⟩,by simp [intOf]<;>omega⟩
    ·have hin:j=n:=by omega
     have HE:=hid (okE_y (okH_of HS.out.1 HS.out.2 HOK.out (by rw [← HN.out,← hin];exact HT.out)))
     clear hin
     go_wp2
     go_ret
     refine⟨?_,HB.out⟩
     rw [HE.out]
     rfl
set_option maxHeartbeats 4000000 in
theorem freeH_R {w:World}{A:Option Addr}{n:Nat}{L:List Ce}(h:HIn w A n L) (sz cap:Nat) :
  Calls Tryz.prog 12 #[.agg #[.int .u32 sz,.slice A n cap]] w fun e w'=>e=.returned (.tuple #[.int .i64 (freeX sz L),.int .i64 (okE sz L)])∧Below w.heap.size w w':=by
 have HC:=hid (fun W (hb:Below w.heap.size w W)=>checkH_R (A:=A) (h.go hb) sz cap)
 have HN:=hid h.len
 have hle:=h.le
 have HB0:=hid (show Below w.heap.size w (w.alloc (.cells #[.int .u32 sz,.slice A n cap] 25)) from (Below.refl _ _).alloc (Nat.le_refl _) _)
 have HR0:=hid (heap_alloc_new w (.cells #[.int .u32 sz,.slice A n cap] 25))
 clear h
 by_cases hok:okH sz L
 ·have HX:=hid (okE_y hok)
  have HY:=hid (show freeX sz L=(sz:Int)-2-n by unfold freeX;rw [if_pos hok,HN.out])
  have hs:=hok.hi
  have hl:n≤65536:=by rw [HN.out];exact hok.cs.len hok.hi
  clear hok
  go_enter Tryz.func12,Tryz.ntmps12
  go_wp2_with fail
  refine (HC.out _ HB0.out).mono ?_
  rw [HX.out]
  rintro e w2 ⟨rfl,hb⟩
  have HR2:=hid ((hb.block _ (row_lt HR0.out)).trans HR0.out)
  have HB:=hid (HB0.out.trans (hb.mono HB0.out.size))
  have k0:w2.cell? ⟨w.heap.size,0,none⟩=some (.int .u32 sz):=cell_of_row _ _ 0 _ _ _ HR2.out
  have k1:w2.cell? ⟨w.heap.size,1,none⟩=some (.slice A n cap):=cell_of_row _ _ 1 _ _ _ HR2.out
  have l0:=row_lt HR2.out
  clear hb
  go_wp2_with fail
  go_ret2
  exact⟨by rw [HY.out,HX.out];rfl,HB.out⟩
 ·have HX:=hid (okE_n hok)
  have HY:=hid (show freeX sz L=0 by unfold freeX;rw [if_neg hok])
  clear hok
  go_enter Tryz.func12,Tryz.ntmps12
  go_wp2_with fail
  refine (HC.out _ HB0.out).mono ?_
  rw [HX.out]
  rintro e w2 ⟨rfl,hb⟩
  have HB:=hid (HB0.out.trans (hb.mono HB0.out.size))
  clear hb
  go_wp2_with fail
  go_ret2
  exact⟨by rw [HY.out,HX.out];rfl,HB.out⟩
set_option maxHeartbeats 8000000 in
theorem heldH_R {w:World}{A:Option Addr}{n:Nat}{L:List Ce}(h:HIn w A n L) (sz cap num:Nat) :
  Calls Tryz.prog 10 #[.agg #[.int .u32 sz,.slice A n cap],.int .u32 num] w fun e w'=>e=.returned (.tuple #[.int .i64 (heldX sz L num),.int .i64 (fndE sz L num)])∧Below w.heap.size w w':=by
 have HC:=hid (fun W (hb:Below w.heap.size w W)=>checkH_R (A:=A) (h.go hb) sz cap)
 have HI:=hid h
 have HN:=hid h.len
 have hle:=h.le
 have HB0:=hid (show Below w.heap.size w (w.alloc (.cells #[.int .u32 sz,.slice A n cap] 25)) from (Below.refl _ _).alloc (Nat.le_refl _) _)
 have HR0:=hid (heap_alloc_new w (.cells #[.int .u32 sz,.slice A n cap] 25))
 clear h
 by_cases hok:okH sz L
 case neg =>
  have HX:=hid (okE_n hok)
  have HY:=hid (show heldX sz L num=0∧fndE sz L num=7 by unfold heldX fndE;rw [if_neg hok,if_neg hok];exact⟨rfl,rfl⟩)
  clear hok
  go_enter Tryz.func10,Tryz.ntmps10
  go_wp2_with fail
  refine (HC.out _ HB0.out).mono ?_
  rw [HX.out]
  rintro e w2 ⟨rfl,hb⟩
  have HB:=hid (HB0.out.trans (hb.mono HB0.out.size))
  clear hb
  go_wp2_with fail
  go_ret2
  exact⟨by rw [HY.out.1,HY.out.2];rfl,HB.out⟩
 have HX:=hid (okE_y hok)
 have HOK:=hid hok
 have hl:n≤65536:=by rw [HN.out];exact hok.cs.len hok.hi
 have HF:=hid (show fndE sz L num=(match fndL L num with | some _=>0 | none=>5)∧heldX sz L num=(match fndL L num with | some c=>c.r-ldL L num | none=>0) by unfold fndE heldX;rw [if_pos hok,if_pos hok];exact⟨rfl,rfl⟩)
 clear hok
 go_enter Tryz.func10,Tryz.ntmps10
 go_wp2_with fail
 refine (HC.out _ HB0.out).mono ?_
 rw [HX.out]
 rintro e w2 ⟨rfl,hb⟩
 have HB:=hid (HB0.out.trans (hb.mono HB0.out.size))
 have HR2:=hid ((hb.block _ (row_lt HR0.out)).trans HR0.out)
 clear hb
 have k1:w2.cell? ⟨w.heap.size,1,none⟩=some (.slice A n cap):=cell_of_row _ _ 1 _ _ _ HR2.out
 have l0:=row_lt HR2.out
 go_wp2_with fail
 clear k1 l0
 refine (find_R (w:=w2) L _ n cap num HN.out (by omega) HB.out.size (HI.out.ls.below HB.out)).mono ?_
 rintro e w3 ⟨rfl,hb⟩
 have HR3:=hid ((hb.block _ (row_lt HR2.out)).trans HR2.out)
 have HB3:=hid (HB.out.trans (hb.mono HB.out.size))
 clear hb
 rcases fndI_cases L num with ⟨p,c,hp,hpc,hn,hfl,-⟩ | ⟨hno,hfl,-⟩
 case inr =>
  rw [hno]
  rw [hfl] at HF
  clear hno hfl
  go_wp2_with fail
  go_ret2
  exact⟨by rw [HF.out.1,HF.out.2];rfl,HB3.out⟩
 rw [hp]
 rw [hfl] at HF
 have HPC:=hid hpc
 have HNU:=hid hn
 have p1:(p:Int)<(n:Int):=by have:=(List.getElem?_eq_some_iff.1 hpc).1;have:=HN.out;omega
 have p0:(0:Int)≤(p:Int):=by omega
 have d0:decide ((p:Int)<0)=false:=by rw [decide_eq_false_iff_not];omega
 obtain⟨bc,oc,hAc,hbc,hrc⟩:=HI.out.ls p c hpc
 have HCC:=hid (show w.cell? ⟨bc,oc+p*3+2,none⟩=some (.int .i64 c.r) from hrc 2 (.int .i64 c.r) rfl)
 have HBL:=hid hbc
 have HRR:=hid (HOK.out.rf c (List.mem_of_getElem? hpc))
 clear hp hpc hn hfl hrc hbc
 subst hAc
 go_wp2_with fail
 have hS:Below w3.heap.size w3 w3.drew:=(Below.refl _ _).drew
 refine wp_region_X (fun _ (w':World)=>Below w3.heap.size w3 w') (by kernel_rfl) ?_
 refine take_X 0 16 (.pointer (some ⟨w.heap.size,1,none⟩)) rfl (by rfl) (by kernel_rfl) (by kernel_rfl) (by kernel_rfl) (by kernel_rfl) (fun _ _ _ h=>h) (fun _ _ h=>h) (Or.inl ⟨by rfl,fun w' hB=>by obtain⟨_,_,_,hSw⟩:=hB;go_simp⟩) hS ?_
 simp only [Gw3Asksa,Gw3Asksb,Gw3Asksc]
 refine take_X 1 17 (.slice (some ⟨bc,oc,none⟩) n cap) rfl (by rfl) (by kernel_rfl) (by kernel_rfl) (by kernel_rfl) (by kernel_rfl) (fun _ _ _ h=>h) (fun _ _ h=>h) (Or.inl ⟨by rfl,fun w' hB=>by obtain⟨_,_,_,hSw⟩:=hB;have c1:w'.cell? ⟨w.heap.size,1,none⟩=some (.slice (some ⟨bc,oc,none⟩) n cap):=cell_of_row _ _ 1 _ _ _ ((hSw.block _ (row_lt HR3.out)).trans HR3.out);go_simp⟩) hS ?_
 simp only [Gw3Asksa,Gw3Asksb,Gw3Asksc]
 refine take_X 2 18 (.int .i64 p) rfl (by rfl) (by kernel_rfl) (by kernel_rfl) (by kernel_rfl) (by kernel_rfl) (fun _ _ _ h=>h) (fun _ _ h=>h) (Or.inl ⟨by rfl,fun w' hB=>by obtain⟨_,_,_,hSw⟩:=hB;go_simp⟩) hS ?_
 simp only [Gw3Asksa,Gw3Asksb,Gw3Asksc]
 refine take_X 3 19 (.pointer (some ⟨bc,oc+p*3,none⟩)) rfl (by rfl) (by kernel_rfl) (by kernel_rfl) (by kernel_rfl) (by kernel_rfl) (fun _ _ _ h=>h) (fun _ _ h=>h) (Or.inl ⟨by rfl,fun w' hB=>by obtain⟨_,_,_,hSw⟩:=hB;go_simp⟩) hS ?_
 simp only [Gw3Asksa,Gw3Asksb,Gw3Asksc]
 refine take_X 4 20 (.pointer (some ⟨bc,oc+p*3+2,none⟩)) rfl (by rfl) (by kernel_rfl) (by kernel_rfl) (by kernel_rfl) (by kernel_rfl) (fun _ _ _ h=>h) (fun _ _ h=>h) (Or.inl ⟨by rfl,fun w' hB=>by obtain⟨_,_,_,hSw⟩:=hB;go_simp⟩) hS ?_
 simp only [Gw3Asksa,Gw3Asksb,Gw3Asksc]
 refine take_X 5 21 (.int .i64 c.r) rfl (by rfl) (by kernel_rfl) (by kernel_rfl) (by kernel_rfl) (by kernel_rfl) (fun _ _ _ h=>h) (fun _ _ h=>h) (Or.inl ⟨by rfl,fun w' hB=>by obtain⟨_,_,_,hSw⟩:=hB;have hb:=HB3.out.trans (hSw.mono HB3.out.size);have c1:w'.cell? ⟨bc,oc+p*3+2,none⟩=some (.int .i64 c.r):=(hb.cell (p:=⟨bc,_,none⟩) HBL.out).trans HCC.out;go_simp⟩) hS ?_
 simp only [Gw3Asksa,Gw3Asksb,Gw3Asksc]
 refine take_X 6 22 (.pointer (some ⟨w.heap.size,1,none⟩)) rfl (by rfl) (by kernel_rfl) (by kernel_rfl) (by kernel_rfl) (by kernel_rfl) (fun _ _ _ h=>h) (fun _ _ h=>h) (Or.inl ⟨by rfl,fun w' hB=>by obtain⟨_,_,_,hSw⟩:=hB;go_simp⟩) hS ?_
 simp only [Gw3Asksa,Gw3Asksb,Gw3Asksc]
 refine take_X 7 23 (.slice (some ⟨bc,oc,none⟩) n cap) rfl (by rfl) (by kernel_rfl) (by kernel_rfl) (by kernel_rfl) (by kernel_rfl) (fun _ _ _ h=>h) (fun _ _ h=>h) (Or.inl ⟨by rfl,fun w' hB=>by obtain⟨_,_,_,hSw⟩:=hB;have c1:w'.cell? ⟨w.heap.size,1,none⟩=some (.slice (some ⟨bc,oc,none⟩) n cap):=cell_of_row _ _ 1 _ _ _ ((hSw.block _ (row_lt HR3.out)).trans HR3.out);go_simp⟩) hS ?_
 simp only [Gw3Asksa,Gw3Asksb,Gw3Asksc]
 refine take_X 9 25 (.int .i64 p) rfl (by rfl) (by kernel_rfl) (by kernel_rfl) (by kernel_rfl) (by kernel_rfl) (fun _ _ _ h=>h) (fun _ _ h=>h) (Or.inl ⟨by rfl,fun w' hB=>by obtain⟨_,_,_,hSw⟩:=hB;go_simp⟩) hS ?_
 simp only [Gw3Asksa,Gw3Asksb,Gw3Asksc]
 generalize w3.drew=v0 at *
 refine only_X 8 rfl (by kernel_rfl) (by rfl) (fun K hK=>?_)
 go_wp2_with fail
 refine (led_R (w:=v0) (HI.out.go (HB3.out.trans (hS.mono HB3.out.size))) cap HOK.out.cs HOK.out.hi).mono ?_
 rintro e v1 ⟨bl,rfl,hle⟩
 have hS2:=hS.trans (hle.bel.mono hS.size)
 have HB4:=hid (HB3.out.trans (hS2.mono HB3.out.size))
 have kq:v1.cell? ⟨bl,p,none⟩=some (.int .i64 (ldL L c.num:Nat)):=(cell_of_row _ _ p _ _ _ hle.row).trans (by unfold enN cntL;rw [List.getElem?_toArray,List.getElem?_map,List.getElem?_map,HPC.out];rfl)
 clear hle hS
 refine hK.out _ _ hS2 ?_
 clear hK K
 try simp only [Act.put,Gw3Asksa,Gw3Asksb,Gw3Asksc]
 rw [HNU.out] at kq
 have hrr:=HRR.out
 rw [HNU.out] at hrr
 obtain⟨q,hq⟩:∃ q,ldL L num=q:=⟨_,rfl⟩
 rw [hq] at kq HF hrr
 clear hq
 have hwr:IntKind.i64.wrap (c.r-(q:Int))=c.r-(q:Int):=IntWalk.i64_in _ (by omega)
 refine only_X 10 rfl (by kernel_rfl) (by rfl) (fun K hK=>?_)
 go_wp2_with fail
 refine hK.out _ _ hS2 ?_
 clear hK K
 try simp only [Act.put,Gw3Asksa,Gw3Asksb,Gw3Asksc]
 refine only_X 11 rfl (by kernel_rfl) (by rfl) (fun K hK=>?_)
 go_wp2_with fail
 refine hK.out _ _ hS2 ?_
 clear hK K
 try simp only [Act.put,Gw3Asksa,Gw3Asksb,Gw3Asksc]
 refine only_X 12 rfl (by kernel_rfl) (by rfl) (fun K hK=>?_)
 go_wp2_with fail
 refine hK.out _ _ hS2 ?_
 clear hK K
 try simp only [Act.put,Gw3Asksa,Gw3Asksb,Gw3Asksc]
 refine only_X 13 rfl (by kernel_rfl) (by rfl) (fun K hK=>?_)
 go_wp2_with fail
 refine hK.out _ _ hS2 ?_
 clear hK K
 try simp only [Act.put,Gw3Asksa,Gw3Asksb,Gw3Asksc]
 refine only_X 14 rfl (by kernel_rfl) (by rfl) (fun K hK=>?_)
 go_wp2_with fail
 refine hK.out _ _ hS2 ?_
 clear hK K
 try simp only [Act.put,Gw3Asksa,Gw3Asksb,Gw3Asksc]
 refine done_X (by kernel_rfl) ?_ _
 clear hS2
 go_wp2_with fail
 go_ret2
 exact⟨by rw [HF.out.1,HF.out.2];rfl,HB4.out⟩
set_option maxHeartbeats 8000000 in
theorem getH_R {w:World}{A:Option Addr}{n:Nat}{L:List Ce}(h:HIn w A n L) (sz cap num:Nat) :
  Calls Tryz.prog 8 #[.agg #[.int .u32 sz,.slice A n cap],.int .u32 num] w fun e w'=>∃ cs,e=.returned (.tuple #[.agg cs,.int .i64 (fndE sz L num)])∧NdOwn w w' cs (getX sz L num):=by
 have HC:=hid (fun W (hb:Below w.heap.size w W)=>checkH_R (A:=A) (h.go hb) sz cap)
 have HI:=hid h
 have HN:=hid h.len
 have hle:=h.le
 obtain⟨R1,R2,S0,Z0⟩:=two_new w #[.int .u32 sz,.slice A n cap] zN 25 31
 have HB0:=hid S0
 have HR0:=hid R1
 have HV0:=hid R2
 clear h R1 R2 S0 Z0
 by_cases hok:okH sz L
 case neg =>
  have HX:=hid (okE_n hok)
  have HY:=hid (show getX sz L num=⟨0,[],[],[]⟩∧fndE sz L num=7 by unfold getX fndE;rw [if_neg hok,if_neg hok];exact⟨rfl,rfl⟩)
  clear hok
  go_enter Tryz.func8,Tryz.ntmps8
  go_wp2_with fail
  refine (HC.out _ HB0.out).mono ?_
  rw [HX.out]
  rintro e w2 ⟨rfl,hb⟩
  have HB:=hid (HB0.out.trans (hb.mono HB0.out.size))
  have HV2:=hid ((hb.block _ (row_lt HV0.out)).trans HV0.out)
  clear hb
  have z0:w2.cell? ⟨w.heap.size+1,0,none⟩=some (.int .u8 0):=cell_of_row _ _ 0 _ _ _ HV2.out
  have y0:=frozen_of_row w2 (w.heap.size+1) 0 _ _ HV2.out
  have z1:w2.cell? ⟨w.heap.size+1,1,none⟩=some (.slice none 0 0):=cell_of_row _ _ 1 _ _ _ HV2.out
  have y1:=frozen_of_row w2 (w.heap.size+1) 1 _ _ HV2.out
  have z2:w2.cell? ⟨w.heap.size+1,2,none⟩=some (.slice none 0 0):=cell_of_row _ _ 2 _ _ _ HV2.out
  have y2:=frozen_of_row w2 (w.heap.size+1) 2 _ _ HV2.out
  have z3:w2.cell? ⟨w.heap.size+1,3,none⟩=some (.slice none 0 0):=cell_of_row _ _ 3 _ _ _ HV2.out
  have y3:=frozen_of_row w2 (w.heap.size+1) 3 _ _ HV2.out
  have l1:=row_lt HV2.out
  go_wp2_with fail
  have Q1:=row_set (cs:=zN.toList) (i:=0) (u:=.int .u8 0) HV2.out
  have Q2:=row_set (i:=1) (u:=.slice none 0 0) Q1
  have Q3:=row_set (i:=2) (u:=.slice none 0 0) Q2
  have Q4:=row_set (i:=3) (u:=.slice none 0 0) Q3
  refine bodyPost_ret (v:=.tuple #[.agg #[.int .u8 0,.slice none 0 0,.slice none 0 0,.slice none 0 0],.int .i64 7]) (results_row2 rfl _ _ (w.heap.size+1) 31 #[.int .u8 0,.slice none 0 0,.slice none 0 0,.slice none 0 0] (0,0) _ rfl Q4 Tryz.underlying31 rfl (by kernel_rfl) _ rfl) rfl ?_
  exact⟨_,by rw [HY.out.2],by rw [HY.out.1];exact NdOwn.mk0 (HB.out.trans (below_of_grown (grown_trans (grown_trans (grown_trans (grown_cell _ _ _ _) (grown_cell _ _ _ _)) (grown_cell _ _ _ _)) (grown_cell _ _ _ _)) HB.out.size (Nat.le_succ _)))⟩
 have HX:=hid (okE_y hok)
 have HOK:=hid hok
 have hl:n≤65536:=by rw [HN.out];exact hok.cs.len hok.hi
 have HF:=hid (show fndE sz L num=(match fndL L num with | some _=>0 | none=>5)∧getX sz L num=(match fndL L num with | some c=>ndD c.d | none=>⟨0,[],[],[]⟩) by unfold fndE getX;rw [if_pos hok,if_pos hok];exact⟨rfl,rfl⟩)
 clear hok
 go_enter Tryz.func8,Tryz.ntmps8
 go_wp2_with fail
 refine (HC.out _ HB0.out).mono ?_
 rw [HX.out]
 rintro e w2 ⟨rfl,hb⟩
 have HB:=hid (HB0.out.trans (hb.mono HB0.out.size))
 have HV2:=hid ((hb.block _ (row_lt HV0.out)).trans HV0.out)
 have HR2:=hid ((hb.block _ (row_lt HR0.out)).trans HR0.out)
 clear hb
 have k1:w2.cell? ⟨w.heap.size,1,none⟩=some (.slice A n cap):=cell_of_row _ _ 1 _ _ _ HR2.out
 have l0:=row_lt HR2.out
 go_wp2_with fail
 clear k1 l0
 refine (find_R (w:=w2) L _ n cap num HN.out (by omega) HB.out.size (HI.out.ls.below HB.out)).mono ?_
 rintro e w3 ⟨rfl,hb⟩
 have HR3:=hid ((hb.block _ (row_lt HR2.out)).trans HR2.out)
 have HB3:=hid (HB.out.trans (hb.mono HB.out.size))
 have HV3:=hid ((hb.block _ (row_lt HV2.out)).trans HV2.out)
 clear hb
 rcases fndI_cases L num with ⟨p,c,hp,hpc,hn,hfl,-⟩ | ⟨hno,hfl,-⟩
 case inr =>
  rw [hno]
  rw [hfl] at HF
  have HY:=hid (And.intro HF.out.2 HF.out.1)
  clear hno hfl
  have z0:w3.cell? ⟨w.heap.size+1,0,none⟩=some (.int .u8 0):=cell_of_row _ _ 0 _ _ _ HV3.out
  have y0:=frozen_of_row w3 (w.heap.size+1) 0 _ _ HV3.out
  have z1:w3.cell? ⟨w.heap.size+1,1,none⟩=some (.slice none 0 0):=cell_of_row _ _ 1 _ _ _ HV3.out
  have y1:=frozen_of_row w3 (w.heap.size+1) 1 _ _ HV3.out
  have z2:w3.cell? ⟨w.heap.size+1,2,none⟩=some (.slice none 0 0):=cell_of_row _ _ 2 _ _ _ HV3.out
  have y2:=frozen_of_row w3 (w.heap.size+1) 2 _ _ HV3.out
  have z3:w3.cell? ⟨w.heap.size+1,3,none⟩=some (.slice none 0 0):=cell_of_row _ _ 3 _ _ _ HV3.out
  have y3:=frozen_of_row w3 (w.heap.size+1) 3 _ _ HV3.out
  have l1:=row_lt HV3.out
  go_wp2_with fail
  have Q1:=row_set (cs:=zN.toList) (i:=0) (u:=.int .u8 0) HV3.out
  have Q2:=row_set (i:=1) (u:=.slice none 0 0) Q1
  have Q3:=row_set (i:=2) (u:=.slice none 0 0) Q2
  have Q4:=row_set (i:=3) (u:=.slice none 0 0) Q3
  refine bodyPost_ret (v:=.tuple #[.agg #[.int .u8 0,.slice none 0 0,.slice none 0 0,.slice none 0 0],.int .i64 5]) (results_row2 rfl _ _ (w.heap.size+1) 31 #[.int .u8 0,.slice none 0 0,.slice none 0 0,.slice none 0 0] (0,0) _ rfl Q4 Tryz.underlying31 rfl (by kernel_rfl) _ rfl) rfl ?_
  exact⟨_,by rw [HY.out.2],by rw [HY.out.1];exact NdOwn.mk0 (HB3.out.trans (below_of_grown (grown_trans (grown_trans (grown_trans (grown_cell _ _ _ _) (grown_cell _ _ _ _)) (grown_cell _ _ _ _)) (grown_cell _ _ _ _)) HB3.out.size (Nat.le_succ _)))⟩
 rw [hp]
 rw [hfl] at HF
 have p1:(p:Int)<(n:Int):=by have:=(List.getElem?_eq_some_iff.1 hpc).1;have:=HN.out;omega
 have p0:(0:Int)≤(p:Int):=by omega
 have d0:decide ((p:Int)<0)=false:=by rw [decide_eq_false_iff_not];omega
 obtain⟨bc,oc,hAc,hbc,hrc⟩:=HI.out.ls p c hpc
 have HRG:=hid (show w3.rangeAt bc (oc+p*3) [.int .u32 c.num,.string c.d,.int .i64 c.r] from range_below hrc HB3.out hbc)
 have hcs:c.d.size≤9223372036854775807:=HI.out.sz c (List.mem_of_getElem? hpc)
 clear hp hpc hn hfl hrc hbc
 subst hAc
 have k1:w3.cell? ⟨w.heap.size,1,none⟩=some (.slice (some ⟨bc,oc,none⟩) n cap):=cell_of_row _ _ 1 _ _ _ HR3.out
 have l0:=row_lt HR3.out
 go_wp2_with (refine wpList_load_at rfl 75 (.tmp 21) rfl bc (oc+p*3) rfl [.int .u32 c.num,.string c.d,.int .i64 c.r] _ HRG.out Tryz.underlying75 rfl infoC ?_)
 clear k1 l0
 refine (node_R c hcs w3).mono ?_
 rintro e w4 ⟨cs,rfl,hown⟩
 have HV4:=hid ((hown.bel.block _ (row_lt HV3.out)).trans HV3.out)
 have HB4:=hid (HB3.out.trans (hown.bel.mono HB3.out.size))
 have HO:=hid (hown.since HB3.out)
 obtain⟨vI,vK,vV,rfl,ho1,ho2,ho3⟩:=hown
 obtain⟨BI,mI,dI,rfl⟩:=own_shape ho1.1
 obtain⟨BK,mK,dK,rfl⟩:=own_shape ho2.1
 obtain⟨BV,mV,dV,rfl⟩:=own_shape ho3.1
 clear ho1 ho2 ho3 hcs
 obtain⟨nn,hnn⟩:∃ nn,ndD c.d=nn:=⟨_,rfl⟩
 rw [hnn] at HO ⊢
 have HNN:=hid hnn
 clear hnn
 have z0:w4.cell? ⟨w.heap.size+1,0,none⟩=some (.int .u8 0):=cell_of_row _ _ 0 _ _ _ HV4.out
 have y0:=frozen_of_row w4 (w.heap.size+1) 0 _ _ HV4.out
 have z1:w4.cell? ⟨w.heap.size+1,1,none⟩=some (.slice none 0 0):=cell_of_row _ _ 1 _ _ _ HV4.out
 have y1:=frozen_of_row w4 (w.heap.size+1) 1 _ _ HV4.out
 have z2:w4.cell? ⟨w.heap.size+1,2,none⟩=some (.slice none 0 0):=cell_of_row _ _ 2 _ _ _ HV4.out
 have y2:=frozen_of_row w4 (w.heap.size+1) 2 _ _ HV4.out
 have z3:w4.cell? ⟨w.heap.size+1,3,none⟩=some (.slice none 0 0):=cell_of_row _ _ 3 _ _ _ HV4.out
 have y3:=frozen_of_row w4 (w.heap.size+1) 3 _ _ HV4.out
 have l1:=row_lt HV4.out
 go_wp2_with fail
 have Q1:=row_set (cs:=zN.toList) (i:=0) (u:=.int .u8 nn.kd) HV4.out
 have Q2:=row_set (i:=1) (u:=.slice BI mI dI) Q1
 have Q3:=row_set (i:=2) (u:=.slice BK mK dK) Q2
 have Q4:=row_set (i:=3) (u:=.slice BV mV dV) Q3
 refine bodyPost_ret (v:=.tuple #[.agg #[.int .u8 nn.kd,.slice BI mI dI,.slice BK mK dK,.slice BV mV dV],.int .i64 0]) (results_row2 rfl _ _ (w.heap.size+1) 31 #[.int .u8 nn.kd,.slice BI mI dI,.slice BK mK dK,.slice BV mV dV] (0,0) _ rfl Q4 Tryz.underlying31 rfl (by kernel_rfl) _ rfl) rfl ?_
 refine⟨_,by rw [HF.out.1],?_⟩
 rw [HF.out.2]
 show NdOwn _ _ _ (ndD c.d)
 rw [HNN.out]
 have hN:=OwN.of HO.out (Nat.le_refl _)
 exact ((((hN.cell HV4.out (by decide)).cell Q1 (by decide)).cell Q2 (by decide)).cell Q3 (by decide)).out (HB4.out.trans (below_of_grown (grown_trans (grown_trans (grown_trans (grown_cell _ _ _ _) (grown_cell _ _ _ _)) (grown_cell _ _ _ _)) (grown_cell _ _ _ _)) HB4.out.size (Nat.le_succ _)))
theorem getX_fine (sz:Nat) (L:List Ce) (num:Nat):Wd (getX sz L num)∧(getX sz L num).I.length≤255∧(getX sz L num).K.length≤255∧(getX sz L num).V.length≤255:=by
 have hz:Wd ⟨0,[],[],[]⟩:=⟨fun x h=>(by cases h),fun x h=>(by cases h)⟩
 unfold getX
 by_cases hok:okH sz L
 ·rw [if_pos hok]
  cases hf:fndL L num with
  | none=>exact⟨hz,Nat.zero_le _,Nat.zero_le _,Nat.zero_le _⟩
  | some c=>exact fine_R (hok.cs.mem c (fndL_num hf).1).2.2
 ·rw [if_neg hok]
  exact⟨hz,Nat.zero_le _,Nat.zero_le _,Nat.zero_le _⟩
set_option maxHeartbeats 8000000 in
theorem heapAsks_walk {tK tS:TypeId}{w:World}{A:Option Addr}{n:Nat}{L:List Ce}(hk:Kc tK tS w.heap.size w) (h:HIn w A n L) (sz cap num:Nat) :
  Calls Tryz.prog 3 #[.agg #[.int .u32 sz,.slice A n cap],.int .u32 num] w fun e w'=>e=.returned (.bool true)∧Below w.heap.size w w':=by
 have HK:=hid (fun W (hb:Below w.heap.size w W)=>(hk.below hb).mono hb.size)
 have HI:=hid h
 have HB:=hid (show Below w.heap.size w (w.alloc (.cells #[.int .u32 sz,.slice A n cap] 25)) from (Below.refl _ _).alloc (Nat.le_refl _) _)
 have Rh:=hid (heap_alloc_new w (.cells #[.int .u32 sz,.slice A n cap] 25))
 clear hk h
 obtain⟨ex,hex⟩:∃ x,fndE sz L num=x:=⟨_,rfl⟩
 obtain⟨nd,hnd⟩:∃ x,getX sz L num=x:=⟨_,rfl⟩
 obtain⟨hx,hhx⟩:∃ x,heldX sz L num=x:=⟨_,rfl⟩
 obtain⟨fx,hfx⟩:∃ x,freeX sz L=x:=⟨_,rfl⟩
 obtain⟨kx,hkx⟩:∃ x,okE sz L=x:=⟨_,rfl⟩
 have hf:=getX_fine sz L num
 rw [hnd] at hf
 have HFN:=hid hf
 clear hf
 have C1:=hid (show ∀ W:World,Below w.heap.size w W→Calls Tryz.prog 7 #[.agg #[.int .u32 sz,.slice A n cap],.int .u32 num] W fun e w'=>∃ cs,e=.returned (.tuple #[.agg cs,.int .i64 ex])∧NdOwn W w' cs nd from fun W hb=>by have h:=get_any (HK.out _ hb) (HI.out.go hb) sz cap num;rw [hex,hnd] at h;exact h)
 have C2:=hid (show ∀ W:World,Below w.heap.size w W→Calls Tryz.prog 8 #[.agg #[.int .u32 sz,.slice A n cap],.int .u32 num] W fun e w'=>∃ cs,e=.returned (.tuple #[.agg cs,.int .i64 ex])∧NdOwn W w' cs nd from fun W hb=>by have h:=getH_R (HI.out.go hb) sz cap num;rw [hex,hnd] at h;exact h)
 have C3:=hid (show ∀ W:World,Below w.heap.size w W→Calls Tryz.prog 9 #[.agg #[.int .u32 sz,.slice A n cap],.int .u32 num] W fun e w'=>e=.returned (.tuple #[.int .i64 hx,.int .i64 ex])∧Below W.heap.size W w' from fun W hb=>by have h:=held_at (HK.out _ hb) (HI.out.go hb) sz cap num;rw [hex,hhx] at h;exact h)
 have C4:=hid (show ∀ W:World,Below w.heap.size w W→Calls Tryz.prog 10 #[.agg #[.int .u32 sz,.slice A n cap],.int .u32 num] W fun e w'=>e=.returned (.tuple #[.int .i64 hx,.int .i64 ex])∧Below W.heap.size W w' from fun W hb=>by have h:=heldH_R (HI.out.go hb) sz cap num;rw [hex,hhx] at h;exact h)
 have C5:=hid (show ∀ W:World,Below w.heap.size w W→Calls Tryz.prog 11 #[.agg #[.int .u32 sz,.slice A n cap]] W fun e w'=>e=.returned (.tuple #[.int .i64 fx,.int .i64 kx])∧Below W.heap.size W w' from fun W hb=>by have h:=free_any (HK.out _ hb) (HI.out.go hb) sz cap;rw [hfx,hkx] at h;exact h)
 have C6:=hid (show ∀ W:World,Below w.heap.size w W→Calls Tryz.prog 12 #[.agg #[.int .u32 sz,.slice A n cap]] W fun e w'=>e=.returned (.tuple #[.int .i64 fx,.int .i64 kx])∧Below W.heap.size W w' from fun W hb=>by have h:=freeH_R (HI.out.go hb) sz cap;rw [hfx,hkx] at h;exact h)
 have C7:=hid (show ∀ W:World,Below w.heap.size w W→Calls Tryz.prog 15 #[.agg #[.int .u32 sz,.slice A n cap]] W fun e w'=>e=.returned (.int .i64 kx)∧Below W.heap.size W w' from fun W hb=>by have h:=check_any (HK.out _ hb) (HI.out.go hb) sz cap;rw [hkx] at h;exact h)
 have C8:=hid (show ∀ W:World,Below w.heap.size w W→Calls Tryz.prog 16 #[.agg #[.int .u32 sz,.slice A n cap]] W fun e w'=>e=.returned (.int .i64 kx)∧Below W.heap.size W w' from fun W hb=>by have h:=checkH_R (HI.out.go hb) sz cap;rw [hkx] at h;exact h)
 clear hex hnd hhx hfx hkx
 go_enter Tryz.func3,Tryz.ntmps3
 go_wp2_with fail
 refine (C1.out _ HB.out).mono ?_
 rintro e w2 ⟨cs,rfl,hown⟩
 have HO1:=hid hown
 replace Rh:=hid ((hown.bel.block _ (row_lt Rh.out)).trans Rh.out)
 replace HB:=hid (HB.out.trans (hown.bel.mono HB.out.size))
 obtain⟨vI,vK,vV,rfl,ho1,ho2,ho3⟩:=hown
 obtain⟨PI,PIn,PIc,rfl⟩:=own_shape ho1.1
 obtain⟨PK,PKn,PKc,rfl⟩:=own_shape ho2.1
 obtain⟨PV,PVn,PVc,rfl⟩:=own_shape ho3.1
 clear ho1 ho2 ho3 C1
 have hb:Below w2.heap.size w2 (w2.alloc (.cells #[.int .u8 nd.kd,.slice PI PIn PIc,.slice PK PKn PKc,.slice PV PVn PVc] 31)):=(Below.refl _ _).alloc (Nat.le_refl _) _
 replace HO1:=hid (HO1.out.go hb)
 replace Rh:=hid ((hb.block _ (row_lt Rh.out)).trans Rh.out)
 replace HB:=hid (HB.out.trans (hb.mono HB.out.size))
 have Ra:=hid (heap_alloc_new w2 (.cells #[.int .u8 nd.kd,.slice PI PIn PIc,.slice PK PKn PKc,.slice PV PVn PVc] 31))
 clear hb
 have f_Rh_0:(w2.alloc (.cells #[.int .u8 nd.kd,.slice PI PIn PIc,.slice PK PKn PKc,.slice PV PVn PVc] 31)).cell? ⟨w.heap.size,0,none⟩=some (.int .u32 sz):=cell_of_row _ _ 0 _ _ _ Rh.out
 have f_Rh_1:(w2.alloc (.cells #[.int .u8 nd.kd,.slice PI PIn PIc,.slice PK PKn PKc,.slice PV PVn PVc] 31)).cell? ⟨w.heap.size,1,none⟩=some (.slice A n cap):=cell_of_row _ _ 1 _ _ _ Rh.out
 have l_Rh:=row_lt Rh.out
 go_wp2_with fail
 change Calls _ _ _ (w2.alloc (.cells #[.int .u8 nd.kd,.slice PI PIn PIc,.slice PK PKn PKc,.slice PV PVn PVc] 31)) _
 clear f_Rh_0 f_Rh_1 l_Rh
 have HAP:=hid (show NdAt (w2.alloc (.cells #[.int .u8 nd.kd,.slice PI PIn PIc,.slice PK PKn PKc,.slice PV PVn PVc] 31)) #[.int .u8 nd.kd,.slice PI PIn PIc,.slice PK PKn PKc,.slice PV PVn PVc] nd from HO1.out.at_ (by have:=HFN.out;omega) (by have:=HFN.out;omega) (by have:=HFN.out;omega))
 clear HO1
 generalize w2.heap.size=ga at *
 generalize (w2.alloc (.cells #[.int .u8 nd.kd,.slice PI PIn PIc,.slice PK PKn PKc,.slice PV PVn PVc] 31))=w3 at *
 refine (C2.out _ HB.out).mono ?_
 rintro e w4 ⟨cs,rfl,hown⟩
 have HO2:=hid hown
 replace HAP:=hid (HAP.out.below hown.bel)
 replace Rh:=hid ((hown.bel.block _ (row_lt Rh.out)).trans Rh.out)
 replace Ra:=hid ((hown.bel.block _ (row_lt Ra.out)).trans Ra.out)
 replace HB:=hid (HB.out.trans (hown.bel.mono HB.out.size))
 obtain⟨vI,vK,vV,rfl,ho1,ho2,ho3⟩:=hown
 obtain⟨QI,QIn,QIc,rfl⟩:=own_shape ho1.1
 obtain⟨QK,QKn,QKc,rfl⟩:=own_shape ho2.1
 obtain⟨QV,QVn,QVc,rfl⟩:=own_shape ho3.1
 clear ho1 ho2 ho3 C2
 have hb:Below w4.heap.size w4 (w4.alloc (.cells #[.int .u8 nd.kd,.slice QI QIn QIc,.slice QK QKn QKc,.slice QV QVn QVc] 31)):=(Below.refl _ _).alloc (Nat.le_refl _) _
 replace HO2:=hid (HO2.out.go hb)
 replace HAP:=hid (HAP.out.below hb)
 replace Rh:=hid ((hb.block _ (row_lt Rh.out)).trans Rh.out)
 replace Ra:=hid ((hb.block _ (row_lt Ra.out)).trans Ra.out)
 replace HB:=hid (HB.out.trans (hb.mono HB.out.size))
 have Rb:=hid (heap_alloc_new w4 (.cells #[.int .u8 nd.kd,.slice QI QIn QIc,.slice QK QKn QKc,.slice QV QVn QVc] 31))
 clear hb
 have f_Rh_0:(w4.alloc (.cells #[.int .u8 nd.kd,.slice QI QIn QIc,.slice QK QKn QKc,.slice QV QVn QVc] 31)).cell? ⟨w.heap.size,0,none⟩=some (.int .u32 sz):=cell_of_row _ _ 0 _ _ _ Rh.out
 have f_Rh_1:(w4.alloc (.cells #[.int .u8 nd.kd,.slice QI QIn QIc,.slice QK QKn QKc,.slice QV QVn QVc] 31)).cell? ⟨w.heap.size,1,none⟩=some (.slice A n cap):=cell_of_row _ _ 1 _ _ _ Rh.out
 have l_Rh:=row_lt Rh.out
 go_wp2_with fail
 change Calls _ _ _ (w4.alloc (.cells #[.int .u8 nd.kd,.slice QI QIn QIc,.slice QK QKn QKc,.slice QV QVn QVc] 31)) _
 clear f_Rh_0 f_Rh_1 l_Rh
 have HAQ:=hid (show NdAt (w4.alloc (.cells #[.int .u8 nd.kd,.slice QI QIn QIc,.slice QK QKn QKc,.slice QV QVn QVc] 31)) #[.int .u8 nd.kd,.slice QI QIn QIc,.slice QK QKn QKc,.slice QV QVn QVc] nd from HO2.out.at_ (by have:=HFN.out;omega) (by have:=HFN.out;omega) (by have:=HFN.out;omega))
 clear HO2
 generalize w4.heap.size=gb at *
 generalize (w4.alloc (.cells #[.int .u8 nd.kd,.slice QI QIn QIc,.slice QK QKn QKc,.slice QV QVn QVc] 31))=w5 at *
 refine (C3.out _ HB.out).mono ?_
 rintro e w6 ⟨rfl,hb⟩
 replace HAP:=hid (HAP.out.below hb)
 replace HAQ:=hid (HAQ.out.below hb)
 replace Rh:=hid ((hb.block _ (row_lt Rh.out)).trans Rh.out)
 replace Ra:=hid ((hb.block _ (row_lt Ra.out)).trans Ra.out)
 replace Rb:=hid ((hb.block _ (row_lt Rb.out)).trans Rb.out)
 replace HB:=hid (HB.out.trans (hb.mono HB.out.size))
 clear hb C3
 have f_Rh_0:w6.cell? ⟨w.heap.size,0,none⟩=some (.int .u32 sz):=cell_of_row _ _ 0 _ _ _ Rh.out
 have f_Rh_1:w6.cell? ⟨w.heap.size,1,none⟩=some (.slice A n cap):=cell_of_row _ _ 1 _ _ _ Rh.out
 have l_Rh:=row_lt Rh.out
 go_wp2_with fail
 clear f_Rh_0 f_Rh_1 l_Rh
 refine (C4.out _ HB.out).mono ?_
 rintro e w7 ⟨rfl,hb⟩
 replace HAP:=hid (HAP.out.below hb)
 replace HAQ:=hid (HAQ.out.below hb)
 replace Rh:=hid ((hb.block _ (row_lt Rh.out)).trans Rh.out)
 replace Ra:=hid ((hb.block _ (row_lt Ra.out)).trans Ra.out)
 replace Rb:=hid ((hb.block _ (row_lt Rb.out)).trans Rb.out)
 replace HB:=hid (HB.out.trans (hb.mono HB.out.size))
 clear hb C4
 have f_Rh_0:w7.cell? ⟨w.heap.size,0,none⟩=some (.int .u32 sz):=cell_of_row _ _ 0 _ _ _ Rh.out
 have f_Rh_1:w7.cell? ⟨w.heap.size,1,none⟩=some (.slice A n cap):=cell_of_row _ _ 1 _ _ _ Rh.out
 have l_Rh:=row_lt Rh.out
 go_wp2_with fail
 clear f_Rh_0 f_Rh_1 l_Rh
 refine (C5.out _ HB.out).mono ?_
 rintro e w8 ⟨rfl,hb⟩
 replace HAP:=hid (HAP.out.below hb)
 replace HAQ:=hid (HAQ.out.below hb)
 replace Rh:=hid ((hb.block _ (row_lt Rh.out)).trans Rh.out)
 replace Ra:=hid ((hb.block _ (row_lt Ra.out)).trans Ra.out)
 replace Rb:=hid ((hb.block _ (row_lt Rb.out)).trans Rb.out)
 replace HB:=hid (HB.out.trans (hb.mono HB.out.size))
 clear hb C5
 have f_Rh_0:w8.cell? ⟨w.heap.size,0,none⟩=some (.int .u32 sz):=cell_of_row _ _ 0 _ _ _ Rh.out
 have f_Rh_1:w8.cell? ⟨w.heap.size,1,none⟩=some (.slice A n cap):=cell_of_row _ _ 1 _ _ _ Rh.out
 have l_Rh:=row_lt Rh.out
 go_wp2_with fail
 clear f_Rh_0 f_Rh_1 l_Rh
 refine (C6.out _ HB.out).mono ?_
 rintro e w9 ⟨rfl,hb⟩
 replace HAP:=hid (HAP.out.below hb)
 replace HAQ:=hid (HAQ.out.below hb)
 replace Rh:=hid ((hb.block _ (row_lt Rh.out)).trans Rh.out)
 replace Ra:=hid ((hb.block _ (row_lt Ra.out)).trans Ra.out)
 replace Rb:=hid ((hb.block _ (row_lt Rb.out)).trans Rb.out)
 replace HB:=hid (HB.out.trans (hb.mono HB.out.size))
 clear hb C6
 go_wp2_with fail
 refine wp_region_G (fun w'=>Below w9.heap.size w9 w') (by kernel_rfl) (by kernel_rfl) (Below.refl _ _).drew ?_
 refine wpG_call (.bool true) 13 #[] rfl (by rfl) (fun w'=>by go_simp) (fun w' hSw=>(lives_h (HK.out _ (HB.out.trans (hSw.mono HB.out.size)))).mono fun e w2 h=>⟨h.1,hSw.trans (h.2.mono hSw.size)⟩) ?_
 simp only [Gw3Asksa,Gw3Asksb,Gw3Asksc]
 refine wpG_val (.bool true) rfl (by rfl) (fun w' hSw=>by go_simp) ?_
 simp only [Gw3Asksa,Gw3Asksb,Gw3Asksc]
 refine wpG_val (.agg #[.int .u8 nd.kd,.slice PI PIn PIc,.slice PK PKn PKc,.slice PV PVn PVc]) rfl (by rfl) (fun w' hSw=>row_runO 31 rfl ga rfl _ _ (0,0) _ ((hSw.block _ (row_lt Ra.out)).trans Ra.out) Tryz.underlying31 rfl (by kernel_rfl)) ?_
 simp only [Gw3Asksa,Gw3Asksb,Gw3Asksc]
 refine wpG_val (.agg #[.int .u8 nd.kd,.slice QI QIn QIc,.slice QK QKn QKc,.slice QV QVn QVc]) rfl (by rfl) (fun w' hSw=>row_runO 31 rfl gb rfl _ _ (0,0) _ ((hSw.block _ (row_lt Rb.out)).trans Rb.out) Tryz.underlying31 rfl (by kernel_rfl)) ?_
 simp only [Gw3Asksa,Gw3Asksb,Gw3Asksc]
 refine wpG_call (.bool true) 14 #[.agg #[.int .u8 nd.kd,.slice PI PIn PIc,.slice PK PKn PKc,.slice PV PVn PVc],.agg #[.int .u8 nd.kd,.slice QI QIn QIc,.slice QK QKn QKc,.slice QV QVn QVc]] rfl (by rfl) (fun w'=>by go_simp) (fun w' hSw=>(same_any nd nd HFN.out.1 HFN.out.1 _ _ w' (HAP.out.below hSw) (HAQ.out.below hSw)).mono fun e w2 h=>⟨by rw [h.1,(eqN_iff _ _).2 rfl],hSw.trans (h.2.mono hSw.size)⟩) ?_
 simp only [Gw3Asksa,Gw3Asksb,Gw3Asksc]
 refine wpG_val (.bool true) rfl (by rfl) (fun w' hSw=>by go_simp) ?_
 simp only [Gw3Asksa,Gw3Asksb,Gw3Asksc]
 refine wpG_val (.bool true) rfl (by rfl) (fun w' hSw=>by go_simp) ?_
 simp only [Gw3Asksa,Gw3Asksb,Gw3Asksc]
 refine wpG_val (.int .i64 ex) rfl (by rfl) (fun w' hSw=>by go_simp) ?_
 simp only [Gw3Asksa,Gw3Asksb,Gw3Asksc]
 refine wpG_val (.int .i64 ex) rfl (by rfl) (fun w' hSw=>by go_simp) ?_
 simp only [Gw3Asksa,Gw3Asksb,Gw3Asksc]
 refine wpG_val (.bool true) rfl (by rfl) (fun w' hSw=>by go_simp) ?_
 simp only [Gw3Asksa,Gw3Asksb,Gw3Asksc]
 refine wpG_val (.bool true) rfl (by rfl) (fun w' hSw=>by go_simp) ?_
 simp only [Gw3Asksa,Gw3Asksb,Gw3Asksc]
 refine wpG_val (.bool true) rfl (by rfl) (fun w' hSw=>by go_simp) ?_
 simp only [Gw3Asksa,Gw3Asksb,Gw3Asksc]
 refine wpG_val (.int .i64 hx) rfl (by rfl) (fun w' hSw=>by go_simp) ?_
 simp only [Gw3Asksa,Gw3Asksb,Gw3Asksc]
 refine wpG_val (.int .i64 hx) rfl (by rfl) (fun w' hSw=>by go_simp) ?_
 simp only [Gw3Asksa,Gw3Asksb,Gw3Asksc]
 refine wpG_val (.bool true) rfl (by rfl) (fun w' hSw=>by go_simp) ?_
 simp only [Gw3Asksa,Gw3Asksb,Gw3Asksc]
 refine wpG_val (.bool true) rfl (by rfl) (fun w' hSw=>by go_simp) ?_
 simp only [Gw3Asksa,Gw3Asksb,Gw3Asksc]
 refine wpG_val (.bool true) rfl (by rfl) (fun w' hSw=>by go_simp) ?_
 simp only [Gw3Asksa,Gw3Asksb,Gw3Asksc]
 refine wpG_val (.int .i64 ex) rfl (by rfl) (fun w' hSw=>by go_simp) ?_
 simp only [Gw3Asksa,Gw3Asksb,Gw3Asksc]
 refine wpG_val (.int .i64 ex) rfl (by rfl) (fun w' hSw=>by go_simp) ?_
 simp only [Gw3Asksa,Gw3Asksb,Gw3Asksc]
 refine wpG_val (.bool true) rfl (by rfl) (fun w' hSw=>by go_simp) ?_
 simp only [Gw3Asksa,Gw3Asksb,Gw3Asksc]
 refine wpG_val (.bool true) rfl (by rfl) (fun w' hSw=>by go_simp) ?_
 simp only [Gw3Asksa,Gw3Asksb,Gw3Asksc]
 refine wpG_val (.bool true) rfl (by rfl) (fun w' hSw=>by go_simp) ?_
 simp only [Gw3Asksa,Gw3Asksb,Gw3Asksc]
 refine wpG_val (.int .i64 fx) rfl (by rfl) (fun w' hSw=>by go_simp) ?_
 simp only [Gw3Asksa,Gw3Asksb,Gw3Asksc]
 refine wpG_val (.int .i64 fx) rfl (by rfl) (fun w' hSw=>by go_simp) ?_
 simp only [Gw3Asksa,Gw3Asksb,Gw3Asksc]
 refine wpG_val (.bool true) rfl (by rfl) (fun w' hSw=>by go_simp) ?_
 simp only [Gw3Asksa,Gw3Asksb,Gw3Asksc]
 refine wpG_val (.bool true) rfl (by rfl) (fun w' hSw=>by go_simp) ?_
 simp only [Gw3Asksa,Gw3Asksb,Gw3Asksc]
 refine wpG_val (.bool true) rfl (by rfl) (fun w' hSw=>by go_simp) ?_
 simp only [Gw3Asksa,Gw3Asksb,Gw3Asksc]
 refine wpG_val (.int .i64 kx) rfl (by rfl) (fun w' hSw=>by go_simp) ?_
 simp only [Gw3Asksa,Gw3Asksb,Gw3Asksc]
 refine wpG_val (.int .i64 kx) rfl (by rfl) (fun w' hSw=>by go_simp) ?_
 simp only [Gw3Asksa,Gw3Asksb,Gw3Asksc]
 refine wpG_val (.bool true) rfl (by rfl) (fun w' hSw=>by go_simp) ?_
 simp only [Gw3Asksa,Gw3Asksb,Gw3Asksc]
 refine wpG_val (.bool true) rfl (by rfl) (fun w' hSw=>by go_simp) ?_
 simp only [Gw3Asksa,Gw3Asksb,Gw3Asksc]
 refine wpG_val (.bool true) rfl (by rfl) (fun w' hSw=>by go_simp) ?_
 simp only [Gw3Asksa,Gw3Asksb,Gw3Asksc]
 refine wpG_val (.agg #[.int .u32 sz,.slice A n cap]) rfl (by rfl) (fun w' hSw=>row_runO 25 rfl w.heap.size rfl _ _ (0,0) _ ((hSw.block _ (row_lt Rh.out)).trans Rh.out) Tryz.underlying25 rfl (by kernel_rfl)) ?_
 simp only [Gw3Asksa,Gw3Asksb,Gw3Asksc]
 refine wpG_call (.int .i64 kx) 15 #[.agg #[.int .u32 sz,.slice A n cap]] rfl (by rfl) (fun w'=>by go_simp) (fun w' hSw=>(C7.out _ (HB.out.trans (hSw.mono HB.out.size))).mono fun e w2 h=>⟨h.1,hSw.trans (h.2.mono hSw.size)⟩) ?_
 simp only [Gw3Asksa,Gw3Asksb,Gw3Asksc]
 refine wpG_val (.agg #[.int .u32 sz,.slice A n cap]) rfl (by rfl) (fun w' hSw=>row_runO 25 rfl w.heap.size rfl _ _ (0,0) _ ((hSw.block _ (row_lt Rh.out)).trans Rh.out) Tryz.underlying25 rfl (by kernel_rfl)) ?_
 simp only [Gw3Asksa,Gw3Asksb,Gw3Asksc]
 refine wpG_call (.int .i64 kx) 16 #[.agg #[.int .u32 sz,.slice A n cap]] rfl (by rfl) (fun w'=>by go_simp) (fun w' hSw=>(C8.out _ (HB.out.trans (hSw.mono HB.out.size))).mono fun e w2 h=>⟨h.1,hSw.trans (h.2.mono hSw.size)⟩) ?_
 simp only [Gw3Asksa,Gw3Asksb,Gw3Asksc]
 refine wpG_val (.bool true) rfl (by rfl) (fun w' hSw=>by go_simp) ?_
 simp only [Gw3Asksa,Gw3Asksb,Gw3Asksc]
 refine wpG_val (.bool true) rfl (by rfl) (fun w' hSw=>by go_simp) ?_
 simp only [Gw3Asksa,Gw3Asksb,Gw3Asksc]
 refine wpG_val (.bool true) rfl (by rfl) (fun w' hSw=>by go_simp) ?_
 simp only [Gw3Asksa,Gw3Asksb,Gw3Asksc]
 refine wpG_nil ?_
 intro vz hSz
 go_wp2_with fail
 go_ret
 exact⟨rfl,HB.out.trans (hSz.mono HB.out.size)⟩
end Go.Proofs.YtlpejbbmemhloaaGreatDoor.Hp
