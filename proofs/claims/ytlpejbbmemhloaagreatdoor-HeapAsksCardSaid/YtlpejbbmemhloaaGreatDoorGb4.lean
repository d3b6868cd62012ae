import Derived.Test.YtlpejbbmemhloaaGreatDoorLs
import Derived.Test.YtlpejbbmemhloaaGreatDoorRgT
import Derived.Test.YtlpejbbmemhloaaGreatDoorNdC
import Derived.Test.YtlpejbbmemhloaaGreatDoorShaB
import Derived.Test.YtlpejbbmemhloaaGreatDoorGb3
import Derived.Deep.Slices
import Derived.ChangeArms
import Derived.SizedLaws
import Derived.Lib.SmallJoins
import Derived.OpenShut
import Derived.FnData
import GoSem.ClaimJoined
import Derived.LaidMore
set_option maxRecDepth 100000
namespace Go.Proofs.YtlpejbbmemhloaaGreatDoor
theorem Gb4a {α:Type}(l:List α)(i:Nat)(x:α):l.toArray.setIfInBounds i x=(l.set i x).toArray:=List.setIfInBounds_toArray ..
theorem Gb4b {α:Type}{a b:α}{l:List α}:(a::l).set 0 b=b::l:=List.set_cons_zero
theorem Gb4c {α:Type}{a b:α}{l:List α}{n:Nat}:(a::l).set (n+1) b=a::l.set n b:=List.set_cons_succ
end Go.Proofs.YtlpejbbmemhloaaGreatDoor
namespace Go.Proofs.YtlpejbbmemhloaaGreatDoor.Hp
open Lib (hid)
set_option linter.unusedVariables false
set_option linter.unusedSimpArgs false
set_option maxRecDepth 100000
open Go.ChangeShapes Go.WideShapes Go.ChangeAt Go.RowKit Go.WideMaps Go.Maps
open Ar Nd
open BigFrame
open Pk (u8s u8s_length)
open Rg
section
variable {P:Program}{ops:Array Oper}{Q:Exit→Act→World→Prop}{md:Region.Mode}{S:World→Prop}{n:Nat}{L:Array Bool→Act→World→Prop}
theorem two_T {f:Nat}{listed:Array Bool}{tmps:Array Value}{w:World}(i j:Nat){oi oj:Oper}(hi:ops[i]?=some oi) (hj:ops[j]?=some oj) (hr:Region.ready md ops listed=[i,j]) (hin:i<n) (hjn:j<n)
  (hwi:Region.wanted oi (yielded ops tmps)=true) (hwj:Region.wanted oj (yielded ops tmps)=true)
  (h1:∀ K:Act→World→Prop,Shut (∀ a' w',S w'→wpAnyT P md ops Q S n L f (listed.setIfInBounds i true) a' w'→K a' w')→Oper.wp P oi { tmps:=tmps,defers:=[] } w K Q)
  (h2:∀ K:Act→World→Prop,Shut (∀ a' w',S w'→wpAnyT P md ops Q S n L f (listed.setIfInBounds j true) a' w'→K a' w')→Oper.wp P oj { tmps:=tmps,defers:=[] } w K Q) :
  wpAnyT P md ops Q S n L (f+1) listed { tmps:=tmps,defers:=[] } w:=by
 refine⟨fun h0=>(by rw [hr] at h0;cases h0),fun k hk=>?_⟩
 rw [hr] at hk
 rcases List.mem_cons.1 hk with rfl | hk
 ·refine⟨hin,wpOp_step hi fun K' hK=>?_⟩
  rw [if_pos hwi]
  exact h1 K' (fun a w hS hW=>hK a w ⟨hS,hW⟩)
 ·have hkj:k=j:=by simpa using hk
  subst hkj
  refine⟨hjn,wpOp_step hj fun K' hK=>?_⟩
  rw [if_pos hwj]
  exact h2 K' (fun a w hS hW=>hK a w ⟨hS,hW⟩)
end
def FiReg (sz:Nat) (v:Value) (L:List Ce) (w4:World) (s8:Value) (wx:World):Prop :=
 ∃ (g b m:Nat) (D:DataW Unit),s8=.pointer (some ⟨g,0,none⟩)∧wx.heap[g]?=some (.cells (FlR sz v b 0 0) 130 (0,0))∧OwM wx b m D∧MpI D L∧w4.heap.size≤b∧w4.heap.size≤g∧m≤65536∧Below w4.heap.size w4 wx
def FiPost (w0 w:World) (kb sz:Nat) (L:List Ce) (nd:Nd) (e:Ending) (w':World):Prop :=
 ∃ (A:Option Addr) (n c:Nat),e=.returned (.tuple #[.agg #[.int .u32 sz,.slice A n c],.int .i64 0])∧MkC w0 w' (.slice A n c) (putL L nd)∧FrX kb w w'∧w'.heap[kb]?=some (.cells (ecK (kidO L nd)).toArray 45 (0,0))
set_option maxHeartbeats 8000000 in
theorem fill_any {tK tS:TypeId}{nb kb:Nat}{w0 w:World}(hk:Kc tK tS w0.heap.size w) (hb0:Below w0.heap.size w0 w) (hk0:w0.heap.size≤kb) (hkb:w.heap[kb]?=some (.cells zKd 45 (0,0)))
  {sz cap n:Nat}{L:List Ce}{A:Option Addr}(hin:HIn w A n L) (hok:okH sz L)
  (nd:Nd) (hw:Wd nd) (hck:ckN nd=0) (cs:Array Value) (hN:NdAt w cs nd) (hnb:w.heap[nb]?=some (.cells cs 31 (0,0)))
  (hg:∀ (n1:Nat) (W:World) (v:Value) (P:List Nat) (s:Nat→Ob),Tk n1 W v P s L→goodF s P (nmN nd)=true)
  (hnew:fstC L (encB nd).data.toList=none→(∀ j c,L[j]?=some c→c.num=j+2)∧L.length+2<sz∧∀ c∈L,c.r+(nmsN nd).count c.num≤16777216) :
  Calls Tryz.prog 44 #[.agg #[.int .u32 sz,.slice A n cap],.func (.func 45) #[] #[.pointer (some ⟨nb,0,none⟩),.pointer (some ⟨kb,0,none⟩)]] w (FiPost w0 w kb sz L nd):=by
 have hn0:w0.heap.size≤w.heap.size:=hb0.size
 have HPUT:=hid (fun (W:World) (n1 q b m:Nat) (D:DataW Unit) (AP:Option Addr) (nP cP:Nat) (P:List Nat) (s:Nat→Ob) (h1:Below w.heap.size w W) (hn1:w.heap.size≤n1) (hn2:n1≤W.heap.size) (hq0:n1≤q) (hq:W.heap[q]?=some (.cells (FlR sz (.slice AP nP cP) b 0 0) 130 (0,0))) (htk:Tk n1 W (.slice AP nP cP) P s L) (hmb:n1≤b) (hM:OwM W b m D) (hm:m≤65536) (hMp:MpI D L)=>put_any ((hk.below (h1.mono hn0)).mono (Nat.le_trans hn0 hn1)) hn2 hq0 hq htk hok.hi hmb hM hm hMp nd hw hck (hg _ _ _ _ _ htk) cs (hN.below h1) hnew)
 obtain⟨AI,nI,cI,AK,nK,cK,AV,nV,cV,rfl,hrest⟩:=hN
 clear hrest
 have HKB:=hid hkb
 have HNB:=hid hnb
 have HB0:=hid hb0
 have hle:n≤65536:=by
  rw [hin.len]
  exact hok.cs.len hok.hi
 have hcd:∀ c∈L,c.num<4294967296∧c.d.size≤512:=fun c hc=>by
  obtain⟨j,hj⟩:=List.getElem?_of_mem hc
  have h1:=hok.cs j c (List.getElem?_eq_some_iff.1 hj).1 hj
  have h2:=hok.hi
  exact⟨by omega,isN_size h1.2.2.1⟩
 have HTK:=hid (fun W (hb:Below w.heap.size w W)=>tk_at (hk.mono hn0) hin sz cap W hb)
 have HFO:=hid (fun W (hb:Below w.heap.size w W)=>firstOfEach_any (w:=W) L A n cap hin.len hle (hin.go hb).ls hcd)
 obtain⟨R1,R2,S0,Z0⟩:=two_new w #[.int .u32 sz,.slice A n cap] #[.int .u32 0,.slice none 0 0] 25 25
 have HR1:=hid R1
 have HR2:=hid R2
 have HS:=hid S0
 have HOK:=hid hok
 clear R1 R2 S0 Z0 hk hok hin hkb hnb hle hcd hb0 hg hnew
 go_enter Tryz.func44,Tryz.ntmps44
 go_upto_region 4 with (go_at_call 33;refine (HTK.out _ HS.out).mono ?_;rintro e w2 ⟨hb2,⟨_,A2,n2,c2,P,s,rfl,htk⟩ | ⟨h,_⟩⟩;case inr=>exact absurd HOK.out h)
 have hb24:Below w2.heap.size w2 (w2.alloc (.cells #[.int .u32 sz,.slice A2 n2 c2] 68)):=(Below.refl _ _).alloc (Nat.le_refl _) _
 have HRA4:=hid (heap_alloc_new w2 (.cells #[.int .u32 sz,.slice A2 n2 c2] 68))
 generalize (w.alloc (.cells #[.int .u32 sz,.slice A n cap] 25)).alloc (.cells #[.int .u32 0,.slice none 0 0] 25)=W1 at *
 have HTK4:=hid (htk.go hb24)
 have HRH2:=(hb2.block _ (row_lt HR1.out)).trans HR1.out
 have HRZ2:=(hb2.block _ (row_lt HR2.out)).trans HR2.out
 have HRH4:=hid ((hb24.block _ (row_lt HRH2)).trans HRH2)
 have HRZ4:=hid ((hb24.block _ (row_lt HRZ2)).trans HRZ2)
 have HB4:=hid (hb2.trans (hb24.mono hb2.size))
 have HGA:=hid (show W1.heap.size≤w2.heap.size from hb2.size)
 generalize w2.alloc _=W4 at *
 generalize w2.heap.size=ga at *
 clear hb2 htk hb24 HRH2 HRZ2 HTK HR1 HR2
 go_cut [8] from 9 to 37 (fun s8 wx=>Hid (FiReg sz (.slice A2 n2 c2) L W4 s8 wx))
 case first =>
  refine wp_region_T (fun w':World=>Below W4.heap.size W4 w') 6 (by kernel_rfl) (by kernel_rfl) ?_
  have hS:Below W4.heap.size W4 W4.drew:=(Below.refl _ _).drew
  refine take_T 0 18 (.agg #[.int .u32 sz,.slice A2 n2 c2]) rfl (by rfl) (by kernel_rfl) (by decide) (by kernel_rfl) (by kernel_rfl) (by kernel_rfl) (fun _ _ _ h=>h) (Or.inl ⟨by rfl,fun w' hSw=>by have r:=(hSw.block _ (row_lt HRA4.out)).trans HRA4.out;have r0:=cell_of_row _ _ 0 _ _ _ r;have r1:=cell_of_row _ _ 1 _ _ _ r;simp only [List.getElem?_toArray,List.getElem?_cons_zero,List.getElem?_cons_succ] at r0 r1;go_simp⟩) hS ?_
  simp only [Gb4a,Gb4b,Gb4c]
  refine take_T 1 19 (.pointer (some ⟨w.heap.size,1,none⟩)) rfl (by rfl) (by kernel_rfl) (by decide) (by kernel_rfl) (by kernel_rfl) (by kernel_rfl) (fun _ _ _ h=>h) (Or.inl ⟨by rfl,fun w' hSw=>by go_simp⟩) hS ?_
  simp only [Gb4a,Gb4b,Gb4c]
  refine take_T 2 20 (.slice A n cap) rfl (by rfl) (by kernel_rfl) (by decide) (by kernel_rfl) (by kernel_rfl) (by kernel_rfl) (fun _ _ _ h=>h) (Or.inl ⟨by rfl,fun w' hSw=>by have r:=(hSw.block _ (row_lt HRH4.out)).trans HRH4.out;have r1:=cell_of_row _ _ 1 _ _ _ r;simp only [List.getElem?_toArray,List.getElem?_cons_zero,List.getElem?_cons_succ] at r1;go_simp⟩) hS ?_
  simp only [Gb4a,Gb4b,Gb4c]
  have hbv:Below w.heap.size w W4.drew:=(HS.out.trans (HB4.out.mono HS.out.size)).drew
  generalize W4.drew=v0 at *
  refine two_T 3 5 rfl rfl (by kernel_rfl) (by decide) (by decide) (by rfl) (by rfl) (fun K hK=>?_) (fun K hK=>?_)
  ·go_wp2_with fail
   refine (HFO.out _ hbv).mono ?_
   rintro e' v1 ⟨b,m,D,rfl,hbz,hm,hM,hMp,hb1⟩
   have hSZ:W4.heap.size≤v0.heap.size:=hS.size
   have hS2:Below W4.heap.size W4 v1:=hS.trans (hb1.mono hS.size)
   refine hK.out _ _ hS2 ?_
   clear hK K
   try simp only [Act.put,Gb4a,Gb4b,Gb4c]
   clear hS
   have hS:=hS2
   clear hS2
   refine take_T 4 22 (.agg #[.int .u32 sz,.slice A2 n2 c2,.map (some b),.int .i64 0,.int .i64 0]) rfl (by rfl) (by kernel_rfl) (by decide) (by kernel_rfl) (by kernel_rfl) (by kernel_rfl) (fun _ _ _ h=>h) (Or.inl ⟨by rfl,fun w' hSw=>by go_simp⟩) hS ?_
   simp only [Gb4a,Gb4b,Gb4c]
   refine only_T 5 rfl (by kernel_rfl) (by decide) (by rfl) (fun K hK=>?_)
   have hb:Below v1.heap.size v1 (v1.alloc (.cells #[.int .u32 0,.slice none 0 0,.map none,.int .i64 0,.int .i64 0] 130)):=(Below.refl _ _).alloc (Nat.le_refl _) _
   have HA:=hid (heap_alloc_new v1 (.cells #[.int .u32 0,.slice none 0 0,.map none,.int .i64 0,.int .i64 0] 130))
   have HS3:=hid (hS.trans (hb.mono hS.size))
   have HGZ:=hid (show W4.heap.size≤v1.heap.size from hS.size)
   have HM3:=hid (hM.go hb)
   have HBZ:=hid (show W4.heap.size≤b from Nat.le_trans hSZ hbz)
   have hS2:Below W4.heap.size W4 (v1.alloc (.cells #[.int .u32 0,.slice none 0 0,.map none,.int .i64 0,.int .i64 0] 130)):=HS3.out
   go_simp
   clear hb hM hb1 hbz
   generalize v1.alloc _=v2 at *
   generalize v1.heap.size=g at *
   refine hK.out _ _ hS2 ?_
   clear hK K
   try simp only [Act.put,Gb4a,Gb4b,Gb4c]
   clear hS
   have hS:=hS2
   clear hS2
   refine done_T (by kernel_rfl) ?_
   simp only [List.drop_succ_cons,List.drop_zero]
   go_wp2_with (refine wpList_store_row rfl 130 (.tmp 8) (.tmp 22) rfl g (FlR sz (.slice A2 n2 c2) b 0 0) rfl rfl 130 _ HA.out (by kernel_rfl) rfl (all_of_one (by intro x hx;simp at hx;rcases hx with rfl | rfl | rfl | rfl | rfl<;>rfl)) ?_)
   go_meet
   exact⟨g,b,m,D,rfl,setRow_at HA.out,HM3.out.by_ (grown_row _ _ _) (fun g' e=>by cases e;exact⟨_,_,_,HA.out⟩),hMp,HBZ.out,HGZ.out,hm,hS.trans (below_of_grown (grown_row _ _ _) hS.size HGZ.out)⟩
  ·have hb:Below v0.heap.size v0 (v0.alloc (.cells #[.int .u32 0,.slice none 0 0,.map none,.int .i64 0,.int .i64 0] 130)):=(Below.refl _ _).alloc (Nat.le_refl _) _
   have HA0:=hid (heap_alloc_new v0 (.cells #[.int .u32 0,.slice none 0 0,.map none,.int .i64 0,.int .i64 0] 130))
   have hbv2:=hbv.trans (hb.mono hbv.size)
   have HGZ:=hid (show W4.heap.size≤v0.heap.size from hS.size)
   have hS2:Below W4.heap.size W4 (v0.alloc (.cells #[.int .u32 0,.slice none 0 0,.map none,.int .i64 0,.int .i64 0] 130)):=hS.trans (hb.mono hS.size)
   have HL:=hid (row_lt HA0.out)
   go_simp
   clear hb
   generalize v0.alloc _=v1 at *
   generalize v0.heap.size=g at *
   refine hK.out _ _ hS2 ?_
   clear hK K
   try simp only [Act.put,Gb4a,Gb4b,Gb4c]
   clear hS
   have hS:=hS2
   clear hS2
   refine only_T 3 rfl (by kernel_rfl) (by decide) (by rfl) (fun K hK=>?_)
   go_wp2_with fail
   refine (HFO.out _ hbv2).mono ?_
   rintro e' v2 ⟨b,m,D,rfl,hbz,hm,hM,hMp,hb1⟩
   have hS2:Below W4.heap.size W4 v2:=hS.trans (hb1.mono hS.size)
   have HA:=hid ((hb1.block _ HL.out).trans HA0.out)
   have HM3:=hid hM
   have HBZ:=hid (show W4.heap.size≤b from Nat.le_trans hS.size hbz)
   refine hK.out _ _ hS2 ?_
   clear hK K hM hb1 hbz HA0 HL
   try simp only [Act.put,Gb4a,Gb4b,Gb4c]
   clear hS
   have hS:=hS2
   clear hS2
   refine take_T 4 22 (.agg #[.int .u32 sz,.slice A2 n2 c2,.map (some b),.int .i64 0,.int .i64 0]) rfl (by rfl) (by kernel_rfl) (by decide) (by kernel_rfl) (by kernel_rfl) (by kernel_rfl) (fun _ _ _ h=>h) (Or.inl ⟨by rfl,fun w' hSw=>by go_simp⟩) hS ?_
   simp only [Gb4a,Gb4b,Gb4c]
   refine done_T (by kernel_rfl) ?_
   simp only [List.drop_succ_cons,List.drop_zero]
   go_wp2_with (refine wpList_store_row rfl 130 (.tmp 8) (.tmp 22) rfl g (FlR sz (.slice A2 n2 c2) b 0 0) rfl rfl 130 _ HA.out (by kernel_rfl) rfl (all_of_one (by intro x hx;simp at hx;rcases hx with rfl | rfl | rfl | rfl | rfl<;>rfl)) ?_)
   go_meet
   exact⟨g,b,m,D,rfl,setRow_at HA.out,HM3.out.by_ (grown_row _ _ _) (fun g' e=>by cases e;exact⟨_,_,_,HA.out⟩),hMp,HBZ.out,HGZ.out,hm,hS.trans (below_of_grown (grown_row _ _ _) hS.size HGZ.out)⟩
 case rest =>
  obtain⟨g,b,m,D,rfl,hrg,hM,hMp,hbz,hgz,hm,hbw⟩:=Hid.out hcut
  have hz1:w.heap.size≤W1.heap.size:=HS.out.size
  have hz4:W1.heap.size≤W4.heap.size:=HB4.out.size
  have hB:Below w.heap.size w wc:=(HS.out.trans (HB4.out.mono hz1)).trans (hbw.mono (Nat.le_trans hz1 hz4))
  have HB:=hid hB
  have hz5:W4.heap.size≤wc.heap.size:=hbw.size
  have hlk:kb<w.heap.size:=row_lt HKB.out
  have HPU:=hid (HPUT.out wc W1.heap.size g b m D A2 n2 c2 P s hB hz1 (Nat.le_trans hz4 hz5) (Nat.le_trans hz4 hgz) hrg (HTK4.out.go hbw) (Nat.le_trans hz4 hbz) hM hm hMp)
  have HLIT:=hid (lit_any (Nat.le_trans hn0 hB.size) (Nat.le_trans hn0 hz1) hk0 ((hB.block _ (row_lt HNB.out)).trans HNB.out) ((hB.block _ hlk).trans HKB.out) HPU.out)
  have HRZ5:=hid ((hbw.block _ (row_lt HRZ4.out)).trans HRZ4.out)
  clear hcut hrg hM hMp hbz hgz hm hbw hB HPU HPUT HFO HTK4 HRH4 HRZ4 HB4 HRA4 hz5 hz4 HOK
  go_wp2_with fail
  refine HLIT.out.mono ?_
  rintro e w5 ⟨rfl,hb5,hfx5,hkb5,hkd5⟩
  have HB5:=hid hb5
  have HX5:=hid hfx5
  have HKB5:=hid hkb5
  have HRZ5':=hid (hfx5.2 _ _ _ _ (by omega) (by decide) HRZ5.out)
  obtain⟨A',n',c',fl,P',s',h1,h2,h3,h4,h5⟩:=hkd5
  have HPL:=hid (plain_any (q:=g) (sz:=sz) ⟨_,_,h1,rfl,rfl⟩ h2 h3 h4)
  rw [h5] at HPL
  have c4:w5.cell? ⟨g,4,none⟩=some (.int .i64 0):=cell_of_row _ _ 4 _ _ _ h1
  clear hb5 hfx5 hkb5 h1 h2 h3 h4 h5 HRZ5 HLIT
  go_wp2_with fail
  refine HPL.out.mono ?_
  rintro e w6 ⟨v,rfl,A6,n6,c6,rfl,hmk⟩
  have HMK:=hid hmk
  have HRZ6:=hid ((hmk.2.block _ (row_lt HRZ5'.out)).trans HRZ5'.out)
  have k0:w6.cell? ⟨w.heap.size+1,0,none⟩=some (.int .u32 0):=cell_of_row _ _ 0 _ _ _ HRZ6.out
  have k1:w6.cell? ⟨w.heap.size+1,1,none⟩=some (.slice none 0 0):=cell_of_row _ _ 1 _ _ _ HRZ6.out
  have f0:=frozen_of_row w6 (w.heap.size+1) 0 _ _ HRZ6.out
  have f1:=frozen_of_row w6 (w.heap.size+1) 1 _ _ HRZ6.out
  have l0:=row_lt HRZ6.out
  clear hmk HPL
  go_wp2_with fail
  have HR7:(w6.setCell ⟨w.heap.size+1,0,none⟩ (.int .u32 sz)).heap[w.heap.size+1]?=some (.cells #[.int .u32 sz,.slice none 0 0] 25 (0,0)):=row_set (cs:=[.int .u32 0,.slice none 0 0]) (i:=0) (u:=.int .u32 sz) HRZ6.out
  refine bodyPost_ret (v:=.tuple #[.agg #[.int .u32 sz,.slice A6 n6 c6],.int .i64 0]) (results_row2 rfl _ _ (w.heap.size+1) 25 #[.int .u32 sz,.slice A6 n6 c6] (0,0) _ rfl (row_set (cs:=[.int .u32 sz,.slice none 0 0]) (i:=1) (u:=.slice A6 n6 c6) HR7) Tryz.underlying25 rfl (by kernel_rfl) _ rfl) rfl ?_
  have hb05:Below w0.heap.size w0 w5:=(HB0.out.trans (HB.out.mono hn0)).trans HB5.out
  have hs5:wc.heap.size≤w5.heap.size:=HX5.out.1
  have hs6:w5.heap.size≤w6.heap.size:=HMK.out.2.size
  have hs7:=(grown_cell w6 (w.heap.size+1) 0 (.int .u32 sz)).size
  have hs8:=(grown_cell (w6.setCell ⟨w.heap.size+1,0,none⟩ (.int .u32 sz)) (w.heap.size+1) 1 (.slice A6 n6 c6)).size
  have hsw:=HB.out.size
  have hm6:MkC w0 w6 (.slice A6 n6 c6) (putL L nd):=HMK.out.since hb05
  refine⟨A6,n6,c6,rfl,(hm6.cell HRZ6.out (by decide) (by omega)).cell HR7 (by decide) (by omega),⟨by omega,fun g' cs' t' f' hne ht hg'=>row_cell (row_cell ((HMK.out.2.block _ (row_lt (HX5.out.2 g' cs' t' f' hne ht ((HB.out.block _ (row_lt hg')).trans hg')))).trans (HX5.out.2 g' cs' t' f' hne ht ((HB.out.block _ (row_lt hg')).trans hg'))) ?_) ?_⟩,row_cell (row_cell ((HMK.out.2.block _ (row_lt HKB5.out)).trans HKB5.out) (by omega)) (by omega)⟩
  ·have:=row_lt hg'
   omega
  ·have:=row_lt hg'
   omega
set_option linter.unusedVariables false
set_option linter.unusedSimpArgs false
set_option maxRecDepth 100000
open Go.ChangeShapes Go.WideShapes Go.ChangeAt Go.RowKit Go.WideMaps Go.Maps
open Go.Proofs.YtlpejbbmemhloaaGreatDoor.Rg (take_at only_H)
open Ar Nd
open BigFrame
open Pk (u8s u8s_length)
theorem row_runO {P:Program}{ev:Operand→Value}{o:Oper}{w:World}(ty:TypeId){x:Operand}(ho:o.op=.load ty x) (b:Nat) (hx:ev x=.pointer (some ⟨b,0,none⟩)) (cs:Array Value) (t:TypeId) (fr:Nat×Nat) (d:TypeDesc) (hg:w.heap[b]?=some (.cells cs t fr))
  (hu:P.underlying ty=some d) (hd:(match d with | .struct _ | .array _ _=>true | _=>false)=true) (hi:(P.info? ty).map (·.size)=some cs.size):(execOp ev o).run P w=.ok (.value (.agg cs)) w:=by
 unfold execOp
 simp only [ho,hx,Instr.loadAt,Instr.sureAddr,Sem.run_bind,Sem.run_pure,Result.andThen_ok,run_loadVar_row w b t ty cs fr d hg hu hd hi]
theorem results_row3 {P:Program}{fn:Func}{p q u:Tmp}{ty ty':TypeId}(h:fn.results=#[.cell p ty,.cell q ty',.tmp u]) (tmps:Array Value) (w:World) (g g':Nat) (t t':TypeId) (cs cs':Array Value) (fr fr':Nat×Nat) (d d':TypeDesc)
  (hp:tmps.getD p undef=.pointer (some ⟨g,0,none⟩)) (hg:w.heap[g]?=some (.cells cs t fr))
  (hu:P.underlying ty=some d) (hd:(match d with | .struct _ | .array _ _=>true | _=>false)=true) (hi:(P.info? ty).map (·.size)=some cs.size)
  (hp':tmps.getD q undef=.pointer (some ⟨g',0,none⟩)) (hg':w.heap[g']?=some (.cells cs' t' fr'))
  (hu':P.underlying ty'=some d') (hd':(match d' with | .struct _ | .array _ _=>true | _=>false)=true) (hi':(P.info? ty').map (·.size)=some cs'.size) (r:Value) (hr:tmps.getD u undef=r) :
  (results fn tmps).run P w=.ok (.tuple #[.agg cs,.agg cs',r]) w:=by
 rw [Array.getD_eq_getD_getElem?] at hp hp' hr
 simp only [results,h]
 simp [Sem.run_bind,Result.andThen,hp,hp',hr,asAddr,run_loadVar_row w g t ty cs fr d hg hu hd hi,run_loadVar_row w g' t' ty' cs' fr' d' hg' hu' hd' hi']
def PuPost (w:World) (sz:Nat) (L:List Ce) (nd:Nd) (e:Ending) (w':World):Prop :=
 ∃ (A:Option Addr) (n c:Nat),e=.returned (.tuple #[.agg #[.int .u32 sz,.slice A n c],.agg (ecK (kidO L nd)).toArray,.int .i64 0])∧MkC w w' (.slice A n c) (putL L nd)
set_option maxHeartbeats 8000000 in
theorem Put_any {tK tS:TypeId}{w:World}(hk:Kc tK tS w.heap.size w){sz cap n:Nat}{L:List Ce}{A:Option Addr}(hin:HIn w A n L) (hok:okH sz L)
  (nd:Nd) (hw:Wd nd) (hck:ckN nd=0) (cs:Array Value) (hN:NdAt w cs nd)
  (hg:∀ (n1:Nat) (W:World) (v:Value) (P:List Nat) (s:Nat→Ob),Tk n1 W v P s L→goodF s P (nmN nd)=true)
  (hnew:fstC L (encB nd).data.toList=none→(∀ j c,L[j]?=some c→c.num=j+2)∧L.length+2<sz∧∀ c∈L,c.r+(nmsN nd).count c.num≤16777216) :
  Calls Tryz.prog 18 #[.agg #[.int .u32 sz,.slice A n cap],.agg cs] w (PuPost w sz L nd):=by
 have HFI:=hid (fun (W:World) (hb:Below w.heap.size w W) (nb kb:Nat) (hkb:W.heap[kb]?=some (.cells zKd 45 (0,0))) (hnb:W.heap[nb]?=some (.cells cs 31 (0,0))) (hk0:w.heap.size≤kb)=>fill_any (cap:=cap) (hk.below hb) hb hk0 hkb (hin.go hb) hok nd hw hck cs (hN.below hb) hnb hg hnew)
 obtain⟨AI,nI,cI,AK,nK,cK,AV,nV,cV,rfl,hrest⟩:=hN
 clear hrest hg hnew hok hin hw hck hk
 obtain⟨R1,R2,S2,Z2⟩:=two_new w #[.int .u32 sz,.slice A n cap] #[.int .u8 nd.kd,.slice AI nI cI,.slice AK nK cK,.slice AV nV cV] 25 31
 obtain⟨R3,R4,S4,Z4⟩:=two_new ((w.alloc (.cells #[.int .u32 sz,.slice A n cap] 25)).alloc (.cells #[.int .u8 nd.kd,.slice AI nI cI,.slice AK nK cK,.slice AV nV cV] 31)) #[.int .u32 0,.slice none 0 0] zKd 25 45
 have R5:=heap_alloc_new ((((w.alloc (.cells #[.int .u32 sz,.slice A n cap] 25)).alloc (.cells #[.int .u8 nd.kd,.slice AI nI cI,.slice AK nK cK,.slice AV nV cV] 31)).alloc (.cells #[.int .u32 0,.slice none 0 0] 25)).alloc (.cells zKd 45)) (.cells zKd 45)
 have S5:Below ((((w.alloc (.cells #[.int .u32 sz,.slice A n cap] 25)).alloc (.cells #[.int .u8 nd.kd,.slice AI nI cI,.slice AK nK cK,.slice AV nV cV] 31)).alloc (.cells #[.int .u32 0,.slice none 0 0] 25)).alloc (.cells zKd 45)).heap.size ((((w.alloc (.cells #[.int .u32 sz,.slice A n cap] 25)).alloc (.cells #[.int .u8 nd.kd,.slice AI nI cI,.slice AK nK cK,.slice AV nV cV] 31)).alloc (.cells #[.int .u32 0,.slice none 0 0] 25)).alloc (.cells zKd 45)) (((((w.alloc (.cells #[.int .u32 sz,.slice A n cap] 25)).alloc (.cells #[.int .u8 nd.kd,.slice AI nI cI,.slice AK nK cK,.slice AV nV cV] 31)).alloc (.cells #[.int .u32 0,.slice none 0 0] 25)).alloc (.cells zKd 45)).alloc (.cells zKd 45)):=(Below.refl _ _).alloc (Nat.le_refl _) _
 rw [Z4,Z2] at R5
 rw [Z2] at R3 R4
 have hs2:=S2.size
 have hs4:=S4.size
 have F2:=hid ((S5.block _ (row_lt ((S4.block _ (row_lt R2)).trans R2))).trans ((S4.block _ (row_lt R2)).trans R2))
 have F3:=hid ((S5.block _ (row_lt R3)).trans R3)
 have F4:=hid ((S5.block _ (row_lt R4)).trans R4)
 have F5:=hid R5
 have HS:=hid ((S2.trans (S4.mono hs2)).trans (S5.mono (Nat.le_trans hs2 hs4)))
 clear R1 R2 S2 Z2 R3 R4 S4 Z4 R5 S5 hs2 hs4
 go_enter Tryz.func18,Tryz.ntmps18
 go_wp2_with fail
 change Calls _ _ _ (((((w.alloc (.cells #[.int .u32 sz,.slice A n cap] 25)).alloc (.cells #[.int .u8 nd.kd,.slice AI nI cI,.slice AK nK cK,.slice AV nV cV] 31)).alloc (.cells #[.int .u32 0,.slice none 0 0] 25)).alloc (.cells zKd 45)).alloc (.cells zKd 45)) _
 generalize (((((w.alloc (.cells #[.int .u32 sz,.slice A n cap] 25)).alloc (.cells #[.int .u8 nd.kd,.slice AI nI cI,.slice AK nK cK,.slice AV nV cV] 31)).alloc (.cells #[.int .u32 0,.slice none 0 0] 25)).alloc (.cells zKd 45)).alloc (.cells zKd 45))=W1 at *
 refine (HFI.out W1 HS.out _ _ F5.out F2.out (by omega)).mono ?_
 rintro e w2 ⟨A2,n2,c2,rfl,hmk,hfx,hkb⟩
 have HMK:=hid hmk
 have HKB:=hid hkb
 have HZ3:=hid (hfx.2 _ _ _ _ (by omega) (by decide) F3.out)
 have HZ4:=hid (hfx.2 _ _ _ _ (by omega) (by decide) F4.out)
 clear hmk hfx hkb F2 F3 F4 F5 HFI
 obtain⟨y,hy⟩:∃ y:Kd,kidO L nd=y:=⟨_,rfl⟩
 have HY:=hid hy
 rw [hy] at HKB
 clear hy
 go_wp2_with fail
 have hb3:Below w2.heap.size w2 (w2.alloc (.cells #[.int .u32 sz,.slice A2 n2 c2] 25)):=(Below.refl _ _).alloc (Nat.le_refl _) _
 have HG:=hid (heap_alloc_new w2 (.cells #[.int .u32 sz,.slice A2 n2 c2] 25))
 have HMK3:=hid (HMK.out.go hb3)
 have H43:Hid ((w2.alloc (.cells #[.int .u32 sz,.slice A2 n2 c2] 25)).heap[w.heap.size+1+1]?=some (.cells #[.int .u32 0,.slice none 0 0] 25 (0,0))):=hid ((hb3.block _ (row_lt HZ3.out)).trans HZ3.out)
 have H53:Hid ((w2.alloc (.cells #[.int .u32 sz,.slice A2 n2 c2] 25)).heap[w.heap.size+1+1+1]?=some (.cells zKd 45 (0,0))):=hid ((hb3.block _ (row_lt HZ4.out)).trans HZ4.out)
 have HK3:Hid ((w2.alloc (.cells #[.int .u32 sz,.slice A2 n2 c2] 25)).heap[w.heap.size+1+1+1+1]?=some (.cells (ecK y).toArray 45 (0,0))):=hid ((hb3.block _ (row_lt HKB.out)).trans HKB.out)
 have hgl:w.heap.size+1+1+1+1<w2.heap.size:=row_lt HKB.out
 generalize (w2.alloc (.cells #[.int .u32 sz,.slice A2 n2 c2] 25))=w3 at *
 generalize w2.heap.size=gb at *
 clear hb3 HMK HZ3 HZ4 HKB
 refine wp_region_held_drew (S:=fun w':World=>w'.heap[gb]?=some (.cells #[.int .u32 sz,.slice A2 n2 c2] 25 (0,0))∧w'.heap[w.heap.size+1+1+1+1]?=some (.cells (ecK y).toArray 45 (0,0))) (by kernel_rfl) ⟨HG.out,HK3.out⟩ (fun hHeld=>?_)
 have HM4:=hid (show MkC w w3.drew (.slice A2 n2 c2) (putL L nd) from HMK3.out.go (Below.refl _ _).drew)
 have H44:Hid (w3.drew.heap[w.heap.size+1+1]?=some (.cells #[.int .u32 0,.slice none 0 0] 25 (0,0))):=H43
 have H54:Hid (w3.drew.heap[w.heap.size+1+1+1]?=some (.cells zKd 45 (0,0))):=H53
 have hS:w3.drew.heap[gb]?=some (.cells #[.int .u32 sz,.slice A2 n2 c2] 25 (0,0))∧w3.drew.heap[w.heap.size+1+1+1+1]?=some (.cells (ecK y).toArray 45 (0,0)):=⟨HG.out,HK3.out⟩
 clear hHeld HG HK3 H43 H53 HMK3
 generalize w3.drew=w4 at *
 refine take_at 0 16 (.agg #[.int .u32 sz,.slice A2 n2 c2]) rfl (by rfl) (by kernel_rfl) (by kernel_rfl) (by kernel_rfl) (fun _ _ _ h=>h) (Or.inl ⟨by rfl,fun w' hSw=>row_runO 25 rfl gb rfl _ _ (0,0) _ hSw.1 Tryz.underlying25 rfl (by kernel_rfl)⟩) hS ?_
 simp only [Gb4a,Gb4b,Gb4c]
 refine take_at 1 17 (.agg (ecK y).toArray) rfl (by rfl) (by kernel_rfl) (by kernel_rfl) (by kernel_rfl) (fun _ _ _ h=>h) (Or.inl ⟨by rfl,fun w' hSw=>row_runO 45 rfl (w.heap.size+1+1+1+1) rfl _ _ (0,0) _ hSw.2 Tryz.underlying45 rfl (infoKa y)⟩) hS ?_
 simp only [Gb4a,Gb4b,Gb4c]
 refine take_at 2 18 (.int .i64 0) rfl (by rfl) (by kernel_rfl) (by kernel_rfl) (by kernel_rfl) (fun _ _ _ h=>h) (Or.inl ⟨by rfl,fun w' hSw=>by go_simp⟩) hS ?_
 simp only [Gb4a,Gb4b,Gb4c]
 refine only_H 3 rfl (by kernel_rfl) (by rfl) (fun K hK=>?_)
 have k0:w4.cell? ⟨w.heap.size+1+1,0,none⟩=some (.int .u32 0):=cell_of_row _ _ 0 _ _ _ H44.out
 have k1:w4.cell? ⟨w.heap.size+1+1,1,none⟩=some (.slice none 0 0):=cell_of_row _ _ 1 _ _ _ H44.out
 have f0:=frozen_of_row w4 (w.heap.size+1+1) 0 _ _ H44.out
 have f1:=frozen_of_row w4 (w.heap.size+1+1) 1 _ _ H44.out
 have l0:=row_lt H44.out
 go_wp2_with fail
 have h1:(w4.setCell ⟨w.heap.size+1+1,0,none⟩ (.int .u32 sz)).heap[w.heap.size+1+1]?=some (.cells #[.int .u32 sz,.slice none 0 0] 25 (0,0)):=row_set (cs:=[.int .u32 0,.slice none 0 0]) (i:=0) (u:=.int .u32 sz) H44.out
 have H45:=hid (row_set (cs:=[.int .u32 sz,.slice none 0 0]) (i:=1) (u:=.slice A2 n2 c2) h1)
 have H55:=hid (row_cell (q:=w.heap.size+1+1) (i:=1) (u:=.slice A2 n2 c2) (row_cell (q:=w.heap.size+1+1) (i:=0) (u:=.int .u32 sz) H54.out (by omega)) (by omega))
 have hS2:((w4.setCell ⟨w.heap.size+1+1,0,none⟩ (.int .u32 sz)).setCell ⟨w.heap.size+1+1,1,none⟩ (.slice A2 n2 c2)).heap[gb]?=some (.cells #[.int .u32 sz,.slice A2 n2 c2] 25 (0,0))∧((w4.setCell ⟨w.heap.size+1+1,0,none⟩ (.int .u32 sz)).setCell ⟨w.heap.size+1+1,1,none⟩ (.slice A2 n2 c2)).heap[w.heap.size+1+1+1+1]?=some (.cells (ecK y).toArray 45 (0,0)):=⟨row_cell (row_cell hS.1 (by omega)) (by omega),row_cell (row_cell hS.2 (by omega)) (by omega)⟩
 have HM5:=hid ((HM4.out.cell (i:=0) (u:=.int .u32 sz) H44.out (by decide) (by omega)).cell (i:=1) (u:=.slice A2 n2 c2) h1 (by decide) (by omega))
 refine hK.out _ _ hS2 ?_
 clear hK K hS k0 k1 f0 f1 l0 h1 H44 H54 HM4
 try simp only [Act.put,Gb4a,Gb4b,Gb4c]
 have H45:Hid (((w4.setCell ⟨w.heap.size+1+1,0,none⟩ (.int .u32 sz)).setCell ⟨w.heap.size+1+1,1,none⟩ (.slice A2 n2 c2)).heap[w.heap.size+1+1]?=some (.cells #[.int .u32 sz,.slice A2 n2 c2] 25 (0,0))):=H45
 generalize ((w4.setCell ⟨w.heap.size+1+1,0,none⟩ (.int .u32 sz)).setCell ⟨w.heap.size+1+1,1,none⟩ (.slice A2 n2 c2))=w5 at *
 have HSZY:=hid (show zKd.size=(ecK y).toArray.size from (show zKd.size=34 from rfl).trans (ecK_sz y))
 refine only_H 4 rfl (by kernel_rfl) (by rfl) (fun K hK=>?_)
 refine wp_store_row 45 (.tmp 5) (.tmp 17) rfl (w.heap.size+1+1+1) (ecK y).toArray rfl rfl 45 _ H55.out (infoKa y) HSZY.out (all_of_one (ecK_one y)) ?_
 have hS3:(w5.setRow (w.heap.size+1+1+1) (ecK y).toArray).heap[gb]?=some (.cells #[.int .u32 sz,.slice A2 n2 c2] 25 (0,0))∧(w5.setRow (w.heap.size+1+1+1) (ecK y).toArray).heap[w.heap.size+1+1+1+1]?=some (.cells (ecK y).toArray 45 (0,0)):=⟨row_other (grown_row _ _ _) hS2.1 (by omega),row_other (grown_row _ _ _) hS2.2 (by omega)⟩
 refine hK.out _ _ hS3 ?_
 clear hK K
 try simp only [Act.put,Gb4a,Gb4b,Gb4c]
 refine take_at 5 6 (.int .i64 0) rfl (by rfl) (by kernel_rfl) (by kernel_rfl) (by kernel_rfl) (fun _ _ _ h=>h) (Or.inl ⟨by rfl,fun w' hSw=>by go_simp⟩) hS3 ?_
 simp only [Gb4a,Gb4b,Gb4c]
 refine wpAnyH_done (by kernel_rfl) ?_ _
 have HR:=hid (row_other (grown_row w5 (w.heap.size+1+1+1) (ecK y).toArray) H45.out (by omega))
 have HM6:=hid (HM5.out.grownQ (grown_row w5 (w.heap.size+1+1+1) (ecK y).toArray) (by omega) (Mk.off HM5.out H55.out (by decide)))
 clear hS3 hS2 HM5 H45
 go_wp2_with fail
 refine bodyPost_ret (v:=.tuple #[.agg #[.int .u32 sz,.slice A2 n2 c2],.agg (ecK y).toArray,.int .i64 0]) (results_row3 rfl _ _ (w.heap.size+1+1) (w.heap.size+1+1+1) 25 45 #[.int .u32 sz,.slice A2 n2 c2] (ecK y).toArray (0,0) (0,0) _ _ rfl HR.out Tryz.underlying25 rfl (by kernel_rfl) rfl (setRow_at H55.out) Tryz.underlying45 rfl (infoKa y) _ rfl) rfl ?_
 exact⟨A2,n2,c2,by rw [HY.out],HM6.out⟩
def lfI:It.Itm:=⟨⟨#[97]⟩,⟨#[]⟩⟩
def lfN:Nd:=⟨1,[lfI],[],[]⟩
def lfD:ByteArray:=encB lfN
def brK:Kd:=⟨⟨#[97]⟩,2,hsD lfD⟩
def brN:Nd:=⟨2,[],[brK],[]⟩
def brD:ByteArray:=encB brN
def H1:List Ce:=[⟨2,lfD,0⟩]
def H2:List Ce:=[⟨2,lfD,1⟩,⟨3,brD,0⟩]
def H3:List Ce:=[⟨2,lfD,1⟩,⟨3,brD,1⟩]
theorem ck_lf:ckN lfN=0:=by decide +kernel
theorem ck_br:ckN brN=0:=by
 unfold ckN
 rw [if_pos (show rtN brN=true by rfl),if_neg (by show ¬ 508<2+(brN.K.map szK).sum;decide +kernel)]
theorem wd_lf:Wd lfN:=⟨fun x hx=>(by cases hx),fun x hx=>(by cases hx)⟩
theorem wd_br:Wd brN:=⟨fun x hx=>by
 have:x=brK:=by simpa [brN] using hx
 rw [this]
 exact⟨by decide,hsD_len _⟩,fun x hx=>(by cases hx)⟩
theorem lf_dec:decN lfD.data.toList=some lfN:=by
 unfold lfD
 rw [encB_yes ck_lf,show (bs (encN lfN)).data.toList=encN lfN from by unfold bs;simp]
 exact dec_enc wd_lf ck_lf
theorem br_dec:decN brD.data.toList=some brN:=by
 unfold brD
 rw [encB_yes ck_br,show (bs (encN brN)).data.toList=encN brN from by unfold bs;simp]
 exact dec_enc wd_br ck_br
theorem isN_lf:isN lfD=true:=by unfold isN;rw [lf_dec];rfl
theorem isN_br:isN brD=true:=by unfold isN;rw [br_dec];rfl
theorem ndD_lf:ndD lfD=lfN:=by unfold ndD;rw [lf_dec];rfl
theorem ndD_br:ndD brD=brN:=by unfold ndD;rw [br_dec];rfl
theorem lf_ne_br:lfD.data.toList≠brD.data.toList:=fun h=>by
 have h1:=lf_dec
 rw [h,br_dec] at h1
 have h2:=congrArg (fun o=>o.map (·.kd)) h1
 revert h2
 decide
theorem fst1:fstC H1 (encB lfN).data.toList=some ⟨2,lfD,0⟩:=by
 unfold fstC H1
 rw [List.find?_cons_of_pos (by exact decide_eq_true rfl)]
theorem fst1n:fstC H1 (encB brN).data.toList=none:=by
 unfold fstC H1
 rw [List.find?_cons_of_neg (by show ¬ (decide _=true);rw [decide_eq_true_iff];exact lf_ne_br)]
 rfl
theorem put1:putL H1 lfN=H1∧putN H1 lfN=2:=by
 unfold putL putN
 rw [fst1]
 exact⟨rfl,rfl⟩
theorem nms_br:nmsN brN=[2]:=rfl
theorem put2:putL H1 brN=H2∧putN H1 brN=3:=by
 unfold putL putN
 rw [fst1n,nms_br]
 exact⟨rfl,rfl⟩
theorem nms_lfD:nms lfD=[]:=by unfold nms;rw [ndD_lf];rfl
theorem nms_brD:nms brD=[2]:=by unfold nms;rw [ndD_br];rfl
theorem ok0:okH 16 []:=⟨by decide,by decide,okTo.zero _ _,fun c h=>(by cases h),fun c h=>(by cases h)⟩
theorem ok1:okH 16 H1 where
 lo:=by decide
 hi:=by decide
 cs:=fun j c hj hc=>by
  have hj:j=0:=by
   have:j<1:=hj
   omega
  subst hj
  cases hc
  exact⟨by decide,by decide,isN_lf,fun b h=>absurd h (by decide)⟩
 ld:=fun c h k hk=>by
  have hc:c=⟨2,lfD,0⟩:=by simpa [H1] using h
  subst hc
  rw [show (⟨2,lfD,0⟩:Ce).d=lfD from rfl,ndD_lf] at hk
  exact absurd hk (List.not_mem_nil)
 rf:=fun c h=>by
  have hc:c=⟨2,lfD,0⟩:=by simpa [H1] using h
  subst hc
  refine⟨?_,by decide⟩
  unfold ldL H1
  simp [nms_lfD]
theorem ok23 (r:Int) (hr:0≤r∧r≤16777216):okH 16 [⟨2,lfD,1⟩,⟨3,brD,r⟩] where
 lo:=by decide
 hi:=by decide
 cs:=fun j c hj hc=>by
  have hj:j=0∨j=1:=by
   have:j<2:=hj
   omega
  rcases hj with rfl | rfl
  ·cases hc
   exact⟨by decide,by decide,isN_lf,fun b h=>absurd h (by decide)⟩
  ·cases hc
   exact⟨(by show 2≤3;decide),(by show 3<16;decide),isN_br,fun b _ h=>by cases h;show 2<3;decide⟩
 ld:=fun c h k hk=>by
  have hc:c=⟨2,lfD,1⟩∨c=⟨3,brD,r⟩:=by simpa using h
  rcases hc with rfl | rfl
  ·rw [show (⟨2,lfD,1⟩:Ce).d=lfD from rfl,ndD_lf] at hk
   exact absurd hk (List.not_mem_nil)
  ·rw [show (⟨3,brD,r⟩:Ce).d=brD from rfl,ndD_br] at hk
   have hk:k=nmK brK:=by simpa [nmN,brN] using hk
   subst hk
   exact⟨⟨2,lfD,1⟩,by simp,rfl,rfl⟩
 rf:=fun c h=>by
  have hc:c=⟨2,lfD,1⟩∨c=⟨3,brD,r⟩:=by simpa using h
  rcases hc with rfl | rfl
  ·refine⟨?_,by decide⟩
   unfold ldL
   simp [nms_lfD,nms_brD]
  ·refine⟨?_,hr.2⟩
   unfold ldL
   simp [nms_lfD,nms_brD]
   exact hr.1
theorem good_lf (n1:Nat) (W:World) (v:Value) (P:List Nat) (s:Nat→Ob) (L:List Ce) (h:Tk n1 W v P s L):goodF s P (nmN lfN)=true:=rfl
theorem good_br (n1:Nat) (W:World) (v:Value) (P:List Nat) (s:Nat→Ob) (h:Tk n1 W v P s H1):goodF s P (nmN brN)=true:=by
 have h1:=fnd_LP (P:=P) (s:=s) 2
 rw [← h.lst] at h1
 have h2:fndL H1 2=some ⟨2,lfD,0⟩:=rfl
 rw [h2] at h1
 unfold goodF
 rw [show nmN brN=[nmK brK] from rfl,List.all_cons,List.all_nil,Bool.and_true]
 unfold okF
 rw [show (nmK brK).n=2 from rfl]
 cases hf:fndP s P 2 with
 | none=>rw [hf] at h1;cases h1
 | some p =>
  rw [hf] at h1
  have h3:(⟨2,lfD,0⟩:Ce)=ceO (s p):=by simpa using h1
  have h4:lfD=(s p).d:=congrArg Ce.d h3
  show decide (hsD (s p).d=(nmK brK).hs)=true
  rw [← h4]
  exact decide_eq_true rfl
theorem new0 (l:Nd):fstC [] (encB l).data.toList=none→(∀ j c,([]:List Ce)[j]?=some c→c.num=j+2)∧([]:List Ce).length+2<16∧∀ c∈([]:List Ce),c.r+(nmsN l).count c.num≤16777216 :=
 fun _=>⟨fun j c h=>(by simp at h),by decide,fun c h=>(by cases h)⟩
theorem new1 (l:Nd) (hl:nmsN l=[2]∨nmsN l=[]):fstC H1 (encB l).data.toList=none→(∀ j c,H1[j]?=some c→c.num=j+2)∧H1.length+2<16∧∀ c∈H1,c.r+(nmsN l).count c.num≤16777216:=by
 intro _
 refine⟨fun j c h=>?_,by decide,fun c h=>?_⟩
 ·cases j with
  | zero=>cases h;rfl
  | succ j=>simp [H1] at h
 ·have hc:c=⟨2,lfD,0⟩:=by simpa [H1] using h
  subst hc
  rcases hl with h | h<;>rw [h]<;>(show (0:Int)+_≤16777216)<;>decide
theorem ok3:okH 16 H3:=ok23 1 (by decide)
theorem ok2:okH 16 H2:=ok23 0 (by decide)
theorem fnd3:fndL H3 3=some ⟨3,brD,1⟩:=rfl
theorem fnd32:fndL H3 2=some ⟨2,lfD,1⟩:=rfl
theorem fnd2:fndL H2 3=some ⟨3,brD,0⟩:=rfl
theorem ldL3:ldL H3 3=0∧ldL H3 2=1:=by
 unfold ldL H3
 simp [nms_lfD,nms_brD]
theorem free_lives:freeX 16 H3=12∧okE 16 H3=0:=by
 unfold freeX okE
 rw [if_pos ok3,if_pos ok3]
 exact⟨rfl,rfl⟩
theorem held_lives:heldX 16 H3 3=1∧fndE 16 H3 3=0:=by
 unfold heldX fndE
 rw [if_pos ok3,if_pos ok3,fnd3]
 refine⟨?_,rfl⟩
 show (1:Int)-(ldL H3 3:Int)=1
 rw [ldL3.1]
 rfl
theorem get_lives:getX 16 H3 3=brN:=by
 unfold getX
 rw [if_pos ok3,fnd3]
 exact ndD_br
theorem holdR_lives {z:Int}{M:List Ce}(h:HoldR H2 3 z M):z=0∧M=H3:=by
 obtain⟨c,hc,h⟩:=h
 rw [fnd2] at hc
 cases hc
 rcases h with ⟨h1,h2⟩ | ⟨h1,h2,h3⟩
 ·exact absurd h1 (by show ¬ (0:Int)=16777216;decide)
 ·exact⟨h2,h3.trans rfl⟩
theorem dropR2_lives {z:Int}{M:List Ce}(h:DropP H3 2 z M):z=7:=by
 obtain⟨c,hc,h⟩:=h
 rw [fnd32] at hc
 cases hc
 rcases h with ⟨h1,h2⟩ | ⟨h1,h2,h3⟩
 ·exact h2
 ·rw [ldL3.2] at h1
  exact absurd h1 (by show ¬ (1:Int)≤1-((1:Nat):Int);decide)
theorem wo_hold_lives {z:Int}{sz':Nat}{M:List Ce}(h:WoR (HoldR H2 3) 16 H2 3 z sz' M):z=0∧sz'=16∧M=H3:=by
 rcases h with ⟨h1,_⟩ | ⟨_,h1,_⟩ | ⟨_,_,h1,M',h2,h3⟩
 ·exact absurd ok2 h1
 ·rw [fnd2] at h1
  cases h1
 ·obtain⟨rfl,rfl⟩:=holdR_lives h2
  exact⟨rfl,h1,h3.trans (if_pos rfl)⟩
theorem wo_drop2_lives {z:Int}{sz':Nat}{M:List Ce}(h:WoR (DropP H3 2) 16 H3 2 z sz' M):z=7:=by
 rcases h with ⟨h1,_⟩ | ⟨_,h1,_⟩ | ⟨_,_,h1,M',h2,h3⟩
 ·exact absurd ok3 h1
 ·rw [fnd32] at h1
  cases h1
 ·exact dropR2_lives h2
theorem Lets.cut {bl:Nat→List Nat}{r r':Nat→Int}{g g':Nat→Bool}{l:List Nat}(h:Lets bl r g l r' g'):(l=[]∧r'=r∧g'=g)∨∃ k c,l=k++[c]∧((¬ r c-1=0∧Lets bl (updF r c (r c-1)) g k r' g')∨(r c-1=0∧Lets bl (updF r c 0) (updF g c true) (k++bl c) r' g')):=by
 cases h with
 | nil=>exact .inl ⟨rfl,rfl,rfl⟩
 | less h hh=>exact .inr ⟨_,_,rfl,.inl ⟨h,hh⟩⟩
 | gone h hh=>exact .inr ⟨_,_,rfl,.inr ⟨h,hh⟩⟩
theorem Lets.end_ {bl:Nat→List Nat}{r r':Nat→Int}{g g':Nat→Bool}(h:Lets bl r g [] r' g'):r'=r∧g'=g:=by
 rcases h.cut with ⟨_,h1,h2⟩ | ⟨k,c,h1,_⟩
 ·exact⟨h1,h2⟩
 ·exact absurd h1 (by simp)
theorem Lets.one {bl:Nat→List Nat}{r r':Nat→Int}{g g':Nat→Bool}{p:Nat}(h:Lets bl r g [p] r' g') (hp:r p-1=0):Lets bl (updF r p 0) (updF g p true) (bl p) r' g':=by
 rcases h.cut with ⟨h1,_⟩ | ⟨k,c,h1,h2⟩
 ·cases h1
 ·have h3:k=[]∧c=p:=by
   have h4:=congrArg List.length h1
   have h5:k=[]:=List.eq_nil_of_length_eq_zero (by simpa using h4)
   subst h5
   exact⟨rfl,by simpa using h1.symm⟩
  obtain⟨rfl,rfl⟩:=h3
  rcases h2 with ⟨h2,_⟩ | ⟨_,h2⟩
  ·exact absurd hp h2
  ·simpa using h2
theorem dropR3_lives {z:Int}{M:List Ce}(h:DropP H3 3 z M):z=0∧M=[]:=by
 obtain⟨c,hc,h⟩:=h
 rw [fnd3] at hc
 cases hc
 rcases h with ⟨h1,h2⟩ | ⟨h1,h2,P,s,t,p,hnd,hup,hl,hL,hp,hpn,hgn,hb,hn,hgd,hsg,hlt,hinv,hM⟩
 ·rw [ldL3.1] at h1
  exact absurd h1 (by show ¬ (1:Int)-((0:Nat):Int)<1;decide)
 refine⟨h2,?_⟩
 have hlen:=congrArg List.length hL
 rw [List.length_map] at hlen
 match P,hlen with
 | [a,b],_ =>
  have hab:a≠b:=by simpa using hnd
  have ha:ceO (s a)=⟨2,lfD,1⟩:=by
   have:=congrArg (·[0]?) hL
   simpa [H3] using this.symm
  have hbb:ceO (s b)=⟨3,brD,1⟩:=by
   have:=congrArg (·[1]?) hL
   simpa [H3] using this.symm
  have an:(s a).num=2:=congrArg Ce.num ha
  have bn:(s b).num=3:=congrArg Ce.num hbb
  have ad:(s a).d=lfD:=congrArg Ce.d ha
  have bd:(s b).d=brD:=congrArg Ce.d hbb
  have ar:(s a).r=1:=congrArg Ce.r ha
  have br:(s b).r=1:=congrArg Ce.r hbb
  have hpb:p=b:=by
   have:p=a∨p=b:=by simpa using hp
   rcases this with rfl | rfl
   ·rw [an] at hpn
    cases hpn
   ·rfl
  subst hpb
  have ba:bO s a=[]:=by
   rw [hb a (by simp)]
   unfold toF
   rw [hn a (by simp),ad,ndD_lf]
   rfl
  have hfa:fndP s [a,p] 2=some a:=by
   unfold fndP
   rw [List.find?_cons_of_pos (by exact decide_eq_true an)]
  have bb:bO s p=[a]:=by
   rw [hb p (by simp)]
   unfold toF
   rw [hn p (by simp),bd,ndD_br,show nmN brN=[nmK brK] from rfl]
   unfold psF
   rw [List.filterMap_cons,show (nmK brK).n=2 from rfl,hfa]
   rfl
  have l1:=Lets.one hlt (by show (s p).r-1=0;rw [br];rfl)
  rw [bb] at l1
  have l2:=Lets.one l1 (by rw [updF_other hab];show (s a).r-1=0;rw [ar];rfl)
  rw [ba] at l2
  obtain⟨_,h4⟩:=Lets.end_ l2
  have ga:(t a).gn=true:=by
   have:=congrFun h4 a
   rw [updF_same] at this
   exact this
  have gb:(t p).gn=true:=by
   have:=congrFun h4 p
   rw [updF_other (Ne.symm hab),updF_same] at this
   exact this
  rw [hM]
  unfold plL
  simp [ga,gb]
theorem wo_drop3_lives {z:Int}{sz':Nat}{M:List Ce}(h:WoR (DropP H3 3) 16 H3 3 z sz' M):z=0∧sz'=16∧M=[]:=by
 rcases h with ⟨h1,_⟩ | ⟨_,h1,_⟩ | ⟨_,_,h1,M',h2,h3⟩
 ·exact absurd ok3 h1
 ·rw [fnd3] at h1
  cases h1
 ·obtain⟨rfl,rfl⟩:=dropR3_lives h2
  exact⟨rfl,h1,h3.trans (if_pos rfl)⟩
open Go.ChangeShapes Go.WideShapes Go.ChangeAt Go.RowKit
set_option maxHeartbeats 4000000 in
theorem leaf_a (w:World):Calls Tryz.prog 39 #[.string ⟨#[97]⟩] w fun e w'=>∃ cs,e=.returned (.agg cs)∧Below w.heap.size w w'∧NdAt w' cs lfN:=by
 go_enter Tryz.func39,Tryz.ntmps39
 go_wp2_with fail
 obtain⟨R1,R2,S2,Z2⟩:=two_new w #[.int .u8 1,.slice (some ⟨w.heap.size+1,0,none⟩) 1 1,.slice none 0 0,.slice none 0 0] #[.string ⟨#[97]⟩,.string ⟨#[]⟩] 31 63
 refine bodyPost_ret (v:=.agg #[.int .u8 1,.slice (some ⟨w.heap.size+1,0,none⟩) 1 1,.slice none 0 0,.slice none 0 0]) (results_cell_row rfl _ _ w.heap.size 31 _ (0,0) _ rfl R1 Tryz.underlying31 rfl info4n) rfl ?_
 refine⟨_,rfl,S2,some ⟨w.heap.size+1,0,none⟩,1,1,none,0,0,none,0,0,rfl,rfl,rfl,rfl,by decide,by decide,by decide,?_,Ls.nil,Ls.nil⟩
 have h:=Ls.new (enc:=It.enc) (k:=2) (w.alloc (.cells #[.int .u8 1,.slice (some ⟨w.heap.size+1,0,none⟩) 1 1,.slice none 0 0,.slice none 0 0] 31)) lfI 63 (w.heap.size+2) (by simp)
 rw [Z2]
 rw [show (w.alloc (.cells #[.int .u8 1,.slice (some ⟨w.heap.size+1,0,none⟩) 1 1,.slice none 0 0,.slice none 0 0] 31)).heap.size=w.heap.size+1 by simp] at h
 exact h
theorem HIn.of_mk {w0 w:World}{A:Option Addr}{n c:Nat}{L:List Ce}(h:MkC w0 w (.slice A n c) L) (hl:L.length≤65536) (hs:∀ c∈L,c.d.size≤512):HIn w A n L:=by
 obtain⟨A',c',hv,h1,h2,h3⟩:=h.ls ecC_len
 cases hv
 exact⟨rfl,by omega,h3,fun c hc=>by have:=hs c hc;omega⟩
theorem sm1:∀ c∈H1,c.d.size≤512:=fun c h=>by
 have hc:c=⟨2,lfD,0⟩:=by simpa [H1] using h
 rw [hc]
 exact isN_size isN_lf
theorem sm23 (r:Int):∀ c∈([⟨2,lfD,1⟩,⟨3,brD,r⟩]:List Ce),c.d.size≤512:=fun c h=>by
 have hc:c=⟨2,lfD,1⟩∨c=⟨3,brD,r⟩:=by simpa using h
 rcases hc with rfl | rfl
 ·exact isN_size isN_lf
 ·exact isN_size isN_br
theorem in0 (w:World):HIn w none 0 []:=⟨rfl,by omega,Ls.nil,fun c h=>(by cases h)⟩
theorem put_0 {tK tS:TypeId}{w0 w:World}(hk:Kc tK tS w0.heap.size w0) (hb:Below w0.heap.size w0 w) (cs:Array Value) (hN:NdAt w cs lfN) :
  Calls Tryz.prog 18 #[.agg #[.int .u32 16,.slice none 0 0],.agg cs] w fun e w'=>∃ (A:Option Addr) (n c:Nat),e=.returned (.tuple #[.agg #[.int .u32 16,.slice A n c],.agg (ecK ⟨⟨#[]⟩,2,hsD lfD⟩).toArray,.int .i64 0])∧MkC w w' (.slice A n c) H1 :=
 Put_any (sz:=16) (cap:=0) (n:=0) (A:=none) ((hk.below hb).mono hb.size) (in0 w) ok0 lfN wd_lf ck_lf cs hN (fun n1 W v P s h=>good_lf n1 W v P s [] h) (new0 lfN)
theorem put_1 {tK tS:TypeId}{w0 w:World}(hk:Kc tK tS w0.heap.size w0) (hb:Below w0.heap.size w0 w) (cs:Array Value) (hN:NdAt w cs lfN) (A:Option Addr) (n c:Nat) (hh:HIn w A n H1) :
  Calls Tryz.prog 18 #[.agg #[.int .u32 16,.slice A n c],.agg cs] w fun e w'=>∃ (A:Option Addr) (n c:Nat),e=.returned (.tuple #[.agg #[.int .u32 16,.slice A n c],.agg (ecK ⟨⟨#[]⟩,2,hsD lfD⟩).toArray,.int .i64 0])∧MkC w w' (.slice A n c) H1:=by
 have h:=Put_any (sz:=16) (cap:=c) ((hk.below hb).mono hb.size) hh ok1 lfN wd_lf ck_lf cs hN (fun n1 W v P s h=>good_lf n1 W v P s H1 h) (new1 lfN (.inr rfl))
 unfold PuPost kidO at h
 rw [put1.1,put1.2] at h
 exact h
theorem put_2 {tK tS:TypeId}{w0 w:World}(hk:Kc tK tS w0.heap.size w0) (hb:Below w0.heap.size w0 w) (cs:Array Value) (hN:NdAt w cs brN) (A:Option Addr) (n c:Nat) (hh:HIn w A n H1) :
  Calls Tryz.prog 18 #[.agg #[.int .u32 16,.slice A n c],.agg cs] w fun e w'=>∃ (A:Option Addr) (n c:Nat),e=.returned (.tuple #[.agg #[.int .u32 16,.slice A n c],.agg (ecK ⟨⟨#[]⟩,3,hsD brD⟩).toArray,.int .i64 0])∧MkC w w' (.slice A n c) H2:=by
 have h:=Put_any (sz:=16) (cap:=c) ((hk.below hb).mono hb.size) hh ok1 brN wd_br ck_br cs hN (fun n1 W v P s h=>good_br n1 W v P s h) (new1 brN (.inl rfl))
 unfold PuPost kidO at h
 rw [put2.1,put2.2] at h
 exact h
theorem hold_2 {tK tS:TypeId}{w0 w:World}(hk:Kc tK tS w0.heap.size w0) (hb:Below w0.heap.size w0 w) (A:Option Addr) (n c:Nat) (hh:HIn w A n H2) :
  Calls Tryz.prog 20 #[.agg #[.int .u32 16,.slice A n c],.int .u32 3] w fun e w'=>∃ (A:Option Addr) (n c:Nat),e=.returned (.tuple #[.agg #[.int .u32 16,.slice A n c],.int .i64 0])∧MkC w w' (.slice A n c) H3 :=
 (Hold_any ((hk.below hb).mono hb.size) hh 16 c 3).mono fun e w' h=>by
  obtain⟨v,z,sz',L',he,⟨A',n',c',hv,hm⟩,hw⟩:=h
  obtain⟨rfl,rfl,rfl⟩:=wo_hold_lives hw
  subst hv
  exact⟨A',n',c',he,hm⟩
theorem free_3 {tK tS:TypeId}{w0 w:World}(hk:Kc tK tS w0.heap.size w0) (hb:Below w0.heap.size w0 w) (A:Option Addr) (n c:Nat) (hh:HIn w A n H3) :
  Calls Tryz.prog 11 #[.agg #[.int .u32 16,.slice A n c]] w fun e w'=>e=.returned (.tuple #[.int .i64 12,.int .i64 0])∧Below w.heap.size w w':=by
 have h:=free_any ((hk.below hb).mono hb.size) hh 16 c
 rwa [free_lives.1,free_lives.2] at h
theorem held_3 {tK tS:TypeId}{w0 w:World}(hk:Kc tK tS w0.heap.size w0) (hb:Below w0.heap.size w0 w) (A:Option Addr) (n c:Nat) (hh:HIn w A n H3) :
  Calls Tryz.prog 9 #[.agg #[.int .u32 16,.slice A n c],.int .u32 3] w fun e w'=>e=.returned (.tuple #[.int .i64 1,.int .i64 0])∧Below w.heap.size w w':=by
 have h:=held_at ((hk.below hb).mono hb.size) hh 16 c 3
 rwa [held_lives.1,held_lives.2] at h
theorem get_3 {tK tS:TypeId}{w0 w:World}(hk:Kc tK tS w0.heap.size w0) (hb:Below w0.heap.size w0 w) (A:Option Addr) (n c:Nat) (hh:HIn w A n H3) :
  Calls Tryz.prog 7 #[.agg #[.int .u32 16,.slice A n c],.int .u32 3] w fun e w'=>∃ cs,e=.returned (.tuple #[.agg cs,.int .i64 0])∧NdOwn w w' cs brN:=by
 have h:=get_any ((hk.below hb).mono hb.size) hh 16 c 3
 rwa [get_lives,held_lives.2] at h
theorem drop_2 {tK tS:TypeId}{w0 w:World}(hk:Kc tK tS w0.heap.size w0) (hb:Below w0.heap.size w0 w) (A:Option Addr) (n c:Nat) (hh:HIn w A n H3) :
  Calls Tryz.prog 23 #[.agg #[.int .u32 16,.slice A n c],.int .u32 2] w fun e w'=>∃ (sz:Nat) (A:Option Addr) (n c:Nat),e=.returned (.tuple #[.agg #[.int .u32 sz,.slice A n c],.int .i64 7])∧Below w.heap.size w w' :=
 (Drop_any ((hk.below hb).mono hb.size) hh 16 c 2).mono fun e w' h=>by
  obtain⟨v,z,sz',L',he,⟨A',n',c',hv,hm⟩,hw⟩:=h
  have hz:=wo_drop2_lives hw
  subst hz
  subst hv
  exact⟨sz',A',n',c',he,hm.2⟩
theorem drop_3 {tK tS:TypeId}{w0 w:World}(hk:Kc tK tS w0.heap.size w0) (hb:Below w0.heap.size w0 w) (A:Option Addr) (n c:Nat) (hh:HIn w A n H3) :
  Calls Tryz.prog 23 #[.agg #[.int .u32 16,.slice A n c],.int .u32 3] w fun e w'=>∃ (A:Option Addr) (c:Nat),e=.returned (.tuple #[.agg #[.int .u32 16,.slice A 0 c],.int .i64 0])∧Below w.heap.size w w' :=
 (Drop_any ((hk.below hb).mono hb.size) hh 16 c 3).mono fun e w' h=>by
  obtain⟨v,z,sz',L',he,⟨A',n',c',hv,hm⟩,hw⟩:=h
  obtain⟨rfl,rfl,rfl⟩:=wo_drop3_lives hw
  subst hv
  obtain⟨A2,c2,hv,_⟩:=hm.ls ecC_len
  cases hv
  exact⟨A',c',he,hm.2⟩
end Go.Proofs.YtlpejbbmemhloaaGreatDoor.Hp
namespace Go.Proofs.YtlpejbbmemhloaaGreatDoor.Rg
open Lib (hid)
set_option linter.unusedVariables false
open Go.RowKit
section
variable {P:Program}{ops:Array Oper}{Q:Exit→Act→World→Prop}{md:Region.Mode}{S:Array Bool→World→Prop}
def wpAnyX (P:Program) (md:Region.Mode) (ops:Array Oper) (Q:Exit→Act→World→Prop) (S:Array Bool→World→Prop):Nat→Array Bool→Act→World→Prop
 | 0,listed,a,w=>Region.ready md ops listed=[]∧Q .normal a w
 | f+1,listed,a,w=>(Region.ready md ops listed=[]→Q .normal a w) ∧
  ∀ i∈Region.ready md ops listed,wpOp P ops Q i (fun a' w'=>S (listed.setIfInBounds i true) w'∧wpAnyX P md ops Q S f (listed.setIfInBounds i true) a' w') a w
theorem wpAny_of_X:∀ (f:Nat) (listed:Array Bool) (a:Act) (w:World),wpAnyX P md ops Q S f listed a w→wpAny P md ops Q f listed a w
 | 0,_,_,_,h=>h
 | f+1,_,_,_,h=>⟨h.1,fun i hi=>wpOp_mono (fun a' w' h'=>wpAny_of_X f _ a' w' h'.2) (h.2 i hi)⟩
def Cl (md:Region.Mode) (ops:Array Oper) (l:Array Bool):Prop:=∀ (j:Nat) (oj:Oper),ops[j]?=some oj→l.getD j false=true→∀ e∈oj.after,Region.binds md e=true→l.getD e.on false=true
theorem Cl.set {l:Array Bool}(h:Cl md ops l){j:Nat}(hj:j∈Region.ready md ops l):Cl md ops (l.setIfInBounds j true):=fun k ok hk hl e he hb=>by
 refine getD_set_true ?_
 by_cases ejk:j=k
 ·subst ejk
  obtain⟨_,oj,hoj,hall⟩:=mem_ready.1 hj
  rw [hk] at hoj
  cases hoj
  exact hall e he hb
 ·refine h k ok hk ?_ e he hb
  rwa [getD_set_ne false ejk] at hl
def clB (md:Region.Mode) (ops:Array Oper) (listed:Array Bool):Bool:=(List.range ops.size).all fun j=>!listed.getD j false||match ops[j]? with
  | some oj=>oj.after.all fun e=>!Region.binds md e||listed.getD e.on false
  | none=>true
theorem clB_cl {listed:Array Bool}(h:clB md ops listed=true):Cl md ops listed:=fun j oj hj hl e he hb=>by
 unfold clB at h
 rw [List.all_eq_true] at h
 have:=h j (List.mem_range.2 (Array.getElem?_eq_some_iff.1 hj).1)
 rw [hl,hj] at this
 simp only [Bool.not_true,Bool.false_or,Array.all_eq_true'] at this
 have:=this e he
 rw [hb] at this
 simpa using this
def Bef (md:Region.Mode) (ops:Array Oper) (S:Array Bool→World→Prop) (i:Nat) (w:World):Prop:=∃ l:Array Bool,Cl md ops l∧l.getD i true=false∧S l w
theorem wpAnyX_first {i:Nat}{oi:Oper}{v:Value}(hi:ops[i]?=some oi) (hsel:∀ (j:Nat) (o:Oper) cs b,ops[j]?=some o→o.op≠.select cs b)
  (hQ:∀ c a w,Q (.panic c) (a.put oi.dst v) w→Q (.panic c) a w) (hm:∀ l w,S (l.setIfInBounds i true) w→S l w) :
  ∀ (fuel:Nat) (listed:Array Bool) (a:Act) (w:World),Cl md ops listed →
   (∀ j oj,ops[j]?=some oj→j≠i→listed.getD j true=false→(∀ e∈oj.after,Region.binds md e=true→e.on≠i)→oi.apart ops oj=true) →
   i∈Region.ready md ops listed→YieldsIf P ops (Bef md ops S i) oi v a→S (listed.setIfInBounds i true) w →
   wpAnyX P md ops Q S fuel (listed.setIfInBounds i true) (a.put oi.dst v) w→wpAnyX P md ops Q S (fuel+1) listed a w:=by
 intro fuel
 induction fuel with
 | zero =>
  intro listed a w hcl _ hr hy hS H
  have hun:=(mem_ready.1 hr).1
  refine⟨fun h=>(by rw [h] at hr;cases hr),fun j hj=>?_⟩
  by_cases hji:j=i
  ·subst hji;exact hy.wpOp hi ⟨listed,hcl,hun,hm _ _ hS⟩ ⟨hS,H⟩
  ·have:=ready_mono hj hji
   rw [H.1] at this
   cases this
 | succ fuel ih =>
  intro listed a w hcl hfree hr hy hS H
  have hun:=(mem_ready.1 hr).1
  refine⟨fun h=>(by rw [h] at hr;cases hr),fun j hj=>?_⟩
  by_cases hji:j=i
  ·subst hji;exact hy.wpOp hi ⟨listed,hcl,hun,hm _ _ hS⟩ ⟨hS,H⟩
  ·have h1:=H.2 j (ready_mono hj hji)
   obtain⟨hjun,oj,hoj,hall⟩:=mem_ready.1 hj
   have hnot:∀ e∈oj.after,Region.binds md e=true→e.on≠i:=fun e he hb heq=>by
    have h1:=hall e he hb
    rw [heq,getD_both hun] at h1
    cases h1
   have h2:=wpOp_putIf hoj (hfree j oj hoj hji hjun hnot) (fun cs b=>hsel i oi cs b hi) (fun cs b=>hsel j oj cs b hoj) hQ hy h1
   have hfree':∀ k ok,ops[k]?=some ok→k≠i→(listed.setIfInBounds j true).getD k true=false →
     (∀ e∈ok.after,Region.binds md e=true→e.on≠i)→oi.apart ops ok=true:=fun k ok hk hki hun hno=>by
    refine hfree k ok hk hki ?_ hno
    by_cases hjk:j=k
    ·subst hjk;exact hjun
    ·rw [getD_set_ne true hjk] at hun;exact hun
   have hcm:(listed.setIfInBounds j true).setIfInBounds i true=(listed.setIfInBounds i true).setIfInBounds j true:=Array.setIfInBounds_comm _ _ hji
   refine wpOp_mono (fun a' w' h3=>⟨hm _ _ (by rw [hcm];exact h3.2.1),ih (listed.setIfInBounds j true) a' w' (hcl.set hj) hfree' (ready_mono hr (Ne.symm hji)) h3.1 (by rw [hcm];exact h3.2.1) ?_⟩) h2
   rw [hcm]
   exact h3.2.2
theorem wp_region_X (S:Array Bool→World→Prop){id:Nat}{a:Act}{w:World}(hm:P.follows .mixedOrders=true) (h:wpAnyX P .any ops Q S ops.size (Array.replicate ops.size false) a w.drew):(Code.region id ops true).wp P Q a w :=
 wp_region_any hm (wpAny_of_X _ _ _ _ h)
theorem take_X {fuel:Nat}{listed:Array Bool}{tmps:Array Value}{w:World}(i d:Nat) (v:Value){oi:Oper}(hi:ops[i]?=some oi) (hd:oi.dst=some d)
  (hs:Region.noSelect ops=true) (hf:Region.free md ops listed i=true) (hr:(Region.ready md ops listed).contains i=true) (hc:clB md ops listed=true)
  (hQ:∀ c a w,Q (.panic c) (a.put oi.dst v) w→Q (.panic c) a w) (hm:∀ l w,S (l.setIfInBounds i true) w→S l w) (hy:YieldsIf P ops (Bef md ops S i) oi v { tmps:=tmps,defers:=[] }) (hS:S (listed.setIfInBounds i true) w)
  (h:wpAnyX P md ops Q S fuel (listed.setIfInBounds i true) { tmps:=tmps.setIfInBounds d v,defers:=[] } w):wpAnyX P md ops Q S (fuel+1) listed { tmps:=tmps,defers:=[] } w:=by
 refine wpAnyX_first hi (Region.noSelect_spec hs) hQ hm _ _ _ _ (clB_cl hc) (Region.free_spec hi hf) (by simpa using hr) hy hS ?_
 rw [hd]
 exact h
theorem only_X {f:Nat}{listed:Array Bool}{tmps:Array Value}{w:World}(i:Nat){oi:Oper}(hi:ops[i]?=some oi) (hr:Region.ready md ops listed=[i]) (hw:Region.wanted oi (yielded ops tmps)=true)
  (h:∀ K:Act→World→Prop,Shut (∀ a' w',S (listed.setIfInBounds i true) w'→wpAnyX P md ops Q S f (listed.setIfInBounds i true) a' w'→K a' w')→Oper.wp P oi { tmps:=tmps,defers:=[] } w K Q):wpAnyX P md ops Q S (f+1) listed { tmps:=tmps,defers:=[] } w:=by
 refine⟨fun h0=>(by rw [hr] at h0;cases h0),fun j hj=>?_⟩
 rw [hr] at hj
 have hji:j=i:=by simpa using hj
 subst hji
 refine wpOp_step hi fun K' hK=>?_
 rw [if_pos hw]
 exact h K' (fun a w hS hW=>hK a w ⟨hS,hW⟩)
theorem two_X {f:Nat}{listed:Array Bool}{tmps:Array Value}{w:World}(i j:Nat){oi oj:Oper}(hi:ops[i]?=some oi) (hj:ops[j]?=some oj) (hr:Region.ready md ops listed=[i,j])
  (hwi:Region.wanted oi (yielded ops tmps)=true) (hwj:Region.wanted oj (yielded ops tmps)=true)
  (h1:∀ K:Act→World→Prop,Shut (∀ a' w',S (listed.setIfInBounds i true) w'→wpAnyX P md ops Q S f (listed.setIfInBounds i true) a' w'→K a' w')→Oper.wp P oi { tmps:=tmps,defers:=[] } w K Q)
  (h2:∀ K:Act→World→Prop,Shut (∀ a' w',S (listed.setIfInBounds j true) w'→wpAnyX P md ops Q S f (listed.setIfInBounds j true) a' w'→K a' w')→Oper.wp P oj { tmps:=tmps,defers:=[] } w K Q) :
  wpAnyX P md ops Q S (f+1) listed { tmps:=tmps,defers:=[] } w:=by
 refine⟨fun h0=>(by rw [hr] at h0;cases h0),fun k hk=>?_⟩
 rw [hr] at hk
 rcases List.mem_cons.1 hk with rfl | hk
 ·refine wpOp_step hi fun K' hK=>?_
  rw [if_pos hwi]
  exact h1 K' (fun a w hS hW=>hK a w ⟨hS,hW⟩)
 ·have hkj:k=j:=by simpa using hk
  subst hkj
  refine wpOp_step hj fun K' hK=>?_
  rw [if_pos hwj]
  exact h2 K' (fun a w hS hW=>hK a w ⟨hS,hW⟩)
theorem done_X {listed:Array Bool}{a:Act}{w:World}(hr:Region.ready md ops listed=[]) (h:Q .normal a w):∀ fuel,wpAnyX P md ops Q S fuel listed a w
 | 0=>⟨hr,h⟩
 | _+1=>⟨fun _=>h,by rw [hr];simp⟩
def Till (k:Nat) (S0:World→Prop):Array Bool→World→Prop:=fun l w=>l.getD k false=false→S0 w
theorem Till.mono {k i:Nat}{S0:World→Prop}(h:i≠k):∀ l w,Till k S0 (l.setIfInBounds i true) w→Till k S0 l w:=fun l w hS h0=>hS (by rw [getD_set_ne false h];exact h0)
theorem Till.bef {md:Region.Mode}{ops:Array Oper}{k i:Nat}{S0:World→Prop}{w:World}(h:Bef md ops (Till k S0) i w) (hk:(match ops[k]? with | some ok=>ok.after.any fun e=>Region.binds md e&&e.on==i | none=>false)=true):S0 w:=by
 obtain⟨l,hcl,hun,hS⟩:=h
 refine hS ?_
 cases hl:l.getD k false with
 | false=>rfl
 | true =>
  cases hok:ops[k]? with
  | none=>rw [hok] at hk;cases hk
  | some ok =>
   rw [hok] at hk
   simp only [Array.any_eq_true'] at hk
   obtain⟨e,he,hq⟩:=hk
   rw [Bool.and_eq_true,beq_iff_eq] at hq
   obtain⟨hb,rfl⟩:=hq
   have h2:=hcl k ok hok hl e he hb
   rw [getD_both hun] at h2
   cases h2
end
end Go.Proofs.YtlpejbbmemhloaaGreatDoor.Rg
namespace Go.Proofs.YtlpejbbmemhloaaGreatDoor.Hp
open Lib (hid)
set_option linter.unusedVariables false
set_option linter.unusedSimpArgs false
set_option maxRecDepth 100000
open Go.ChangeShapes Go.WideShapes Go.ChangeAt Go.RowKit
open Rg
open Ar Nd
open BigFrame
def HVar (w W:World) (g:Nat) (A:Option Addr) (n c:Nat) (L:List Ce):Prop:=W.heap[g]?=some (.cells #[.int .u32 16,.slice A n c] 25 (0,0))∧MkC w W (.slice A n c) L∧w.heap.size≤g
def KVar (w W:World) (g:Nat) (y:Kd):Prop:=W.heap[g]?=some (.cells (ecK y).toArray 45 (0,0))∧w.heap.size≤g
theorem HVar.go {w W W':World}{g n c:Nat}{A:Option Addr}{L:List Ce}(h:HVar w W g A n c L) (hb:Below W.heap.size W W'):HVar w W' g A n c L:=⟨(hb.block _ (row_lt h.1)).trans h.1,h.2.1.go hb,h.2.2⟩
theorem KVar.go {w W W':World}{g:Nat}{y:Kd}(h:KVar w W g y) (hb:Below W.heap.size W W'):KVar w W' g y:=⟨(hb.block _ (row_lt h.1)).trans h.1,h.2⟩
theorem new_vars {w w2:World}{A:Option Addr}{n c:Nat}{L:List Ce}(y:Kd) (h:MkC w w2 (.slice A n c) L) (hw:w.heap.size≤w2.heap.size) :
  HVar w (((w2.alloc (.cells #[.int .u32 16,.slice A n c] 25)).alloc (.cells zKd 45)).setRow (w2.heap.size+1) (ecK y).toArray) w2.heap.size A n c L ∧
  KVar w (((w2.alloc (.cells #[.int .u32 16,.slice A n c] 25)).alloc (.cells zKd 45)).setRow (w2.heap.size+1) (ecK y).toArray) (w2.heap.size+1) y ∧
  Below w2.heap.size w2 (((w2.alloc (.cells #[.int .u32 16,.slice A n c] 25)).alloc (.cells zKd 45)).setRow (w2.heap.size+1) (ecK y).toArray):=by
 obtain⟨R1,R2,S2,Z2⟩:=two_new w2 #[.int .u32 16,.slice A n c] zKd 25 45
 have hb:Below w2.heap.size w2 (((w2.alloc (.cells #[.int .u32 16,.slice A n c] 25)).alloc (.cells zKd 45)).setRow (w2.heap.size+1) (ecK y).toArray):=S2.trans (below_of_grown (grown_row _ _ _) (by rw [Z2];omega) (by omega))
 exact⟨⟨row_other (grown_row _ _ _) R1 (by omega),h.go hb,hw⟩,⟨setRow_at R2,by omega⟩,hb⟩
def LvR (w:World) (g1:Nat) (y:Kd) (s4 s5:Value) (wx:World):Prop :=
 ∃ (g4:Nat) (A:Option Addr) (n c:Nat),s4=.pointer (some ⟨g4,0,none⟩)∧s5=.int .i64 0∧HVar w wx g1 A n c H1∧KVar w wx (g1+1) y∧KVar w wx g4 y∧Below w.heap.size w wx∧g1+1<g4
structure Lv (w W:World) (g1 g4 g6:Nat) (A:Option Addr) (n c:Nat) (L:List Ce) (x2 x4 x6:Kd):Prop where
 v1:HVar w W g1 A n c L
 v2:KVar w W (g1+1) x2
 v4:KVar w W g4 x4
 v6:KVar w W g6 x6
 b:Below w.heap.size w W
 ne4:g4≠g1
 ne6:g6≠g1
theorem Lv.go {w W W':World}{g1 g4 g6 n c:Nat}{A:Option Addr}{L:List Ce}{x2 x4 x6:Kd}(h:Lv w W g1 g4 g6 A n c L x2 x4 x6) (hb:Below W.heap.size W W'):Lv w W' g1 g4 g6 A n c L x2 x4 x6 :=
 ⟨h.v1.go hb,h.v2.go hb,h.v4.go hb,h.v6.go hb,h.b.trans (hb.mono h.b.size),h.ne4,h.ne6⟩
theorem KVar.num {w W:World}{g:Nat}{y:Kd}(h:KVar w W g y):W.cell? ⟨g,1,none⟩=some (.int .u32 y.n):=(cell_of_row _ _ 1 _ _ _ h.1).trans (by unfold ecK;rfl)
theorem Lv.put {w W:World}{g1 g4 g6 n c n' c':Nat}{A A':Option Addr}{L L':List Ce}{x2 x4 x6:Kd}(h:Lv w W g1 g4 g6 A n c L x2 x4 x6) (hm:MkC w W (.slice A' n' c') L') :
  Lv w ((W.setCell ⟨g1,0,none⟩ (.int .u32 16)).setCell ⟨g1,1,none⟩ (.slice A' n' c')) g1 g4 g6 A' n' c' L' x2 x4 x6:=by
 have r1:=row_set (cs:=[.int .u32 16,.slice A n c]) (i:=0) (u:=.int .u32 16) h.v1.1
 have r2:=row_set (cs:=[.int .u32 16,.slice A n c]) (i:=1) (u:=.slice A' n' c') r1
 have hgg:=grown_trans (grown_cell W g1 0 (.int .u32 16)) (grown_cell (W.setCell ⟨g1,0,none⟩ (.int .u32 16)) g1 1 (.slice A' n' c'))
 exact⟨⟨r2,MkC.two hm h.v1.1 h.v1.2.2,h.v1.2.2⟩,⟨row_other hgg h.v2.1 (by omega),h.v2.2⟩,⟨row_other hgg h.v4.1 h.ne4,h.v4.2⟩,⟨row_other hgg h.v6.1 h.ne6,h.v6.2⟩,h.b.trans (below_of_grown hgg h.b.size h.v1.2.2),h.ne4,h.ne6⟩
set_option maxHeartbeats 8000000 in
theorem lives_h {tK tS:TypeId}{w:World}(hk:Kc tK tS w.heap.size w):Calls Tryz.prog 13 #[] w fun e w'=>e=.returned (.bool true)∧Below w.heap.size w w':=by
 have HK:=hid hk
 clear hk
 go_enter Tryz.func13,Tryz.ntmps13
 go_wp2_with fail
 refine (leaf_a w).mono ?_
 rintro e w1 ⟨cs,rfl,hb1,hn1⟩
 go_wp2_with fail
 refine (put_0 HK.out hb1 cs hn1).mono ?_
 rintro e w2 ⟨A2,n2,c2,rfl,hm2⟩
 have HB2:=hid (hb1.trans (hm2.2.mono hb1.size))
 have HM2:=hid (hm2.since hb1)
 clear hb1 hn1 hm2
 obtain⟨y2,hy2⟩:∃ y2:Kd,(⟨⟨#[]⟩,2,hsD lfD⟩:Kd)=y2:=⟨_,rfl⟩
 rw [hy2]
 have HSZ2:=hid (show zKd.size=(ecK y2).toArray.size from (show zKd.size=34 from rfl).trans (ecK_sz y2))
 have HR2:=hid (two_new w2 #[.int .u32 16,.slice A2 n2 c2] zKd 25 45).2.1
 have HY2:=hid hy2
 clear hy2
 obtain⟨V1,V2,V3⟩:=new_vars y2 (w:=w) (HM2.out) (HB2.out.size)
 have HV1:=hid V1
 have HV2:=hid V2
 have HV3:=hid (HB2.out.trans (V3.mono HB2.out.size))
 clear V1 V2 V3
 go_wp2_with (refine wpList_store_row rfl 45 (.tmp 2) (.tmp 23) rfl (w2.heap.size+1) (ecK y2).toArray rfl rfl 45 _ HR2.out (infoKa y2) HSZ2.out (all_of_one (ecK_one y2)) ?_)
 change Code.wp _ _ _ _ (((w2.alloc (.cells #[.int .u32 16,.slice A2 n2 c2] 25)).alloc (.cells zKd 45)).setRow (w2.heap.size+1) (ecK y2).toArray)
 generalize ((w2.alloc (.cells #[.int .u32 16,.slice A2 n2 c2] 25)).alloc (.cells zKd 45)).setRow (w2.heap.size+1) (ecK y2).toArray=w3 at *
 generalize w2.heap.size=g1 at *
 clear HSZ2 HR2 HM2 HB2
 go_cut [4,5] from 18 to 150 (fun s4 s5 wx=>Hid (LvR w g1 y2 s4 s5 wx))
 case first =>
  rename_i JJ KK hJJ hKK
  refine wp_region_X (Till 2 (fun w':World=>w'.heap[g1]?=some (.cells #[.int .u32 16,.slice A2 n2 c2] 25 (0,0)))) (by kernel_rfl) ?_
  have HV1:=hid (HV1.out.go (show Below w3.heap.size w3 w3.drew from (Below.refl _ _).drew))
  have HV2:=hid (HV2.out.go (show Below w3.heap.size w3 w3.drew from (Below.refl _ _).drew))
  have HB:=hid (HV3.out.trans ((show Below w3.heap.size w3 w3.drew from (Below.refl _ _).drew).mono HV3.out.size))
  clear HV3
  generalize w3.drew=w4 at *
  refine take_X 0 26 (.agg #[.int .u32 16,.slice A2 n2 c2]) rfl (by rfl) (by kernel_rfl) (by kernel_rfl) (by kernel_rfl) (by kernel_rfl) (fun _ _ _ h=>h) (Till.mono (by decide)) (Or.inl ⟨by rfl,fun w' hB=>row_runO 25 rfl g1 rfl _ _ (0,0) _ (Till.bef hB (by kernel_rfl)) Tryz.underlying25 rfl (by kernel_rfl)⟩) (fun _=>HV1.out.1) ?_
  try simp only [Act.put,Gb4a,Gb4b,Gb4c]
  refine two_X 1 7 rfl rfl (by kernel_rfl) (by rfl) (by rfl) (fun K hK=>?_) (fun K hK=>?_)
  ·skip
   go_wp2_with fail
   refine (leaf_a _).mono ?_
   rintro e' w5 ⟨cs,rfl,hb,hn⟩
   have HV1:=hid (HV1.out.go hb)
   have HV2:=hid (HV2.out.go hb)
   have HB:=hid (HB.out.trans (hb.mono HB.out.size))
   have HN:=hid hn
   clear hb hn
   refine hK.out _ _ (fun _=>HV1.out.1) ?_
   clear hK K
   try simp only [Act.put,Gb4a,Gb4b,Gb4c]
   refine two_X 2 7 rfl rfl (by kernel_rfl) (by rfl) (by rfl) (fun K hK=>?_) (fun K hK=>?_)
   ·skip
    have HP:=hid (put_1 HK.out HB.out cs HN.out A2 n2 c2 (HIn.of_mk HV1.out.2.1 (by decide) sm1))
    rw [HY2.out] at HP
    go_wp2_with fail
    refine HP.out.mono ?_
    rintro e' w6 ⟨A6,n6,c6,rfl,hm⟩
    have HM:=hid (hm.since HB.out)
    have hb:=hm.2
    have HV1:=hid (HV1.out.go hb)
    have HV2:=hid (HV2.out.go hb)
    have HB:=hid (HB.out.trans (hb.mono HB.out.size))
    clear hb hm HP HN
    refine hK.out _ _ (fun h=>absurd h (by decide)) ?_
    clear hK K
    try simp only [Act.put,Gb4a,Gb4b,Gb4c]
    refine take_X 3 25 (.tuple #[.agg #[.int .u32 16,.slice A6 n6 c6],.agg (ecK y2).toArray,.int .i64 0]) rfl (by rfl) (by kernel_rfl) (by kernel_rfl) (by kernel_rfl) (by kernel_rfl) (fun _ _ _ h=>h) (Till.mono (by decide)) (Or.inl ⟨by rfl,fun w' _=>by go_simp⟩) (fun h=>absurd h (by decide)) ?_
    try simp only [Act.put,Gb4a,Gb4b,Gb4c]
    refine take_X 4 29 (.agg #[.int .u32 16,.slice A6 n6 c6]) rfl (by rfl) (by kernel_rfl) (by kernel_rfl) (by kernel_rfl) (by kernel_rfl) (fun _ _ _ h=>h) (Till.mono (by decide)) (Or.inl ⟨by rfl,fun w' _=>by go_simp⟩) (fun h=>absurd h (by decide)) ?_
    try simp only [Act.put,Gb4a,Gb4b,Gb4c]
    refine take_X 5 30 (.agg (ecK y2).toArray) rfl (by rfl) (by kernel_rfl) (by kernel_rfl) (by kernel_rfl) (by kernel_rfl) (fun _ _ _ h=>h) (Till.mono (by decide)) (Or.inl ⟨by rfl,fun w' _=>by go_simp⟩) (fun h=>absurd h (by decide)) ?_
    try simp only [Act.put,Gb4a,Gb4b,Gb4c]
    refine take_X 6 31 (.int .i64 0) rfl (by rfl) (by kernel_rfl) (by kernel_rfl) (by kernel_rfl) (by kernel_rfl) (fun _ _ _ h=>h) (Till.mono (by decide)) (Or.inl ⟨by rfl,fun w' _=>by go_simp⟩) (fun h=>absurd h (by decide)) ?_
    try simp only [Act.put,Gb4a,Gb4b,Gb4c]
    refine only_X 7 rfl (by kernel_rfl) (by rfl) (fun K hK=>?_)
    have hb:Below w6.heap.size w6 (w6.alloc (.cells zKd 45)):=(Below.refl _ _).alloc (Nat.le_refl _) _
    have HX:=hid (heap_alloc_new w6 (.cells zKd 45))
    have HG:=hid (show g1+1<w6.heap.size from row_lt HV2.out.1)
    have HGW:=hid (show w.heap.size≤w6.heap.size from HB.out.size)
    have HM:=hid (HM.out.go hb)
    have HV1:=hid (HV1.out.go hb)
    have HV2:=hid (HV2.out.go hb)
    have HB:=hid (HB.out.trans (hb.mono HB.out.size))
    clear hb
    go_simp
    generalize w6.alloc _=w7 at *
    generalize w6.heap.size=g4 at *
    refine hK.out _ _ (fun h=>absurd h (by decide)) ?_
    clear hK K
    try simp only [Act.put,Gb4a,Gb4b,Gb4c]
    refine only_X 8 rfl (by kernel_rfl) (by rfl) (fun K hK=>?_)
    have k0:=cell_of_row _ _ 0 _ _ _ HV1.out.1
    have k1:=cell_of_row _ _ 1 _ _ _ HV1.out.1
    simp only [List.getElem?_toArray,List.getElem?_cons_zero,List.getElem?_cons_succ] at k0 k1
    have f0:=frozen_of_row w7 g1 0 _ _ HV1.out.1
    have f1:=frozen_of_row w7 g1 1 _ _ HV1.out.1
    have l0:=row_lt HV1.out.1
    go_wp2_with fail
    have r1:=row_set (cs:=[.int .u32 16,.slice A2 n2 c2]) (i:=0) (u:=.int .u32 16) HV1.out.1
    have r2:((w7.setCell ⟨g1,0,none⟩ (.int .u32 16)).setCell ⟨g1,1,none⟩ (.slice A6 n6 c6)).heap[g1]?=some (.cells #[.int .u32 16,.slice A6 n6 c6] 25 (0,0)):=row_set (cs:=[.int .u32 16,.slice A2 n2 c2]) (i:=1) (u:=.slice A6 n6 c6) r1
    have hgg:=grown_trans (grown_cell w7 g1 0 (.int .u32 16)) (grown_cell (w7.setCell ⟨g1,0,none⟩ (.int .u32 16)) g1 1 (.slice A6 n6 c6))
    have HV2:=hid (show KVar w ((w7.setCell ⟨g1,0,none⟩ (.int .u32 16)).setCell ⟨g1,1,none⟩ (.slice A6 n6 c6)) (g1+1) y2 from⟨row_other hgg HV2.out.1 (by omega),HV2.out.2⟩)
    have HX:=hid (row_other hgg HX.out (by have:=HG.out;omega))
    have HB:=hid (HB.out.trans (below_of_grown hgg HB.out.size HV1.out.2.2))
    have HV1:=hid (show HVar w ((w7.setCell ⟨g1,0,none⟩ (.int .u32 16)).setCell ⟨g1,1,none⟩ (.slice A6 n6 c6)) g1 A6 n6 c6 H1 from⟨r2,MkC.two HM.out HV1.out.1 HV1.out.2.2,HV1.out.2.2⟩)
    clear k0 k1 f0 f1 l0 r1 r2 hgg HM
    generalize (w7.setCell ⟨g1,0,none⟩ (.int .u32 16)).setCell ⟨g1,1,none⟩ (.slice A6 n6 c6)=w8 at *
    refine hK.out _ _ (fun h=>absurd h (by decide)) ?_
    clear hK K
    try simp only [Act.put,Gb4a,Gb4b,Gb4c]
    refine only_X 9 rfl (by kernel_rfl) (by rfl) (fun K hK=>?_)
    refine wp_store_row 45 (.tmp 4) (.tmp 30) rfl g4 (ecK y2).toArray rfl rfl 45 _ HX.out (infoKa y2) ((show zKd.size=34 from rfl).trans (ecK_sz y2)) (all_of_one (ecK_one y2)) ?_
    have hgg:=grown_row w8 g4 (ecK y2).toArray
    have HL:=hid (show LvR w g1 y2 (.pointer (some ⟨g4,0,none⟩)) (.int .i64 0) (w8.setRow g4 (ecK y2).toArray) from⟨g4,A6,n6,c6,rfl,rfl,⟨row_other hgg HV1.out.1 (by have:=HG.out;omega),HV1.out.2.1.grownQ hgg HGW.out (Mk.off HV1.out.2.1 HX.out (by decide)),HV1.out.2.2⟩,⟨row_other hgg HV2.out.1 (by have:=HG.out;omega),HV2.out.2⟩,⟨setRow_at HX.out,HGW.out⟩,HB.out.trans (below_of_grown hgg HB.out.size HGW.out),HG.out⟩)
    clear hgg HX HV1 HV2 HB HG HGW
    generalize w8.setRow g4 (ecK y2).toArray=w9 at *
    refine hK.out _ _ (fun h=>absurd h (by decide)) ?_
    clear hK K
    try simp only [Act.put,Gb4a,Gb4b,Gb4c]
    refine take_X 10 5 (.int .i64 0) rfl (by rfl) (by kernel_rfl) (by kernel_rfl) (by kernel_rfl) (by kernel_rfl) (fun _ _ _ h=>h) (Till.mono (by decide)) (Or.inl ⟨by rfl,fun w' _=>by go_simp⟩) (fun h=>absurd h (by decide)) ?_
    try simp only [Act.put,Gb4a,Gb4b,Gb4c]
    refine done_X (by kernel_rfl) ?_ _
    refine hKK _ _ (Met.intro (hJJ _ _ ?_))
    (repeat apply Exists.intro)
    exact⟨HL.out,rfl⟩
   ·skip
    have hb:Below w5.heap.size w5 (w5.alloc (.cells zKd 45)):=(Below.refl _ _).alloc (Nat.le_refl _) _
    have HX:=hid (heap_alloc_new w5 (.cells zKd 45))
    have HG:=hid (show g1+1<w5.heap.size from row_lt HV2.out.1)
    have HGW:=hid (show w.heap.size≤w5.heap.size from HB.out.size)
    have HV1:=hid (HV1.out.go hb)
    have HV2:=hid (HV2.out.go hb)
    have HN:=hid (HN.out.below hb)
    have HB:=hid (HB.out.trans (hb.mono HB.out.size))
    clear hb
    go_simp
    generalize w5.alloc _=w6 at *
    generalize w5.heap.size=g4 at *
    refine hK.out _ _ (fun _=>HV1.out.1) ?_
    clear hK K
    try simp only [Act.put,Gb4a,Gb4b,Gb4c]
    refine only_X 2 rfl (by kernel_rfl) (by rfl) (fun K hK=>?_)
    have HP:=hid (put_1 HK.out HB.out cs HN.out A2 n2 c2 (HIn.of_mk HV1.out.2.1 (by decide) sm1))
    rw [HY2.out] at HP
    go_wp2_with fail
    refine HP.out.mono ?_
    rintro e' w7 ⟨A6,n6,c6,rfl,hm⟩
    have HM:=hid (hm.since HB.out)
    have hb:=hm.2
    have HV1:=hid (HV1.out.go hb)
    have HV2:=hid (HV2.out.go hb)
    have HX:=hid ((hb.block _ (row_lt HX.out)).trans HX.out)
    have HB:=hid (HB.out.trans (hb.mono HB.out.size))
    clear hb hm HP HN
    refine hK.out _ _ (fun h=>absurd h (by decide)) ?_
    clear hK K
    try simp only [Act.put,Gb4a,Gb4b,Gb4c]
    refine take_X 3 25 (.tuple #[.agg #[.int .u32 16,.slice A6 n6 c6],.agg (ecK y2).toArray,.int .i64 0]) rfl (by rfl) (by kernel_rfl) (by kernel_rfl) (by kernel_rfl) (by kernel_rfl) (fun _ _ _ h=>h) (Till.mono (by decide)) (Or.inl ⟨by rfl,fun w' _=>by go_simp⟩) (fun h=>absurd h (by decide)) ?_
    try simp only [Act.put,Gb4a,Gb4b,Gb4c]
    refine take_X 4 29 (.agg #[.int .u32 16,.slice A6 n6 c6]) rfl (by rfl) (by kernel_rfl) (by kernel_rfl) (by kernel_rfl) (by kernel_rfl) (fun _ _ _ h=>h) (Till.mono (by decide)) (Or.inl ⟨by rfl,fun w' _=>by go_simp⟩) (fun h=>absurd h (by decide)) ?_
    try simp only [Act.put,Gb4a,Gb4b,Gb4c]
    refine take_X 5 30 (.agg (ecK y2).toArray) rfl (by rfl) (by kernel_rfl) (by kernel_rfl) (by kernel_rfl) (by kernel_rfl) (fun _ _ _ h=>h) (Till.mono (by decide)) (Or.inl ⟨by rfl,fun w' _=>by go_simp⟩) (fun h=>absurd h (by decide)) ?_
    try simp only [Act.put,Gb4a,Gb4b,Gb4c]
    refine take_X 6 31 (.int .i64 0) rfl (by rfl) (by kernel_rfl) (by kernel_rfl) (by kernel_rfl) (by kernel_rfl) (fun _ _ _ h=>h) (Till.mono (by decide)) (Or.inl ⟨by rfl,fun w' _=>by go_simp⟩) (fun h=>absurd h (by decide)) ?_
    try simp only [Act.put,Gb4a,Gb4b,Gb4c]
    refine only_X 8 rfl (by kernel_rfl) (by rfl) (fun K hK=>?_)
    have k0:=cell_of_row _ _ 0 _ _ _ HV1.out.1
    have k1:=cell_of_row _ _ 1 _ _ _ HV1.out.1
    simp only [List.getElem?_toArray,List.getElem?_cons_zero,List.getElem?_cons_succ] at k0 k1
    have f0:=frozen_of_row w7 g1 0 _ _ HV1.out.1
    have f1:=frozen_of_row w7 g1 1 _ _ HV1.out.1
    have l0:=row_lt HV1.out.1
    go_wp2_with fail
    have r1:=row_set (cs:=[.int .u32 16,.slice A2 n2 c2]) (i:=0) (u:=.int .u32 16) HV1.out.1
    have r2:((w7.setCell ⟨g1,0,none⟩ (.int .u32 16)).setCell ⟨g1,1,none⟩ (.slice A6 n6 c6)).heap[g1]?=some (.cells #[.int .u32 16,.slice A6 n6 c6] 25 (0,0)):=row_set (cs:=[.int .u32 16,.slice A2 n2 c2]) (i:=1) (u:=.slice A6 n6 c6) r1
    have hgg:=grown_trans (grown_cell w7 g1 0 (.int .u32 16)) (grown_cell (w7.setCell ⟨g1,0,none⟩ (.int .u32 16)) g1 1 (.slice A6 n6 c6))
    have HV2:=hid (show KVar w ((w7.setCell ⟨g1,0,none⟩ (.int .u32 16)).setCell ⟨g1,1,none⟩ (.slice A6 n6 c6)) (g1+1) y2 from⟨row_other hgg HV2.out.1 (by omega),HV2.out.2⟩)
    have HX:=hid (row_other hgg HX.out (by have:=HG.out;omega))
    have HB:=hid (HB.out.trans (below_of_grown hgg HB.out.size HV1.out.2.2))
    have HV1:=hid (show HVar w ((w7.setCell ⟨g1,0,none⟩ (.int .u32 16)).setCell ⟨g1,1,none⟩ (.slice A6 n6 c6)) g1 A6 n6 c6 H1 from⟨r2,MkC.two HM.out HV1.out.1 HV1.out.2.2,HV1.out.2.2⟩)
    clear k0 k1 f0 f1 l0 r1 r2 hgg HM
    generalize (w7.setCell ⟨g1,0,none⟩ (.int .u32 16)).setCell ⟨g1,1,none⟩ (.slice A6 n6 c6)=w8 at *
    refine hK.out _ _ (fun h=>absurd h (by decide)) ?_
    clear hK K
    try simp only [Act.put,Gb4a,Gb4b,Gb4c]
    refine only_X 9 rfl (by kernel_rfl) (by rfl) (fun K hK=>?_)
    refine wp_store_row 45 (.tmp 4) (.tmp 30) rfl g4 (ecK y2).toArray rfl rfl 45 _ HX.out (infoKa y2) ((show zKd.size=34 from rfl).trans (ecK_sz y2)) (all_of_one (ecK_one y2)) ?_
    have hgg:=grown_row w8 g4 (ecK y2).toArray
    have HL:=hid (show LvR w g1 y2 (.pointer (some ⟨g4,0,none⟩)) (.int .i64 0) (w8.setRow g4 (ecK y2).toArray) from⟨g4,A6,n6,c6,rfl,rfl,⟨row_other hgg HV1.out.1 (by have:=HG.out;omega),HV1.out.2.1.grownQ hgg HGW.out (Mk.off HV1.out.2.1 HX.out (by decide)),HV1.out.2.2⟩,⟨row_other hgg HV2.out.1 (by have:=HG.out;omega),HV2.out.2⟩,⟨setRow_at HX.out,HGW.out⟩,HB.out.trans (below_of_grown hgg HB.out.size HGW.out),HG.out⟩)
    clear hgg HX HV1 HV2 HB HG HGW
    generalize w8.setRow g4 (ecK y2).toArray=w9 at *
    refine hK.out _ _ (fun h=>absurd h (by decide)) ?_
    clear hK K
    try simp only [Act.put,Gb4a,Gb4b,Gb4c]
    refine take_X 10 5 (.int .i64 0) rfl (by rfl) (by kernel_rfl) (by kernel_rfl) (by kernel_rfl) (by kernel_rfl) (fun _ _ _ h=>h) (Till.mono (by decide)) (Or.inl ⟨by rfl,fun w' _=>by go_simp⟩) (fun h=>absurd h (by decide)) ?_
    try simp only [Act.put,Gb4a,Gb4b,Gb4c]
    refine done_X (by kernel_rfl) ?_ _
    refine hKK _ _ (Met.intro (hJJ _ _ ?_))
    (repeat apply Exists.intro)
    exact⟨HL.out,rfl⟩
  ·skip
   have hb:Below w4.heap.size w4 (w4.alloc (.cells zKd 45)):=(Below.refl _ _).alloc (Nat.le_refl _) _
   have HX:=hid (heap_alloc_new w4 (.cells zKd 45))
   have HG:=hid (show g1+1<w4.heap.size from row_lt HV2.out.1)
   have HGW:=hid (show w.heap.size≤w4.heap.size from HB.out.size)
   have HV1:=hid (HV1.out.go hb)
   have HV2:=hid (HV2.out.go hb)
   have HB:=hid (HB.out.trans (hb.mono HB.out.size))
   clear hb
   go_simp
   generalize w4.alloc _=w5 at *
   generalize w4.heap.size=g4 at *
   refine hK.out _ _ (fun _=>HV1.out.1) ?_
   clear hK K
   try simp only [Act.put,Gb4a,Gb4b,Gb4c]
   refine only_X 1 rfl (by kernel_rfl) (by rfl) (fun K hK=>?_)
   go_wp2_with fail
   refine (leaf_a _).mono ?_
   rintro e' w6 ⟨cs,rfl,hb,hn⟩
   have HV1:=hid (HV1.out.go hb)
   have HV2:=hid (HV2.out.go hb)
   have HX:=hid ((hb.block _ (row_lt HX.out)).trans HX.out)
   have HB:=hid (HB.out.trans (hb.mono HB.out.size))
   have HN:=hid hn
   clear hb hn
   refine hK.out _ _ (fun _=>HV1.out.1) ?_
   clear hK K
   try simp only [Act.put,Gb4a,Gb4b,Gb4c]
   refine only_X 2 rfl (by kernel_rfl) (by rfl) (fun K hK=>?_)
   have HP:=hid (put_1 HK.out HB.out cs HN.out A2 n2 c2 (HIn.of_mk HV1.out.2.1 (by decide) sm1))
   rw [HY2.out] at HP
   go_wp2_with fail
   refine HP.out.mono ?_
   rintro e' w7 ⟨A6,n6,c6,rfl,hm⟩
   have HM:=hid (hm.since HB.out)
   have hb:=hm.2
   have HV1:=hid (HV1.out.go hb)
   have HV2:=hid (HV2.out.go hb)
   have HX:=hid ((hb.block _ (row_lt HX.out)).trans HX.out)
   have HB:=hid (HB.out.trans (hb.mono HB.out.size))
   clear hb hm HP HN
   refine hK.out _ _ (fun h=>absurd h (by decide)) ?_
   clear hK K
   try simp only [Act.put,Gb4a,Gb4b,Gb4c]
   refine take_X 3 25 (.tuple #[.agg #[.int .u32 16,.slice A6 n6 c6],.agg (ecK y2).toArray,.int .i64 0]) rfl (by rfl) (by kernel_rfl) (by kernel_rfl) (by kernel_rfl) (by kernel_rfl) (fun _ _ _ h=>h) (Till.mono (by decide)) (Or.inl ⟨by rfl,fun w' _=>by go_simp⟩) (fun h=>absurd h (by decide)) ?_
   try simp only [Act.put,Gb4a,Gb4b,Gb4c]
   refine take_X 4 29 (.agg #[.int .u32 16,.slice A6 n6 c6]) rfl (by rfl) (by kernel_rfl) (by kernel_rfl) (by kernel_rfl) (by kernel_rfl) (fun _ _ _ h=>h) (Till.mono (by decide)) (Or.inl ⟨by rfl,fun w' _=>by go_simp⟩) (fun h=>absurd h (by decide)) ?_
   try simp only [Act.put,Gb4a,Gb4b,Gb4c]
   refine take_X 5 30 (.agg (ecK y2).toArray) rfl (by rfl) (by kernel_rfl) (by kernel_rfl) (by kernel_rfl) (by kernel_rfl) (fun _ _ _ h=>h) (Till.mono (by decide)) (Or.inl ⟨by rfl,fun w' _=>by go_simp⟩) (fun h=>absurd h (by decide)) ?_
   try simp only [Act.put,Gb4a,Gb4b,Gb4c]
   refine take_X 6 31 (.int .i64 0) rfl (by rfl) (by kernel_rfl) (by kernel_rfl) (by kernel_rfl) (by kernel_rfl) (fun _ _ _ h=>h) (Till.mono (by decide)) (Or.inl ⟨by rfl,fun w' _=>by go_simp⟩) (fun h=>absurd h (by decide)) ?_
   try simp only [Act.put,Gb4a,Gb4b,Gb4c]
   refine only_X 8 rfl (by kernel_rfl) (by rfl) (fun K hK=>?_)
   have k0:=cell_of_row _ _ 0 _ _ _ HV1.out.1
   have k1:=cell_of_row _ _ 1 _ _ _ HV1.out.1
   simp only [List.getElem?_toArray,List.getElem?_cons_zero,List.getElem?_cons_succ] at k0 k1
   have f0:=frozen_of_row w7 g1 0 _ _ HV1.out.1
   have f1:=frozen_of_row w7 g1 1 _ _ HV1.out.1
   have l0:=row_lt HV1.out.1
   go_wp2_with fail
   have r1:=row_set (cs:=[.int .u32 16,.slice A2 n2 c2]) (i:=0) (u:=.int .u32 16) HV1.out.1
   have r2:((w7.setCell ⟨g1,0,none⟩ (.int .u32 16)).setCell ⟨g1,1,none⟩ (.slice A6 n6 c6)).heap[g1]?=some (.cells #[.int .u32 16,.slice A6 n6 c6] 25 (0,0)):=row_set (cs:=[.int .u32 16,.slice A2 n2 c2]) (i:=1) (u:=.slice A6 n6 c6) r1
   have hgg:=grown_trans (grown_cell w7 g1 0 (.int .u32 16)) (grown_cell (w7.setCell ⟨g1,0,none⟩ (.int .u32 16)) g1 1 (.slice A6 n6 c6))
   have HV2:=hid (show KVar w ((w7.setCell ⟨g1,0,none⟩ (.int .u32 16)).setCell ⟨g1,1,none⟩ (.slice A6 n6 c6)) (g1+1) y2 from⟨row_other hgg HV2.out.1 (by omega),HV2.out.2⟩)
   have HX:=hid (row_other hgg HX.out (by have:=HG.out;omega))
   have HB:=hid (HB.out.trans (below_of_grown hgg HB.out.size HV1.out.2.2))
   have HV1:=hid (show HVar w ((w7.setCell ⟨g1,0,none⟩ (.int .u32 16)).setCell ⟨g1,1,none⟩ (.slice A6 n6 c6)) g1 A6 n6 c6 H1 from⟨r2,MkC.two HM.out HV1.out.1 HV1.out.2.2,HV1.out.2.2⟩)
   clear k0 k1 f0 f1 l0 r1 r2 hgg HM
   generalize (w7.setCell ⟨g1,0,none⟩ (.int .u32 16)).setCell ⟨g1,1,none⟩ (.slice A6 n6 c6)=w8 at *
   refine hK.out _ _ (fun h=>absurd h (by decide)) ?_
   clear hK K
   try simp only [Act.put,Gb4a,Gb4b,Gb4c]
   refine only_X 9 rfl (by kernel_rfl) (by rfl) (fun K hK=>?_)
   refine wp_store_row 45 (.tmp 4) (.tmp 30) rfl g4 (ecK y2).toArray rfl rfl 45 _ HX.out (infoKa y2) ((show zKd.size=34 from rfl).trans (ecK_sz y2)) (all_of_one (ecK_one y2)) ?_
   have hgg:=grown_row w8 g4 (ecK y2).toArray
   have HL:=hid (show LvR w g1 y2 (.pointer (some ⟨g4,0,none⟩)) (.int .i64 0) (w8.setRow g4 (ecK y2).toArray) from⟨g4,A6,n6,c6,rfl,rfl,⟨row_other hgg HV1.out.1 (by have:=HG.out;omega),HV1.out.2.1.grownQ hgg HGW.out (Mk.off HV1.out.2.1 HX.out (by decide)),HV1.out.2.2⟩,⟨row_other hgg HV2.out.1 (by have:=HG.out;omega),HV2.out.2⟩,⟨setRow_at HX.out,HGW.out⟩,HB.out.trans (below_of_grown hgg HB.out.size HGW.out),HG.out⟩)
   clear hgg HX HV1 HV2 HB HG HGW
   generalize w8.setRow g4 (ecK y2).toArray=w9 at *
   refine hK.out _ _ (fun h=>absurd h (by decide)) ?_
   clear hK K
   try simp only [Act.put,Gb4a,Gb4b,Gb4c]
   refine take_X 10 5 (.int .i64 0) rfl (by rfl) (by kernel_rfl) (by kernel_rfl) (by kernel_rfl) (by kernel_rfl) (fun _ _ _ h=>h) (Till.mono (by decide)) (Or.inl ⟨by rfl,fun w' _=>by go_simp⟩) (fun h=>absurd h (by decide)) ?_
   try simp only [Act.put,Gb4a,Gb4b,Gb4c]
   refine done_X (by kernel_rfl) ?_ _
   refine hKK _ _ (Met.intro (hJJ _ _ ?_))
   (repeat apply Exists.intro)
   exact⟨HL.out,rfl⟩
 case rest =>
  obtain⟨g4,A,n,c,rfl,rfl,V1,V2,V4,B,hg4⟩:=Hid.out hcut
  clear hcut HV1 HV2 HV3
  obtain⟨yb,hyb⟩:∃ yb:Kd,brK=yb:=⟨_,rfl⟩
  have HR2:=hid (show (wc.setCell ⟨g1+1,0,none⟩ (.string ⟨#[97]⟩)).heap[g1+1]?=some (.cells (ecK yb).toArray 45 (0,0)) from (row_set (i:=0) (u:=.string ⟨#[97]⟩) V2.1).trans (by rw [show (ecK y2).set 0 (.string ⟨#[97]⟩)=ecK yb by rw [← HY2.out,← hyb];rfl]))
  have hgg:=grown_cell wc (g1+1) 0 (.string ⟨#[97]⟩)
  have HV1:=hid (show HVar w (wc.setCell ⟨g1+1,0,none⟩ (.string ⟨#[97]⟩)) g1 A n c H1 from⟨row_other hgg V1.1 (by omega),V1.2.1.grownQ hgg (by have:=V2.2;omega) (Mk.off V1.2.1 V2.1 (by decide)),V1.2.2⟩)
  have HV4:=hid (show KVar w (wc.setCell ⟨g1+1,0,none⟩ (.string ⟨#[97]⟩)) g4 y2 from⟨row_other hgg V4.1 (by omega),V4.2⟩)
  have HB:=hid (B.trans (below_of_grown hgg B.size V2.2))
  have HW2:=hid V2.2
  have HBR:=hid hyb
  have k0:wc.cell? ⟨g1+1,0,none⟩=some (.string y2.k):=(cell_of_row _ _ 0 _ _ _ V2.1).trans (by unfold ecK;rfl)
  have f0:=frozen_of_row wc (g1+1) 0 _ _ V2.1
  have l0:=row_lt V2.1
  have j0:=cell_of_row _ _ 0 _ _ _ V1.1
  have j1:=cell_of_row _ _ 1 _ _ _ V1.1
  simp only [List.getElem?_toArray,List.getElem?_cons_zero,List.getElem?_cons_succ] at j0 j1
  have i0:=row_lt V1.1
  clear V1 V2 V4 B hgg hyb
  go_wp2_with (first | (refine wpList_load_row rfl 45 (.tmp 2) rfl (g1+1) rfl 45 (ecK yb).toArray (0,0) _ HR2.out Tryz.underlying45 rfl (infoKa yb) ?_) | (refine wpList_plain rfl (fun K1 hK1=>op_oneK (.tmp 35) yb rfl rfl (hK1 _ _ ?_))))
  have hb5:Below (wc.setCell ⟨g1+1,0,none⟩ (.string ⟨#[97]⟩)).heap.size (wc.setCell ⟨g1+1,0,none⟩ (.string ⟨#[97]⟩)) ((wc.setCell ⟨g1+1,0,none⟩ (.string ⟨#[97]⟩)).alloc (.cells (ecK yb).toArray 45)):=(Below.refl _ _).alloc (Nat.le_refl _) _
  have HNW:=hid (show NdAt ((wc.setCell ⟨g1+1,0,none⟩ (.string ⟨#[97]⟩)).alloc (.cells (ecK yb).toArray 45)) #[.int .u8 2,.slice none 0 0,.slice (some ⟨wc.heap.size,0,none⟩) 1 1,.slice none 0 0] brN from⟨none,0,0,some ⟨wc.heap.size,0,none⟩,1,1,none,0,0,rfl,rfl,rfl,rfl,by decide,by decide,by decide,Ls.nil,by have:=Ls.new (enc:=ecK) (k:=34) (wc.setCell ⟨g1+1,0,none⟩ (.string ⟨#[97]⟩)) yb 45 ((wc.setCell ⟨g1+1,0,none⟩ (.string ⟨#[97]⟩)).alloc (.cells (ecK yb).toArray 45)).heap.size (by simp);rw [← HBR.out] at this ⊢;rw [show brN.K=[brK] from rfl];simpa using this,Ls.nil⟩)
  have HV1:=hid (HV1.out.go hb5)
  have HV2:=hid (show KVar w ((wc.setCell ⟨g1+1,0,none⟩ (.string ⟨#[97]⟩)).alloc (.cells (ecK yb).toArray 45)) (g1+1) yb from KVar.go ⟨HR2.out,by have:=HW2.out;omega⟩ hb5)
  have HV4:=hid (HV4.out.go hb5)
  have HB:=hid (HB.out.trans (hb5.mono HB.out.size))
  clear hb5 k0 f0 l0 j0 j1 i0 HR2 HW2
  change Calls _ _ _ ((wc.setCell ⟨g1+1,0,none⟩ (.string ⟨#[97]⟩)).alloc (.cells (ecK yb).toArray 45)) _
  generalize wc.heap.size=gs at *
  generalize ((wc.setCell ⟨g1+1,0,none⟩ (.string ⟨#[97]⟩)).alloc (.cells (ecK yb).toArray 45))=w5 at *
  refine (put_2 HK.out HB.out _ HNW.out A n c (HIn.of_mk HV1.out.2.1 (by decide) sm1)).mono ?_
  rintro e w6 ⟨A6,n6,c6,rfl,hm⟩
  have HM:=hid (hm.since HB.out)
  have hb:=hm.2
  obtain⟨y3,hy3⟩:∃ y3:Kd,(⟨⟨#[]⟩,3,hsD brD⟩:Kd)=y3:=⟨_,rfl⟩
  rw [hy3]
  have HY3:=hid hy3
  clear hy3
  have HV1:=hid (HV1.out.go hb)
  have HV2:=hid (HV2.out.go hb)
  have HV4:=hid (HV4.out.go hb)
  have HB:=hid (HB.out.trans (hb.mono HB.out.size))
  clear hb hm HNW
  have hg16:g1+1<w6.heap.size:=row_lt HV2.out.1
  have hg46:g4<w6.heap.size:=row_lt HV4.out.1
  have HLP:=hid (Lv.put (show Lv w w6 g1 g4 (g1+1) A n c H1 yb y2 yb from⟨HV1.out,HV2.out,HV4.out,HV2.out,HB.out,by omega,by omega⟩) HM.out)
  have hz6:((w6.setCell ⟨g1,0,none⟩ (.int .u32 16)).setCell ⟨g1,1,none⟩ (.slice A6 n6 c6)).heap.size=w6.heap.size:=by simp
  have hb7:Below ((w6.setCell ⟨g1,0,none⟩ (.int .u32 16)).setCell ⟨g1,1,none⟩ (.slice A6 n6 c6)).heap.size ((w6.setCell ⟨g1,0,none⟩ (.int .u32 16)).setCell ⟨g1,1,none⟩ (.slice A6 n6 c6)) (((w6.setCell ⟨g1,0,none⟩ (.int .u32 16)).setCell ⟨g1,1,none⟩ (.slice A6 n6 c6)).alloc (.cells zKd 45)):=(Below.refl _ _).alloc (Nat.le_refl _) _
  have HL7:=hid (HLP.out.go hb7)
  have hX:=heap_alloc_new ((w6.setCell ⟨g1,0,none⟩ (.int .u32 16)).setCell ⟨g1,1,none⟩ (.slice A6 n6 c6)) (.cells zKd 45)
  rw [hz6] at hX
  have HX7:=hid hX
  clear hz6 HLP
  have HG6:=hid (show w.heap.size≤w6.heap.size from HB.out.size)
  have k0:=cell_of_row _ _ 0 _ _ _ HV1.out.1
  have k1:=cell_of_row _ _ 1 _ _ _ HV1.out.1
  simp only [List.getElem?_toArray,List.getElem?_cons_zero,List.getElem?_cons_succ] at k0 k1
  have f0:=frozen_of_row w6 g1 0 _ _ HV1.out.1
  have f1:=frozen_of_row w6 g1 1 _ _ HV1.out.1
  have l0:=row_lt HV1.out.1
  have hgr:=grown_row (((w6.setCell ⟨g1,0,none⟩ (.int .u32 16)).setCell ⟨g1,1,none⟩ (.slice A6 n6 c6)).alloc (.cells zKd 45)) w6.heap.size (ecK y3).toArray
  have HL:=hid (show Lv w ((((w6.setCell ⟨g1,0,none⟩ (.int .u32 16)).setCell ⟨g1,1,none⟩ (.slice A6 n6 c6)).alloc (.cells zKd 45)).setRow w6.heap.size (ecK y3).toArray) g1 g4 w6.heap.size A6 n6 c6 H2 yb y2 y3 from⟨⟨row_other hgr HL7.out.v1.1 (by omega),HL7.out.v1.2.1.grownQ hgr HG6.out (Mk.off HL7.out.v1.2.1 HX7.out (by decide)),HL7.out.v1.2.2⟩,⟨row_other hgr HL7.out.v2.1 (by omega),HL7.out.v2.2⟩,⟨row_other hgr HL7.out.v4.1 (by omega),HL7.out.v4.2⟩,⟨setRow_at HX7.out,HG6.out⟩,HL7.out.b.trans (below_of_grown hgr HL7.out.b.size HG6.out),by omega,by omega⟩)
  have N2:=hid (show yb.n=2 by rw [← HBR.out];rfl)
  have N4:=hid (show y2.n=2 by rw [← HY2.out])
  have N6:=hid (show y3.n=3 by rw [← HY3.out])
  clear hX hb7 hgr
  go_wp2_with (refine wpList_store_row rfl 45 (.tmp 6) (.tmp 40) rfl w6.heap.size (ecK y3).toArray rfl rfl 45 _ HX7.out (infoKa y3) ((show zKd.size=34 from rfl).trans (ecK_sz y3)) (all_of_one (ecK_one y3)) ?_;change wpList _ _ _ _ _ ((((w6.setCell ⟨g1,0,none⟩ (.int .u32 16)).setCell ⟨g1,1,none⟩ (.slice A6 n6 c6)).alloc (.cells zKd 45)).setRow w6.heap.size (ecK y3).toArray);clear k0 k1 f0 f1 l0 hg16 hg46 HX7 HL7 HV1 HV2 HV4 HB HM HG6;generalize ((((w6.setCell ⟨g1,0,none⟩ (.int .u32 16)).setCell ⟨g1,1,none⟩ (.slice A6 n6 c6)).alloc (.cells zKd 45)).setRow w6.heap.size (ecK y3).toArray)=w7 at *;generalize w6.heap.size=g6 at *;have k0:=cell_of_row _ _ 0 _ _ _ HL.out.v1.1;have k1:=cell_of_row _ _ 1 _ _ _ HL.out.v1.1;simp only [List.getElem?_toArray,List.getElem?_cons_zero,List.getElem?_cons_succ] at k0 k1;have f0:=frozen_of_row w7 g1 0 _ _ HL.out.v1.1;have f1:=frozen_of_row w7 g1 1 _ _ HL.out.v1.1;have l0:=row_lt HL.out.v1.1;have kn:w7.cell? ⟨g1+1,1,none⟩=some (.int .u32 2):=(HL.out.v2.num).trans (by rw [N2.out];rfl);have mn:w7.cell? ⟨g4,1,none⟩=some (.int .u32 2):=(HL.out.v4.num).trans (by rw [N4.out];rfl);have bn:w7.cell? ⟨g6,1,none⟩=some (.int .u32 3):=(HL.out.v6.num).trans (by rw [N6.out];rfl);have l4:=row_lt HL.out.v4.1;have l6:=row_lt HL.out.v6.1;have lk:=row_lt HL.out.v2.1)
  refine (hold_2 HK.out HL.out.b A6 n6 c6 (HIn.of_mk HL.out.v1.2.1 (by decide) (sm23 0))).mono ?_
  rintro e w8 ⟨A8,n8,c8,rfl,hm⟩
  have HM:=hid (hm.since HL.out.b)
  have HL:=hid (HL.out.go hm.2)
  clear hm
  clear k0 k1 f0 f1 l0 kn bn mn l4 l6 lk
  have k0:=cell_of_row _ _ 0 _ _ _ HL.out.v1.1
  have k1:=cell_of_row _ _ 1 _ _ _ HL.out.v1.1
  simp only [List.getElem?_toArray,List.getElem?_cons_zero,List.getElem?_cons_succ] at k0 k1
  have f0:=frozen_of_row w8 g1 0 _ _ HL.out.v1.1
  have f1:=frozen_of_row w8 g1 1 _ _ HL.out.v1.1
  have l0:=row_lt HL.out.v1.1
  have kn:w8.cell? ⟨g1+1,1,none⟩=some (.int .u32 2):=(HL.out.v2.num).trans (by rw [N2.out];rfl)
  have mn:w8.cell? ⟨g4,1,none⟩=some (.int .u32 2):=(HL.out.v4.num).trans (by rw [N4.out];rfl)
  have bn:w8.cell? ⟨g6,1,none⟩=some (.int .u32 3):=(HL.out.v6.num).trans (by rw [N6.out];rfl)
  have l4:=row_lt HL.out.v4.1
  have l6:=row_lt HL.out.v6.1
  have lk:=row_lt HL.out.v2.1
  have HL:=hid (Lv.put HL.out HM.out)
  go_wp2_with fail
  change Calls _ _ _ ((w8.setCell ⟨g1,0,none⟩ (.int .u32 16)).setCell ⟨g1,1,none⟩ (.slice A8 n8 c8)) _
  clear k0 k1 f0 f1 l0 kn bn mn l4 l6 lk HM
  generalize ((w8.setCell ⟨g1,0,none⟩ (.int .u32 16)).setCell ⟨g1,1,none⟩ (.slice A8 n8 c8))=w9 at *
  refine (free_3 HK.out HL.out.b A8 n8 c8 (HIn.of_mk HL.out.v1.2.1 (by decide) (sm23 1))).mono ?_
  rintro e w10 ⟨rfl,hb⟩
  have HL:=hid (HL.out.go hb)
  clear hb
  have k0:=cell_of_row _ _ 0 _ _ _ HL.out.v1.1
  have k1:=cell_of_row _ _ 1 _ _ _ HL.out.v1.1
  simp only [List.getElem?_toArray,List.getElem?_cons_zero,List.getElem?_cons_succ] at k0 k1
  have f0:=frozen_of_row w10 g1 0 _ _ HL.out.v1.1
  have f1:=frozen_of_row w10 g1 1 _ _ HL.out.v1.1
  have l0:=row_lt HL.out.v1.1
  have kn:w10.cell? ⟨g1+1,1,none⟩=some (.int .u32 2):=(HL.out.v2.num).trans (by rw [N2.out];rfl)
  have mn:w10.cell? ⟨g4,1,none⟩=some (.int .u32 2):=(HL.out.v4.num).trans (by rw [N4.out];rfl)
  have bn:w10.cell? ⟨g6,1,none⟩=some (.int .u32 3):=(HL.out.v6.num).trans (by rw [N6.out];rfl)
  have l4:=row_lt HL.out.v4.1
  have l6:=row_lt HL.out.v6.1
  have lk:=row_lt HL.out.v2.1
  go_wp2_with fail
  clear k0 k1 f0 f1 l0 kn bn mn l4 l6 lk
  refine (drop_2 HK.out HL.out.b A8 n8 c8 (HIn.of_mk HL.out.v1.2.1 (by decide) (sm23 1))).mono ?_
  rintro e w11 ⟨sz,A11,n11,c11,rfl,hb⟩
  have HL:=hid (HL.out.go hb)
  clear hb
  have k0:=cell_of_row _ _ 0 _ _ _ HL.out.v1.1
  have k1:=cell_of_row _ _ 1 _ _ _ HL.out.v1.1
  simp only [List.getElem?_toArray,List.getElem?_cons_zero,List.getElem?_cons_succ] at k0 k1
  have f0:=frozen_of_row w11 g1 0 _ _ HL.out.v1.1
  have f1:=frozen_of_row w11 g1 1 _ _ HL.out.v1.1
  have l0:=row_lt HL.out.v1.1
  have kn:w11.cell? ⟨g1+1,1,none⟩=some (.int .u32 2):=(HL.out.v2.num).trans (by rw [N2.out];rfl)
  have mn:w11.cell? ⟨g4,1,none⟩=some (.int .u32 2):=(HL.out.v4.num).trans (by rw [N4.out];rfl)
  have bn:w11.cell? ⟨g6,1,none⟩=some (.int .u32 3):=(HL.out.v6.num).trans (by rw [N6.out];rfl)
  have l4:=row_lt HL.out.v4.1
  have l6:=row_lt HL.out.v6.1
  have lk:=row_lt HL.out.v2.1
  have HL:=hid (HL.out.go (show Below w11.heap.size w11 (w11.alloc (.cells #[.int .u32 sz,.slice A11 n11 c11] 25)) from (Below.refl _ _).alloc (Nat.le_refl _) _))
  go_wp2_with fail
  change Calls _ _ _ (w11.alloc (.cells #[.int .u32 sz,.slice A11 n11 c11] 25)) _
  clear k0 k1 f0 f1 l0 kn bn mn l4 l6 lk
  generalize w11.heap.size=g11 at *
  generalize (w11.alloc (.cells #[.int .u32 sz,.slice A11 n11 c11] 25))=w12 at *
  refine (get_3 HK.out HL.out.b A8 n8 c8 (HIn.of_mk HL.out.v1.2.1 (by decide) (sm23 1))).mono ?_
  rintro e w13 ⟨cs13,rfl,vI,vK,vV,rfl,ho1,ho2,ho3⟩
  have HL:=hid (HL.out.go ho1.2)
  obtain⟨AI,nI,cI,rfl⟩:=own_shape ho1.1
  obtain⟨AV,nV,cV,rfl⟩:=own_shape ho3.1
  obtain⟨AK,cK,rfl⟩:∃ A c,vK=.slice A 1 c:=(by obtain⟨A,c,h,_⟩:=ho2.ls ecK_len;exact⟨A,c,h⟩)
  clear ho1 ho2 ho3
  have k0:=cell_of_row _ _ 0 _ _ _ HL.out.v1.1
  have k1:=cell_of_row _ _ 1 _ _ _ HL.out.v1.1
  simp only [List.getElem?_toArray,List.getElem?_cons_zero,List.getElem?_cons_succ] at k0 k1
  have f0:=frozen_of_row w13 g1 0 _ _ HL.out.v1.1
  have f1:=frozen_of_row w13 g1 1 _ _ HL.out.v1.1
  have l0:=row_lt HL.out.v1.1
  have kn:w13.cell? ⟨g1+1,1,none⟩=some (.int .u32 2):=(HL.out.v2.num).trans (by rw [N2.out];rfl)
  have mn:w13.cell? ⟨g4,1,none⟩=some (.int .u32 2):=(HL.out.v4.num).trans (by rw [N4.out];rfl)
  have bn:w13.cell? ⟨g6,1,none⟩=some (.int .u32 3):=(HL.out.v6.num).trans (by rw [N6.out];rfl)
  have l4:=row_lt HL.out.v4.1
  have l6:=row_lt HL.out.v6.1
  have lk:=row_lt HL.out.v2.1
  have hb13:Below w13.heap.size w13 (w13.alloc (.cells #[.int .u8 brN.kd,.slice AI nI cI,.slice AK 1 cK,.slice AV nV cV] 31)):=(Below.refl _ _).alloc (Nat.le_refl _) _
  have HL:=hid (HL.out.go hb13)
  clear hb13
  have HN13:=hid (heap_alloc_new w13 (.cells #[.int .u8 brN.kd,.slice AI nI cI,.slice AK 1 cK,.slice AV nV cV] 31))
  go_wp2_with fail
  change Calls _ _ _ (w13.alloc (.cells #[.int .u8 brN.kd,.slice AI nI cI,.slice AK 1 cK,.slice AV nV cV] 31)) _
  clear k0 k1 f0 f1 l0 kn bn mn l4 l6 lk
  generalize w13.heap.size=g13 at *
  generalize (w13.alloc (.cells #[.int .u8 brN.kd,.slice AI nI cI,.slice AK 1 cK,.slice AV nV cV] 31))=w14 at *
  refine (held_3 HK.out HL.out.b A8 n8 c8 (HIn.of_mk HL.out.v1.2.1 (by decide) (sm23 1))).mono ?_
  rintro e w15 ⟨rfl,hb⟩
  have HL:=hid (HL.out.go hb)
  have HN13:=hid ((hb.block _ (row_lt HN13.out)).trans HN13.out)
  clear hb
  have k0:=cell_of_row _ _ 0 _ _ _ HL.out.v1.1
  have k1:=cell_of_row _ _ 1 _ _ _ HL.out.v1.1
  simp only [List.getElem?_toArray,List.getElem?_cons_zero,List.getElem?_cons_succ] at k0 k1
  have f0:=frozen_of_row w15 g1 0 _ _ HL.out.v1.1
  have f1:=frozen_of_row w15 g1 1 _ _ HL.out.v1.1
  have l0:=row_lt HL.out.v1.1
  have kn:w15.cell? ⟨g1+1,1,none⟩=some (.int .u32 2):=(HL.out.v2.num).trans (by rw [N2.out];rfl)
  have mn:w15.cell? ⟨g4,1,none⟩=some (.int .u32 2):=(HL.out.v4.num).trans (by rw [N4.out];rfl)
  have bn:w15.cell? ⟨g6,1,none⟩=some (.int .u32 3):=(HL.out.v6.num).trans (by rw [N6.out];rfl)
  have l4:=row_lt HL.out.v4.1
  have l6:=row_lt HL.out.v6.1
  have lk:=row_lt HL.out.v2.1
  go_wp2_with fail
  clear k0 k1 f0 f1 l0 kn bn mn l4 l6 lk
  refine (drop_3 HK.out HL.out.b A8 n8 c8 (HIn.of_mk HL.out.v1.2.1 (by decide) (sm23 1))).mono ?_
  rintro e w16 ⟨A16,c16,rfl,hb⟩
  have HL:=hid (HL.out.go hb)
  have HN13:=hid ((hb.block _ (row_lt HN13.out)).trans HN13.out)
  clear hb
  have k0:=cell_of_row _ _ 0 _ _ _ HL.out.v1.1
  have k1:=cell_of_row _ _ 1 _ _ _ HL.out.v1.1
  simp only [List.getElem?_toArray,List.getElem?_cons_zero,List.getElem?_cons_succ] at k0 k1
  have f0:=frozen_of_row w16 g1 0 _ _ HL.out.v1.1
  have f1:=frozen_of_row w16 g1 1 _ _ HL.out.v1.1
  have l0:=row_lt HL.out.v1.1
  have kn:w16.cell? ⟨g1+1,1,none⟩=some (.int .u32 2):=(HL.out.v2.num).trans (by rw [N2.out];rfl)
  have mn:w16.cell? ⟨g4,1,none⟩=some (.int .u32 2):=(HL.out.v4.num).trans (by rw [N4.out];rfl)
  have bn:w16.cell? ⟨g6,1,none⟩=some (.int .u32 3):=(HL.out.v6.num).trans (by rw [N6.out];rfl)
  have l4:=row_lt HL.out.v4.1
  have l6:=row_lt HL.out.v6.1
  have lk:=row_lt HL.out.v2.1
  have gk:w16.cell? ⟨g13,2,none⟩=some (.slice AK 1 cK):=cell_of_row _ _ 2 _ _ _ HN13.out
  have lg:=row_lt HN13.out
  have hn4:g4≠g1:=HL.out.ne4
  have hn6:g6≠g1:=HL.out.ne6
  have hn13:g13≠g1:=fun e=>by
   have h1:=HN13.out
   rw [e,HL.out.v1.1] at h1
   simp only [Option.some.injEq,Obj.cells.injEq] at h1
   exact absurd h1.2.1 (by decide)
  have HB:=hid (HL.out.b.trans (below_of_grown (grown_trans (grown_cell w16 g1 0 (.int .u32 16)) (grown_cell (w16.setCell ⟨g1,0,none⟩ (.int .u32 16)) g1 1 (.slice A16 0 c16))) HL.out.b.size HL.out.v1.2.2))
  go_wp2_with fail
  go_ret
  exact⟨rfl,HB.out⟩
theorem HIn.cell {w:World}{A:Option Addr}{n i:Nat}{L:List Ce}{c:Ce}(h:HIn w A n L) (hc:L[i]?=some c):∃ b o,A=some ⟨b,o,none⟩∧b<w.heap.size∧w.cell? ⟨b,o+i*3,none⟩=some (.int .u32 c.num)∧w.cell? ⟨b,o+i*3+1,none⟩=some (.string c.d)∧w.cell? ⟨b,o+i*3+2,none⟩=some (.int .i64 c.r):=by
 obtain⟨b,o,e,hb,hr⟩:=h.ls i c hc
 exact⟨b,o,e,hb,hr 0 _ rfl,hr 1 _ rfl,hr 2 _ rfl⟩
theorem okH.room {sz:Nat}{L:List Ce}(h:okH sz L):L.length+2≤sz:=by
 rcases Nat.eq_zero_or_pos L.length with h0 | h0
 ·have:=h.lo;omega
 ·have hl:L[L.length-1]?=some (L[L.length-1]'(by omega)):=List.getElem?_eq_getElem _
  have h1:=h.cs.ge _ _ (by omega) hl
  have h2:=(h.cs _ _ (by omega) hl).2.1
  omega
end Go.Proofs.YtlpejbbmemhloaaGreatDoor.Hp
namespace Go.Proofs.YtlpejbbmemhloaaGreatDoor.Fr
open Lib (hid)
set_option linter.unusedVariables false
open Go.ChangeShapes Go.WideShapes Go.RowKit Go.Deep
open Ar
theorem list_of {α:Type}{p:Nat→α→Prop}:∀ n:Nat,(∀ i,i<n→∃ x,p i x)→∃ D:List α,D.length=n∧∀ i x,D[i]?=some x→p i x
 | 0,_=>⟨[],rfl,fun i x h=>by simp at h⟩
 | n+1,h=>by
  obtain⟨D,h1,h2⟩:=list_of n fun i hi=>h i (by omega)
  obtain⟨y,hy⟩:=h n (by omega)
  refine⟨D++[y],by simp [h1],fun i x hx=>?_⟩
  rcases Nat.lt_or_ge i n with hlt | hge
  ·rw [List.getElem?_append_left (by omega)] at hx;exact h2 i x hx
  ·rw [List.getElem?_append_right (by omega),h1] at hx
   have:i=n:=by
    rcases Nat.lt_or_ge n i with h3 | h3
    ·rw [List.getElem?_eq_none (by simp;omega)] at hx;cases hx
    ·omega
   subst this
   simp at hx;subst hx;exact hy
section
variable {H:Type}{enc:TypeId×Value→H}{P:Program}{w:World}{base:Nat}{spare:Nat→Bool}{held:Bool}
theorem open_ls {α:Type}(en:α→List Value) (k:Nat){t e:TypeId}{fuel:Nat}{v:Value}{x:DataW H×List MemPlace}(ht:P.underlying t=some (.slice e)) (hk:P.cellsOf e=k) (hk0:0<k)
  (hr:∀ n cs y,cs.length=k→DataW.trod enc P w base spare held n e cs=some y→∃ x:α,cs=en x) (hv:v.cells=#[v]) (h:DataW.trod enc P w base spare held fuel t v.cells.toList=some x) :
  (v=.slice none 0 0∧x.1=.nil)∨∃ A n c m D,v=.slice A n c∧n=List.length D∧n≤c∧c≤maxLen∧Ls en k w w.heap.size A D∧∃ E F,x.1=.slice E F∧E.length=n∧E.length+F.length=m:=by
 rw [hv] at h
 rcases open_slice ht h with ⟨h1,h2⟩ | ⟨a,len,cap,m,n,D,Pl,hcs,hb,hl,hm,hmm,hx,hi⟩
 ·left;simp at h1;exact⟨h1,by rw [h2]⟩
 ·right
  have hlm:len≤m:=by rw [hmm];split<;>omega
  simp at hcs
  rw [hk] at hi
  obtain⟨L,hL1,hL2⟩:=list_of (α:=α) (p:=fun i x=>∃ b o,(some a:Option Addr)=some ⟨b,o,none⟩∧b<w.heap.size∧w.rangeAt b (o+i*k) (en x)) len fun i hil=>by
   have hspot:a.spot=none:=by
    obtain⟨cs',h1,h2⟩:=hi 0 (by omega)
    obtain⟨_,hlen,hcell⟩:=World.cells?_some h1
    have hc0:=(hcell 0 hk0).trans (List.getElem?_eq_getElem (by omega))
    rw [add_add,Nat.zero_mul] at hc0
    have:=World.cell?_spot hc0
    simpa [Addr.add] using this
   obtain⟨cs',h1,h2⟩:=hi i (by omega)
   obtain⟨_,hlen,hcell⟩:=World.cells?_some h1
   obtain⟨x,rfl⟩:=hr _ _ _ hlen h2
   have hc0:=(hcell 0 hk0).trans (List.getElem?_eq_getElem (by omega))
   rw [add_add] at hc0
   obtain⟨b,o,spot⟩:=a
   simp only at hspot
   subst hspot
   refine⟨x,b,o,rfl,?_,fun j u hu=>?_⟩
   ·have:=World.block_lt_of_cell? w _ hc0
    rw [Ar.add_plain] at this
    exact this
   ·have hj:j<k:=by rw [← hlen];exact (List.getElem?_eq_some_iff.1 hu).1
    have:=hcell j hj
    rw [add_add,Ar.add_plain,← Nat.add_assoc,hu] at this
    exact this
  refine⟨some a,len,cap,m,L,hcs,hL1.symm,hl,hm,hL2,(List.range len).map D,(List.range (m-len)).map fun j=>D (len+j),by rw [hx],by simp,?_⟩
  simp
  omega
end
set_option linter.unusedVariables false
set_option linter.unusedSimpArgs false
set_option maxRecDepth 100000
open Go.Joins Go.ChangeShapes Go.WideShapes Go.RowKit Go.Deep
open Ar
open Nd (Kd Vo ecK ecV NdAt Wd fix_of)
open Pk (u8s u8s_length)
section
variable {H:Type}{enc:TypeId×Value→H}{w:World}{base:Nat}{spare:Nat→Bool}{held:Bool}
theorem cU:Tryz.prog.cellsOf 22=1:=by kernel_rfl
theorem cS:Tryz.prog.cellsOf 9=1:=by kernel_rfl
theorem rB:reachBytes=140737488351232:=by kernel_rfl
theorem wf_u32 {z:Int}(h:(Lit.int .u32 z).wf=true):∃ n:Nat,z=n∧n≤4294967295:=by
 have h1:IntKind.u32.min≤z∧z≤IntKind.u32.max:=by simpa [Lit.wf] using h
 have h2:IntKind.u32.min=0:=rfl
 have h3:IntKind.u32.max=4294967295:=rfl
 exact⟨z.toNat,by omega,by omega⟩
theorem wf_i64 {z:Int}(h:(Lit.int .i64 z).wf=true):-9223372036854775808≤z∧z≤9223372036854775807:=by
 have h1:IntKind.i64.min≤z∧z≤IntKind.i64.max:=by simpa [Lit.wf] using h
 have h2:IntKind.i64.min=-9223372036854775808:=rfl
 have h3:IntKind.i64.max=9223372036854775807:=rfl
 omega
theorem ls_map {α β:Type}{f:α→β}{en:β→List Value}{k B:Nat}{A:Option Addr}{D:List α}(h:Ls (fun x=>en (f x)) k w B A D):Ls en k w B A (D.map f):=fun i x hx=>by
 rw [List.getElem?_map] at hx
 cases hd:D[i]? with
 | none=>rw [hd] at hx;cases hx
 | some y =>
  rw [hd] at hx
  cases hx
  exact h i y hd
theorem open_ls1 {α:Type}(en:α→List Value) (k:Nat){t e:TypeId}{fuel:Nat}{v:Value}{x:DataW H×List MemPlace}(ht:Tryz.prog.underlying t=some (.slice e)) (hk:Tryz.prog.cellsOf e=k) (hk0:0<k)
  (hr:∀ n cs y,cs.length=k→DataW.trod enc Tryz.prog w base spare held n e cs=some y→∃ x:α,cs=en x) (h:DataW.trod enc Tryz.prog w base spare held fuel t [v]=some x) :
  (v=.slice none 0 0∧x.1=.nil)∨∃ A n c m D,v=.slice A n c∧n=List.length D∧n≤c∧c≤maxLen∧Ls en k w w.heap.size A D∧∃ E F,x.1=.slice E F∧E.length=n∧E.length+F.length=m:=by
 have hv:∃ u:Value,v=u∧u.cells=#[u]:=by
  rcases open_slice ht h with ⟨h1,_⟩ | ⟨a,len,cap,m,n,D,Pl,h1,_⟩
  ·simp at h1;exact⟨_,h1,rfl⟩
  ·simp at h1;exact⟨_,h1,rfl⟩
 obtain⟨u,rfl,hc⟩:=hv
 exact open_ls en k ht hk hk0 hr hc (by rw [hc];exact h)
theorem each {P:Program}{ts:List TypeId}{ds:List (DataW H)}(h:(DataW.weightsEach P ts ds).all (·≤reachBytes)=true){j:Nat}{t:TypeId}{d:DataW H}(ht:ts[j]?=some t) (hd:ds[j]?=some d):∀ k∈d.weights P t,k≤reachBytes:=fun k hk=>by
 have:=List.all_eq_true.1 h _ (DataW.weights_mem_each ht hd k hk)
 simpa using this
end
end Go.Proofs.YtlpejbbmemhloaaGreatDoor.Fr
namespace Go.Proofs.YtlpejbbmemhloaaGreatDoor.Hk
open Lib (hid)
set_option linter.unusedVariables false
theorem cells_of_trod {H:Type}{enc:TypeId×Value→H}{P:Program}{w:World}{base fuel n:Nat}{spare:Nat→Bool}{held:Bool}{T e:TypeId}{cs:List Value}{l:List (BitVec 32)}{p:List MemPlace}
  (hT:P.underlying T=some (.array n e)) (he:P.underlying e=some (.int .u32)) (hc:P.cellsOf e=1) (hcT:P.cellsOf T=n)
  (h:DataW.trod enc P w base spare held fuel T cs=some (.agg (l.map fun x=>.lit (.int .u32 (vN x))),p)):cs=l.map fun x=>Value.int .u32 (vN x):=by
 obtain⟨xs,m,_,hx,hlen,hn,hel⟩:=DataW.trod_array hT h
 have hx1:(l.map fun x=>(DataW.lit (.int .u32 (vN x)):DataW H))=xs.map (·.1):=by
  have:=congrArg Prod.fst hx
  simpa using this
 have hl:l.length=n:=by have:=congrArg List.length hx1;simp at this;omega
 apply List.ext_getElem
 ·rw [List.length_map];omega
 intro i h1 h2
 have hi:i<n:=by omega
 have hd:=hel i hi
 rw [hc,Nat.mul_one,List.getElem?_eq_getElem (by omega)] at hd
 obtain⟨k,e1,e2,_⟩:=DataW.trod_int he hd
 have e3:(DataW.lit (.int .u32 (vN (l[i]'(by omega)))):DataW H)=(xs[i]'(by omega)).1:=by
  have:=congrArg (fun z=>z[i]?) hx1
  simpa [List.getElem?_eq_getElem (show i<l.length by omega),List.getElem?_eq_getElem (show i<xs.length by omega)] using this
 rw [e2] at e3
 have hk:k=vN (l[i]'(by omega)):=by simpa using e3.symm
 have e4:cs[i]=.int .u32 k:=by
  have:=congrArg (fun z=>z[0]?) e1
  simpa [List.getElem?_eq_getElem h1] using this
 rw [e4,hk,List.getElem_map]
theorem row_of_laid {P:Program}{w:World}{n:String}{g:Nat}{cs:Array Value}{l:List (BitVec 32)}{ps:List MemPlace}(hg:P.globalNamed n=some g) (hv:w.var? P n=some cs) (hcs:cs.toList=l.map fun x=>Value.int .u32 (vN x)) (hl:0<l.length)
  (hps:∀ b off,MemPlace.cell b off∈ps→∃ c t,w.heap[b]?=some (.cells c t (0,0))) (hsub:∀ x∈MemPlace.row ⟨g,0,none⟩ cs.size,x∈ps):∃ t,Row w g t l:=by
 have hsz:cs.size=l.length:=by rw [← Array.length_toList,hcs,List.length_map]
 have hmem:MemPlace.cell g 0∈ps:=hsub _ (by
  unfold MemPlace.row
  rw [List.mem_map]
  exact⟨0,by rw [List.mem_range];omega,by simp⟩)
 obtain⟨c,t,hc⟩:=hps g 0 hmem
 have hv':=hv
 simp only [World.var?,hg,Option.bind_some,hc,Option.some.injEq] at hv'
 subst hv'
 refine⟨t,?_⟩
 show w.heap[g]?=some (.cells (arr l) t (0,0))
 rw [hc]
 congr 2
 unfold arr
 rw [← hcs,Array.toArray_toList]
end Go.Proofs.YtlpejbbmemhloaaGreatDoor.Hk
namespace Go.Proofs.YtlpejbbmemhloaaGreatDoor.Fr
open Lib (hid)
set_option linter.unusedVariables false
set_option linter.unusedSimpArgs false
set_option maxRecDepth 100000
open Go.Joins Go.ChangeShapes Go.WideShapes Go.RowKit Go.Deep
open Ar Nd
open Hp (Ce ecC HIn)
structure CeW (c:Ce):Prop where
 d:c.d.size≤maxLen
 num:c.num<4294967296
 lo:-9223372036854775808≤c.r
 hi:c.r≤9223372036854775807
section
variable {H:Type}{enc:TypeId×Value→H}{w:World}{base:Nat}{spare:Nat→Bool}{held:Bool}
theorem cHp:Tryz.prog.cellsOf 25=2:=by kernel_rfl
theorem cCe:Tryz.prog.cellsOf 75=3:=by kernel_rfl
theorem cInt:Tryz.prog.cellsOf 3=1:=by kernel_rfl
theorem cLC:Tryz.prog.cellsOf 23=1:=by kernel_rfl
theorem bCe:Tryz.prog.bytesOf 75=32:=by kernel_rfl
theorem readCe {n:Nat}{cs:List Value}{y:DataW H×List MemPlace}(hl:cs.length=3) (h:DataW.trod enc Tryz.prog w base spare held n 75 cs=some y):∃ x:{ c:Ce // CeW c },cs=ecC x.1:=by
 obtain⟨xs,m,_,_,_,hxl,hf⟩:=DataW.trod_struct Tryz.underlying75 h
 have g0:DataW.trod enc Tryz.prog w base spare held m 22 ((cs.drop 0).take (Tryz.prog.cellsOf 22))=xs[0]?:=hf 0 _ rfl
 have g1:DataW.trod enc Tryz.prog w base spare held m 9 ((cs.drop 1).take (Tryz.prog.cellsOf 9))=xs[1]?:=hf 1 _ rfl
 have g2:DataW.trod enc Tryz.prog w base spare held m 3 ((cs.drop 2).take (Tryz.prog.cellsOf 3))=xs[2]?:=hf 2 _ rfl
 rw [cU] at g0
 rw [cS] at g1
 rw [cInt] at g2
 match cs,hl with
 | [v0,v1,v2],_ =>
  match xs,hxl with
  | [x0,x1,x2],_ =>
   obtain⟨z,e0,_,wz⟩:=DataW.trod_int Tryz.underlying22 (g0.trans rfl:_=some x0)
   obtain⟨s1,e1,_,l1⟩:=DataW.trod_string Tryz.underlying9 (g1.trans rfl:_=some x1)
   obtain⟨z2,e2,_,w2⟩:=DataW.trod_int Tryz.underlying3 (g2.trans rfl:_=some x2)
   obtain⟨k,rfl,hk⟩:=wf_u32 wz
   have h2:=wf_i64 w2
   simp at e0 e1 e2
   exact⟨⟨⟨k,s1,z2⟩,⟨l1,by show k<_;omega,h2.1,h2.2⟩⟩,by rw [e0,e1,e2];rfl⟩
theorem slC_of {x:DataW H×List MemPlace}{fuel:Nat}{v:Value}(h:DataW.trod enc Tryz.prog w base spare held fuel 23 [v]=some x) (hs:∀ k∈x.1.weights Tryz.prog 23,k≤reachBytes) :
  ∃ A n c L,v=.slice A n c∧HIn w A n L∧∀ c∈L,CeW c:=by
 rcases open_ls1 (fun x:{ c:Ce // CeW c }=>ecC x.1) 3 Tryz.underlying23 cCe (by decide) (fun n cs y hl h=>readCe hl h) h with ⟨h1,h2⟩ | ⟨A,n,c,m,D,h1,h2,h3,h4,h5,E,F,h6,h7,h8⟩
 ·exact⟨none,0,0,[],h1,⟨rfl,Nat.zero_le _,Ls.nil,fun c hc=>by cases hc⟩,fun c hc=>by cases hc⟩
 ·refine⟨A,n,c,D.map (·.1),h1,⟨by rw [List.length_map];exact h2,?_,ls_map (f:=fun x:{ c:Ce // CeW c }=>x.1) h5,fun c hc=>?_⟩,fun c hc=>?_⟩
  ·have:=hs ((E.length+F.length)*Tryz.prog.bytesOf 75) (by rw [h6];simp [DataW.weights,Tryz.underlying23])
   rw [bCe,rB] at this
   omega
  ·obtain⟨y,_,rfl⟩:=List.mem_map.1 hc
   have:=y.2.d
   unfold maxLen at this
   omega
  ·obtain⟨y,_,rfl⟩:=List.mem_map.1 hc
   exact y.2
theorem argHp {r:Reach}{b0:Nat}{v:Value}{d:DataW H}{p:List MemPlace}(hv:Value.okWide Tryz.prog w r b0 25 v) (h:DataW.Trod enc Tryz.prog w base spare held 25 v d p) (hs:∀ k∈d.weights Tryz.prog 25,k≤reachBytes) :
  ∃ (sz:Nat) (A:Option Addr) (n cap:Nat) (L:List Ce),v=.agg #[.int .u32 sz,.slice A n cap]∧HIn w A n L∧sz<4294967296∧∀ c∈L,CeW c:=by
 obtain⟨cs,rfl,hsz⟩:=okWide_struct Tryz.underlying25 hv
 obtain⟨l⟩:=cs
 obtain⟨fuel,hf⟩:=h
 have hl:l.length=2:=hsz.trans cHp
 have hf:DataW.trod enc Tryz.prog w base spare held fuel 25 l=some (d,p):=by simpa [Value.cells] using hf
 obtain⟨xs,m,_,hx,_,hxl,hq⟩:=DataW.trod_struct Tryz.underlying25 hf
 have g0:DataW.trod enc Tryz.prog w base spare held m 22 ((l.drop 0).take (Tryz.prog.cellsOf 22))=xs[0]?:=hq 0 _ rfl
 have g1:DataW.trod enc Tryz.prog w base spare held m 23 ((l.drop 1).take (Tryz.prog.cellsOf 23))=xs[1]?:=hq 1 _ rfl
 rw [cU] at g0
 rw [cLC] at g1
 match l,hl with
 | [v0,v1],_ =>
  match xs,hxl with
  | [x0,x1],_ =>
   obtain⟨z,e0,_,wz⟩:=DataW.trod_int Tryz.underlying22 (g0.trans rfl:_=some x0)
   obtain⟨k,rfl,hk⟩:=wf_u32 wz
   have hd:d=.agg [x0.1,x1.1]:=congrArg Prod.fst hx
   have hw:∀ (j:Nat) (t:TypeId) (y:DataW H),([22,23]:List TypeId)[j]?=some t→[x0.1,x1.1][j]?=some y→∀ k∈y.weights Tryz.prog t,k≤reachBytes:=fun j t y ht hy k hk=>by
    refine hs k ?_
    rw [hd]
    have:=DataW.weights_mem_each (P:=Tryz.prog) ht hy k hk
    simpa [DataW.weights,Tryz.underlying25] using this
   obtain⟨A1,n1,c1,L,k1,k2,k3⟩:=slC_of (x:=x1) (g1.trans rfl) (hw 1 _ _ rfl rfl)
   have k1:v1=.slice A1 n1 c1:=by simpa using k1
   simp at e0
   exact⟨k,A1,n1,c1,L,by rw [e0,k1],k2,by omega,k3⟩
end
def laid : List (String × DataW Unit) := [("unicode/utf8.acceptRanges", Rows.laid_unicode_utf8_acceptRanges), ("cambium/hash.firstState", Rows.laid_cambium_hash_firstState), ("cambium/hash.roundWords", Rows.laid_cambium_hash_roundWords), ("unicode/utf8.first", Rows.laid_unicode_utf8_first)]
theorem gF : Tryz.prog.globalNamed "cambium/hash.firstState" = some 0 := by kernel_rfl
theorem gK : Tryz.prog.globalNamed "cambium/hash.roundWords" = some 1 := by kernel_rfl
theorem tF:(Tryz.prog.globals[0]?).map (·.type)=some 107:=by kernel_rfl
theorem tK:(Tryz.prog.globals[1]?).map (·.type)=some 151:=by kernel_rfl
theorem cW1:Tryz.prog.cellsOf 22=1:=by kernel_rfl
theorem cS8:Tryz.prog.cellsOf 107=8:=by kernel_rfl
theorem cK64:Tryz.prog.cellsOf 151=64:=by kernel_rfl
theorem dF:(Rows.laid_cambium_hash_firstState:DataW Unit)=.agg (Hk.first.list.map fun x=>.lit (.int .u32 (Hk.vN x))):=by kernel_rfl
theorem dK:(Rows.laid_cambium_hash_roundWords:DataW Unit)=.agg (Hk.kc.map fun x=>.lit (.int .u32 (Hk.vN x))):=by kernel_rfl
theorem of_laid {W:World}(h:laidMetH Tryz.prog laid W):∃ tS tW,Hk.Row W 1 tW Hk.kc∧Hk.Row W 0 tS Hk.first.list:=by
 rw [MakeChecks.laidMetH_plain _ _ _ (by kernel_rfl)] at h
 obtain⟨ps,⟨ga,ta,csa,fa,pa,qa,hga,hta,hva,hda,⟨g0,t0,cs0,f0,p0,q0,hg0,ht0,hv0,hd0,⟨g1,t1,cs1,f1,p1,q1,hg1,ht1,hv1,hd1,⟨gb,tb,csb,fb,pb,qb,hgb,htb,hvb,hdb,hrb,hqb⟩,hq1⟩,hq0⟩,hqa⟩,_,hall⟩:=h
 obtain rfl:=Option.some.inj (gF.symm.trans hg0)
 obtain rfl:=Option.some.inj (gK.symm.trans hg1)
 obtain rfl:=Option.some.inj (tF.symm.trans ht0)
 obtain rfl:=Option.some.inj (tK.symm.trans ht1)
 rw [dF] at hd0
 rw [dK] at hd1
 have e0:=Hk.cells_of_trod Tryz.underlying107 Tryz.underlying22 cW1 cS8 hd0
 have e1:=Hk.cells_of_trod Tryz.underlying151 Tryz.underlying22 cW1 cK64 hd1
 have hps:∀ b off,MemPlace.cell b off∈ps→∃ c t,W.heap[b]?=some (.cells c t (0,0)):=fun b off hm=>(hall b off hm).1
 obtain⟨tS,r0⟩:=Hk.row_of_laid hg0 hv0 e0 (by decide) hps (fun x hx=>by rw [hqa,hq0];simp [hx])
 obtain⟨tW,r1⟩:=Hk.row_of_laid hg1 hv1 e1 (by decide) hps (fun x hx=>by rw [hqa,hq0,hq1];simp [hx])
 exact⟨tS,tW,r1,r0⟩
theorem kc_of {W:World}(h:laidMetH Tryz.prog laid W):∃ tK tS,Hp.Kc tK tS W.heap.size W:=by
 obtain⟨tS,tW,r1,r0⟩:=of_laid h
 exact⟨tW,tS,r1,r0,Hk.Row.lt r1,Hk.Row.lt r0⟩
end Go.Proofs.YtlpejbbmemhloaaGreatDoor.Fr
