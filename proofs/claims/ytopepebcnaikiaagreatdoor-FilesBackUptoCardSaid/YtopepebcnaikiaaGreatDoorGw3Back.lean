import Derived.Test.YtopepebcnaikiaaGreatDoorGb2
import Derived.Test.YtopepebcnaikiaaGreatDoorGb3
import Derived.Test.YtopepebcnaikiaaGreatDoorGb5
import Derived.Test.YtopepebcnaikiaaGreatDoorGw1Back
import Derived.Test.YtopepebcnaikiaaGreatDoorGw2Back
set_option maxRecDepth 100000
namespace Go.Proofs.YtopepebcnaikiaaGreatDoor
theorem Gw3Backa {α:Type}(l:List α)(i:Nat)(x:α):l.toArray.setIfInBounds i x=(l.set i x).toArray:=List.setIfInBounds_toArray ..
theorem Gw3Backb {α:Type}{a b:α}{l:List α}:(a::l).set 0 b=b::l:=List.set_cons_zero
theorem Gw3Backc {α:Type}{a b:α}{l:List α}{n:Nat}:(a::l).set (n+1) b=a::l.set n b:=List.set_cons_succ
end Go.Proofs.YtopepebcnaikiaaGreatDoor
namespace Go.Proofs.YtopepebcnaikiaaGreatDoor.Fi
open Lib (hid)
set_option linter.unusedVariables false
set_option linter.unusedSimpArgs false
set_option maxRecDepth 100000
open Go.ChangeShapes Go.WideShapes Go.ChangeAt Go.RowKit
open BigFrame
open Ar Rg
open Ino
open It (Itm Ch get und app dif rt rc enc er getV get_any under_any apply_any diff_any MkI MkC)
open Di (ItA wlk rgt rgt_iff numOf Vo vo pts lsX lsL up En NmA Walk_any Up MkE List_any)
open Ph (nb spX spB laX laD laN)
open Pk (nB nE tN tR tE number_any take_any)
variable {w w' wr:World}{A:Option Addr}{n c:Nat}{L:List Itm}
theorem dX_rgt {o:Op}(h:dX L o=0):rgt L=true:=by
 unfold dX at h
 cases hr:rgt L
 ·rw [hr] at h;cases h
 ·rfl
theorem apC_rt (h:rt L=true) (C:List Ch):rt (if rc C=true then app L C else [])=true:=by
 split
 ·exact It.rt_app h (by assumption)
 ·rfl
theorem dC_rc {o:Op}(h:rt L=true):rc (dC L o)=true:=by
 unfold dC
 split
 ·split
  ·exact It.rc_dif h (apC_rt h _)
  ·exact It.rc_dif h (apC_rt h _)
 ·rfl
theorem dT_no {o:Op}(h:dX L o≠0):dT L o=zTd:=by unfold dT;rw [if_neg h]
theorem dC_no {o:Op}(h:dX L o≠0):dC L o=[]:=by unfold dC;rw [if_neg h]
theorem apC_len (C:List Ch):(apC L C).length≤L.length+(L.length+C.length):=by
 unfold apC
 refine Nat.le_trans (It.dif_len L _) (Nat.add_le_add_left ?_ _)
 split
 ·exact It.app_len _ _
 ·exact Nat.zero_le _
theorem dC_len (o:Op):(dC L o).length≤L.length+(L.length+(chC L o).length):=by
 unfold dC
 split
 ·split
  ·have:=apC_len (L:=L) []
   rw [List.length_nil] at this
   omega
  ·exact apC_len _
 ·exact Nat.zero_le _
def AfPost (w:World) (L:List Itm) (o:Op) (e:Ending) (w':World):Prop:=∃ (A':Option Addr) (n' c':Nat) (ev:Value),e=.returned (.tuple #[.slice A' n' c',vTd (dT L o) ev,.int .i64 (dX L o)])∧n'=(aft L o).length∧n'≤c'∧c'≤maxLen∧Ls It.enc 2 w' w'.heap.size A' (aft L o)∧MkE w w' ev (dT L o).e∧Below w.heap.size w w'
set_option maxHeartbeats 2000000 in
theorem after_any (hI:ItA w A n L) (hc:n≤c) (hcm:c≤maxLen) (o:Op) (ho:o.lim):Calls Tryz.prog 14 #[.slice A n c,vOp o] w (AfPost w L o):=by
 by_cases h0:dX L o=0
 ·
  have HF:=hid (fun (w1:World) (hb:Below w.heap.size w w1)=>Do_any (hI.go hb) hc hcm o ho)
  unfold DPost at HF
  unfold AfPost
  have hr:=dX_rgt h0
  have hV:VA w A n c L:=⟨hI,hc,hcm,hr⟩
  have hrt:=hV.rt
  have hrc:=dC_rc (o:=o) hrt
  have hDL:(dC L o).length≤1099511627776:=by
   have h1:=dC_len (L:=L) o
   have h2:=chC_len hV ho
   have h3:=hI.1
   have h4:=hI.2.1
   omega
  have e1:aft L o=app L (dC L o):=by unfold aft;rw [if_pos h0]
  have HAP:=hid (fun (w1:World) (hb:Below w.heap.size w w1) (A8:Option Addr) (m8 c8:Nat) (h8:m8=(dC L o).length) (hL8:Ls Sc.enc 3 w1 w1.heap.size A8 (dC L o))=>apply_any L (dC L o) A A8 n c m8 c8 w1.heap.size w1.heap.size (hI.go hb).1 hc hcm h8 (by have:=hI.2.1;omega) (by omega) w1 (Nat.le_refl _) (Nat.le_refl _) (hI.go hb).2.2 hL8)
  rw [hrt,hrc] at HAP
  rw [h0] at HF ⊢
  rw [if_pos rfl,if_pos rfl,if_pos rfl] at HF
  rw [e1]
  generalize app L (dC L o)=Y at *
  generalize dC L o=C at *
  generalize dT L o=d at *
  obtain⟨ds,di,⟨nK,nM,nL,nS,nT⟩,de⟩:=d
  obtain⟨oK,oP,oT,oM,oO,oN,oD⟩:=o
  try dsimp only at *
  clear ho hI hr hV h0 e1 hc hcm hDL hrt hrc
  have HN:=hid (two_new w #[.int .u8 oK,.string oP,.string oT,.int .u16 oM,.int .u32 oO,.int .u32 oN,.string oD] #[.string ⟨#[]⟩,.int .u32 0,.int .u8 0,.int .u16 0,.int .u32 0,.int .u32 0,.string ⟨#[]⟩,.slice none 0 0] 31 38)
  go_enter Tryz.func14,Tryz.ntmps14
  go_wp2_with fail
  try generalize ((w.alloc (.cells #[.int .u8 oK,.string oP,.string oT,.int .u16 oM,.int .u32 oO,.int .u32 oN,.string oD] 31)).alloc (.cells #[.string ⟨#[]⟩,.int .u32 0,.int .u8 0,.int .u16 0,.int .u32 0,.int .u32 0,.string ⟨#[]⟩,.slice none 0 0] 38))=w0 at *
  have Ro:=hid HN.out.1
  have Rz:=hid HN.out.2.1
  have B:=hid HN.out.2.2.1
  clear HN
  obtain⟨co0,co1,co2,co3,co4,co5,co6⟩:=cl7 Ro.out
  obtain⟨cz0,cz1,cz2,cz3,cz4,cz5,cz6,cz7⟩:=cl8 Rz.out
  refine (HF.out _ B.out).mono ?_
  rintro e w1 ⟨v,ev,rfl,hm0,hm⟩
  have hb:=hm.2
  have HM:=hid hm
  have HC:=hid hm0
  have BK:=hid B.out
  have GK:=hid Rz.out.lt
  obtain⟨A9,c9,hv9,_⟩:=hm.ls Di.encEn_len
  generalize de.length=m9 at hv9
  subst hv9
  obtain⟨A8,c8,hv8,_⟩:=hm0.ls Sc.enc_len
  generalize C.length=m8 at hv8
  subst hv8
  clear co0 co1 co2 co3 co4 co5 co6 cz0 cz1 cz2 cz3 cz4 cz5 cz6 cz7
  replace Ro:=gg Ro hb
  replace Rz:=gg Rz hb
  replace B:=gb B hb
  clear hm hm0
  obtain⟨co0,co1,co2,co3,co4,co5,co6⟩:=cl7 Ro.out
  obtain⟨cz0,cz1,cz2,cz3,cz4,cz5,cz6,cz7⟩:=cl8 Rz.out
  clear hb
  go_wp2_with (first
   | (refine new_row rfl 38 (.tmp 8) (.tmp 17) rfl rfl #[.string ds,.int .u32 di,.int .u8 nK,.int .u16 nM,.int .u32 nL,.int .u32 nS,.string nT,.slice A9 m9 c9] rfl rfl (by kernel_rfl) rfl (row8 _ _ _ _ _ _ _ _ _ _) ?_;intro w2 M;have Dd_z:=hid Rz.out.lt;clear co0 co1 co2 co3 co4 co5 co6 cz0 cz1 cz2 cz3 cz4 cz5 cz6 cz7;replace Ro:=gg Ro M.2.1;replace Rz:=gg Rz M.2.1;replace HM:=hid (HM.out.go M.2.1);replace HC:=hid (HC.out.go M.2.1);replace B:=gb B M.2.1;have Rd:=hid M.1;obtain⟨co0,co1,co2,co3,co4,co5,co6⟩:=cl7 Ro.out;obtain⟨cz0,cz1,cz2,cz3,cz4,cz5,cz6,cz7⟩:=cl8 Rz.out;obtain⟨cd0,cd1,cd2,cd3,cd4,cd5,cd6,cd7⟩:=cl8 Rd.out;clear M)
   | (go_at_call 25;refine (HAP.out _ B.out A8 m8 c8 (mk_sl Sc.enc_len HC.out).1 (mk_sl Sc.enc_len HC.out).2.2.2).mono ?_;rintro e w3 ⟨v2,rfl,hm⟩;have hb:=hm.2;have HY:=hid hm;have BY:=hid B.out;have GY:=hid Rz.out.lt;obtain⟨A7,c7,hv7,_⟩:=hm.ls It.enc_len;generalize hm7:List.length _=m7 at hv7;subst hv7;clear co0 co1 co2 co3 co4 co5 co6 cz0 cz1 cz2 cz3 cz4 cz5 cz6 cz7 cd0 cd1 cd2 cd3 cd4 cd5 cd6 cd7;replace Ro:=gg Ro hb;replace Rz:=gg Rz hb;replace Rd:=gg Rd hb;replace HM:=hid (HM.out.go hb);replace HC:=hid (HC.out.go hb);replace B:=gb B hb;clear hm hm7;have HY2:=hid HY.out;obtain⟨co0,co1,co2,co3,co4,co5,co6⟩:=cl7 Ro.out;obtain⟨cz0,cz1,cz2,cz3,cz4,cz5,cz6,cz7⟩:=cl8 Rz.out;obtain⟨cd0,cd1,cd2,cd3,cd4,cd5,cd6,cd7⟩:=cl8 Rd.out;clear hb))
  refine wp_region_X (Till 3 (fun (w':World)=>Below w3.heap.size w3 w')) (by kernel_rfl) ?_
  have hd:Below w3.heap.size w3 w3.drew:=(Below.refl _ _).drew
  generalize hW1:w3.drew=w4 at *
  have hS:=hd
  clear hW1
  have Qo:=hid (Ro.out)
  have Qz:=hid (Rz.out)
  have Qd:=hid (Rd.out)
  clear co0 co1 co2 co3 co4 co5 co6 cz0 cz1 cz2 cz3 cz4 cz5 cz6 cz7 cd0 cd1 cd2 cd3 cd4 cd5 cd6 cd7
  replace Ro:=gg Ro hd
  replace Rz:=gg Rz hd
  replace Rd:=gg Rd hd
  replace HM:=hid (HM.out.go hd)
  replace HY2:=hid (HY2.out.go hd)
  replace B:=gb B hd
  obtain⟨co0,co1,co2,co3,co4,co5,co6⟩:=cl7 Ro.out
  obtain⟨cz0,cz1,cz2,cz3,cz4,cz5,cz6,cz7⟩:=cl8 Rz.out
  obtain⟨cd0,cd1,cd2,cd3,cd4,cd5,cd6,cd7⟩:=cl8 Rd.out
  clear hd
  refine take_X 0 36 (.slice A7 m7 c7) rfl (by rfl) (by kernel_rfl) (by kernel_rfl) (by kernel_rfl) (by kernel_rfl) (fun _ _ _ h=>h) (Till.mono (by decide)) (Or.inl ⟨by rfl,fun w' hB=>by go_simp⟩) (fun _=>hS) ?_
  simp only [Gw3Backa,Gw3Backb,Gw3Backc]
  refine take_X 1 37 (.agg #[.string ds,.int .u32 di,.int .u8 nK,.int .u16 nM,.int .u32 nL,.int .u32 nS,.string nT,.slice A9 m9 c9]) rfl (by rfl) (by kernel_rfl) (by kernel_rfl) (by kernel_rfl) (by kernel_rfl) (fun _ _ _ h=>h) (Till.mono (by decide)) (Or.inl ⟨by rfl,fun w' hB=>by have hSw:=Till.bef hB (by kernel_rfl);exact load_all 38 (.tmp 8) rfl (w1.heap.size) rfl (Qd.out.go hSw) Tryz.underlying38 rfl (by kernel_rfl)⟩) (fun _=>hS) ?_
  simp only [Gw3Backa,Gw3Backb,Gw3Backc]
  refine take_X 2 4 (.slice A7 m7 c7) rfl (by rfl) (by kernel_rfl) (by kernel_rfl) (by kernel_rfl) (by kernel_rfl) (fun _ _ _ h=>h) (Till.mono (by decide)) (Or.inl ⟨by rfl,fun w' hB=>by go_simp⟩) (fun _=>hS) ?_
  simp only [Gw3Backa,Gw3Backb,Gw3Backc]
  refine only_X 3 rfl (by kernel_rfl) (by rfl) (fun K hK=>?_)
  refine wp_store_row 38 (.tmp 5) (.tmp 37) rfl (w.heap.size+1) #[.string ds,.int .u32 di,.int .u8 nK,.int .u16 nM,.int .u32 nL,.int .u32 nS,.string nT,.slice A9 m9 c9] rfl rfl 38 #[.string ⟨#[]⟩,.int .u32 0,.int .u8 0,.int .u16 0,.int .u32 0,.int .u32 0,.string ⟨#[]⟩,.slice none 0 0] Rz.out (by kernel_rfl) rfl (row8 _ _ _ _ _ _ _ _ _ _) ?_
  clear co0 co1 co2 co3 co4 co5 co6 cz0 cz1 cz2 cz3 cz4 cz5 cz6 cz7 cd0 cd1 cd2 cd3 cd4 cd5 cd6 cd7
  replace HM:=hid (mk_row (g:=w.heap.size+1) (cs:=#[.string ds,.int .u32 di,.int .u8 nK,.int .u16 nM,.int .u32 nL,.int .u32 nS,.string nT,.slice A9 m9 c9]) HM.out BK.out (by omega) GK.out)
  replace HY2:=hid (mk_row (g:=w.heap.size+1) (cs:=#[.string ds,.int .u32 di,.int .u8 nK,.int .u16 nM,.int .u32 nL,.int .u32 nS,.string nT,.slice A9 m9 c9]) HY2.out BY.out (by omega) GY.out)
  replace B:=hid (below_setRow B.out (g:=w.heap.size+1) (by omega) #[.string ds,.int .u32 di,.int .u8 nK,.int .u16 nM,.int .u32 nL,.int .u32 nS,.string nT,.slice A9 m9 c9])
  replace Ro:=hid (Ro.out.keep (g':=w.heap.size+1) (old:=#[.string ds,.int .u32 di,.int .u8 nK,.int .u16 nM,.int .u32 nL,.int .u32 nS,.string nT,.slice A9 m9 c9]) (by omega))
  replace Rd:=hid (Rd.out.keep (g':=w.heap.size+1) (old:=#[.string ds,.int .u32 di,.int .u8 nK,.int .u16 nM,.int .u32 nL,.int .u32 nS,.string nT,.slice A9 m9 c9]) (Nat.ne_of_gt Dd_z.out))
  replace Rz:=hid (Rz.out.set (cs:=#[.string ds,.int .u32 di,.int .u8 nK,.int .u16 nM,.int .u32 nL,.int .u32 nS,.string nT,.slice A9 m9 c9]))
  refine hK.out _ _ (fun h=>absurd h (by decide)) ?_
  clear hK K
  try simp only [Act.put,Gw3Backa,Gw3Backb,Gw3Backc]
  generalize w4.setRow (w.heap.size+1) #[.string ds,.int .u32 di,.int .u8 nK,.int .u16 nM,.int .u32 nL,.int .u32 nS,.string nT,.slice A9 m9 c9]=w5 at *
  obtain⟨co0,co1,co2,co3,co4,co5,co6⟩:=cl7 Ro.out
  obtain⟨cz0,cz1,cz2,cz3,cz4,cz5,cz6,cz7⟩:=cl8 Rz.out
  obtain⟨cd0,cd1,cd2,cd3,cd4,cd5,cd6,cd7⟩:=cl8 Rd.out
  refine take_X 4 6 (.int .i64 0) rfl (by rfl) (by kernel_rfl) (by kernel_rfl) (by kernel_rfl) (by kernel_rfl) (fun _ _ _ h=>h) (Till.mono (by decide)) (Or.inl ⟨by rfl,fun w' hB=>by go_simp⟩) (fun h=>absurd h (by decide)) ?_
  simp only [Gw3Backa,Gw3Backb,Gw3Backc]
  refine done_X (by kernel_rfl) ?_ _
  clear hS Qo Qz Qd
  go_wp2
  refine bodyPost_ret (v:=.tuple #[.slice A7 m7 c7,.agg #[.string ds,.int .u32 di,.int .u8 nK,.int .u16 nM,.int .u32 nL,.int .u32 nS,.string nT,.slice A9 m9 c9],.int .i64 0]) (results_row3 rfl _ _ (w.heap.size+1) 38 #[.string ds,.int .u32 di,.int .u8 nK,.int .u16 nM,.int .u32 nL,.int .u32 nS,.string nT,.slice A9 m9 c9] (0,0) _ _ _ rfl rfl rfl Rz.out Tryz.underlying38 rfl (by kernel_rfl)) rfl ?_
  exact⟨A7,m7,c7,.slice A9 m9 c9,rfl,(mk_sl It.enc_len HY2.out).1,(mk_sl It.enc_len HY2.out).2.1,(mk_sl It.enc_len HY2.out).2.2.1,(mk_sl It.enc_len HY2.out).2.2.2,HM.out,B.out⟩
 ·
  have HF:=hid (fun (w1:World) (hb:Below w.heap.size w w1)=>Do_any (hI.go hb) hc hcm o ho)
  unfold DPost at HF
  unfold AfPost
  have e1:aft L o=L:=by unfold aft;rw [if_neg h0]
  have e2:=dT_no h0
  have e3:=dC_no h0
  have HAP:=hid (fun (w1:World) (hb:Below w.heap.size w w1) (A8:Option Addr) (c8:Nat)=>apply_any L [] A A8 n c 0 c8 w1.heap.size w1.heap.size (hI.go hb).1 hc hcm rfl (by have:=hI.2.1;omega) (by omega) w1 (Nat.le_refl _) (Nat.le_refl _) (hI.go hb).2.2 Ls.nil)
  have HI:=hid (fun (w1:World) (hb:Below w.heap.size w w1)=>(hI.go hb))
  have HCC:=hid (show n≤c∧c≤maxLen from⟨hc,hcm⟩)
  rw [if_neg h0,if_neg h0,if_neg h0] at HF
  rw [e1,e2]
  generalize er (rt L&&rc [])=y at *
  have HE:=hid h0
  have e5:=ne0 h0
  generalize dX L o=x at *
  obtain⟨oK,oP,oT,oM,oO,oN,oD⟩:=o
  try dsimp only at *
  clear ho hI hc hcm h0 e1 e2 e3
  have HN:=hid (two_new w #[.int .u8 oK,.string oP,.string oT,.int .u16 oM,.int .u32 oO,.int .u32 oN,.string oD] #[.string ⟨#[]⟩,.int .u32 0,.int .u8 0,.int .u16 0,.int .u32 0,.int .u32 0,.string ⟨#[]⟩,.slice none 0 0] 31 38)
  go_enter Tryz.func14,Tryz.ntmps14
  go_wp2_with fail
  try generalize ((w.alloc (.cells #[.int .u8 oK,.string oP,.string oT,.int .u16 oM,.int .u32 oO,.int .u32 oN,.string oD] 31)).alloc (.cells #[.string ⟨#[]⟩,.int .u32 0,.int .u8 0,.int .u16 0,.int .u32 0,.int .u32 0,.string ⟨#[]⟩,.slice none 0 0] 38))=w0 at *
  have Ro:=hid HN.out.1
  have Rz:=hid HN.out.2.1
  have B:=hid HN.out.2.2.1
  clear HN
  obtain⟨co0,co1,co2,co3,co4,co5,co6⟩:=cl7 Ro.out
  obtain⟨cz0,cz1,cz2,cz3,cz4,cz5,cz6,cz7⟩:=cl8 Rz.out
  refine (HF.out _ B.out).mono ?_
  rintro e w1 ⟨v,ev,rfl,hm0,hm⟩
  have hb:=hm.2
  have HM:=hid hm
  have HC:=hid hm0
  have BK:=hid B.out
  have GK:=hid Rz.out.lt
  obtain⟨A9,c9,hv9,_⟩:=hm.ls Di.encEn_len
  subst hv9
  obtain⟨A8,c8,hv8,_⟩:=hm0.ls Sc.enc_len
  subst hv8
  clear co0 co1 co2 co3 co4 co5 co6 cz0 cz1 cz2 cz3 cz4 cz5 cz6 cz7
  replace Ro:=gg Ro hb
  replace Rz:=gg Rz hb
  replace B:=gb B hb
  clear hm hm0
  obtain⟨co0,co1,co2,co3,co4,co5,co6⟩:=cl7 Ro.out
  obtain⟨cz0,cz1,cz2,cz3,cz4,cz5,cz6,cz7⟩:=cl8 Rz.out
  clear hb
  go_wp2_with (first
   | (refine new_row rfl 38 (.tmp 8) (.tmp 17) rfl rfl #[.string ⟨#[]⟩,.int .u32 0,.int .u8 0,.int .u16 0,.int .u32 0,.int .u32 0,.string ⟨#[]⟩,.slice A9 0 c9] rfl rfl (by kernel_rfl) rfl (row8 _ _ _ _ _ _ _ _ _ _) ?_;intro w2 M;have Dd_z:=hid Rz.out.lt;clear co0 co1 co2 co3 co4 co5 co6 cz0 cz1 cz2 cz3 cz4 cz5 cz6 cz7;replace Ro:=gg Ro M.2.1;replace Rz:=gg Rz M.2.1;replace HM:=hid (HM.out.go M.2.1);replace B:=gb B M.2.1;have Rd:=hid M.1;obtain⟨co0,co1,co2,co3,co4,co5,co6⟩:=cl7 Ro.out;obtain⟨cz0,cz1,cz2,cz3,cz4,cz5,cz6,cz7⟩:=cl8 Rz.out;obtain⟨cd0,cd1,cd2,cd3,cd4,cd5,cd6,cd7⟩:=cl8 Rd.out;clear M)
   | (go_at_call 25;refine (HAP.out _ B.out A8 c8).mono ?_;rintro e w3 ⟨v2,rfl,hm⟩;have hb:=hm.2;clear co0 co1 co2 co3 co4 co5 co6 cz0 cz1 cz2 cz3 cz4 cz5 cz6 cz7 cd0 cd1 cd2 cd3 cd4 cd5 cd6 cd7;replace Ro:=gg Ro hb;replace Rz:=gg Rz hb;replace Rd:=gg Rd hb;replace HM:=hid (HM.out.go hb);replace B:=gb B hb;clear hm;obtain⟨co0,co1,co2,co3,co4,co5,co6⟩:=cl7 Ro.out;obtain⟨cz0,cz1,cz2,cz3,cz4,cz5,cz6,cz7⟩:=cl8 Rz.out;obtain⟨cd0,cd1,cd2,cd3,cd4,cd5,cd6,cd7⟩:=cl8 Rd.out;clear hb))
  refine wp_region_X (Till 4 (fun (w':World)=>Below w3.heap.size w3 w')) (by kernel_rfl) ?_
  have hd:Below w3.heap.size w3 w3.drew:=(Below.refl _ _).drew
  generalize hW1:w3.drew=w4 at *
  have hS:=hd
  clear hW1
  have Qo:=hid (Ro.out)
  have Qz:=hid (Rz.out)
  have Qd:=hid (Rd.out)
  clear co0 co1 co2 co3 co4 co5 co6 cz0 cz1 cz2 cz3 cz4 cz5 cz6 cz7 cd0 cd1 cd2 cd3 cd4 cd5 cd6 cd7
  replace Ro:=gg Ro hd
  replace Rz:=gg Rz hd
  replace Rd:=gg Rd hd
  replace HM:=hid (HM.out.go hd)
  replace B:=gb B hd
  obtain⟨co0,co1,co2,co3,co4,co5,co6⟩:=cl7 Ro.out
  obtain⟨cz0,cz1,cz2,cz3,cz4,cz5,cz6,cz7⟩:=cl8 Rz.out
  obtain⟨cd0,cd1,cd2,cd3,cd4,cd5,cd6,cd7⟩:=cl8 Rd.out
  clear hd
  refine take_X 0 33 (.slice A n c) rfl (by rfl) (by kernel_rfl) (by kernel_rfl) (by kernel_rfl) (by kernel_rfl) (fun _ _ _ h=>h) (Till.mono (by decide)) (Or.inl ⟨by rfl,fun w' hB=>by go_simp⟩) (fun _=>hS) ?_
  simp only [Gw3Backa,Gw3Backb,Gw3Backc]
  refine take_X 1 34 (.agg #[.string ⟨#[]⟩,.int .u32 0,.int .u8 0,.int .u16 0,.int .u32 0,.int .u32 0,.string ⟨#[]⟩,.slice A9 0 c9]) rfl (by rfl) (by kernel_rfl) (by kernel_rfl) (by kernel_rfl) (by kernel_rfl) (fun _ _ _ h=>h) (Till.mono (by decide)) (Or.inl ⟨by rfl,fun w' hB=>by have hSw:=Till.bef hB (by kernel_rfl);exact load_all 38 (.tmp 8) rfl (w1.heap.size) rfl (Qd.out.go hSw) Tryz.underlying38 rfl (by kernel_rfl)⟩) (fun _=>hS) ?_
  simp only [Gw3Backa,Gw3Backb,Gw3Backc]
  refine take_X 2 35 (.int .i64 x) rfl (by rfl) (by kernel_rfl) (by kernel_rfl) (by kernel_rfl) (by kernel_rfl) (fun _ _ _ h=>h) (Till.mono (by decide)) (Or.inl ⟨by rfl,fun w' hB=>by go_simp⟩) (fun _=>hS) ?_
  simp only [Gw3Backa,Gw3Backb,Gw3Backc]
  refine take_X 3 4 (.slice A n c) rfl (by rfl) (by kernel_rfl) (by kernel_rfl) (by kernel_rfl) (by kernel_rfl) (fun _ _ _ h=>h) (Till.mono (by decide)) (Or.inl ⟨by rfl,fun w' hB=>by go_simp⟩) (fun _=>hS) ?_
  simp only [Gw3Backa,Gw3Backb,Gw3Backc]
  refine only_X 4 rfl (by kernel_rfl) (by rfl) (fun K hK=>?_)
  refine wp_store_row 38 (.tmp 5) (.tmp 34) rfl (w.heap.size+1) #[.string ⟨#[]⟩,.int .u32 0,.int .u8 0,.int .u16 0,.int .u32 0,.int .u32 0,.string ⟨#[]⟩,.slice A9 0 c9] rfl rfl 38 #[.string ⟨#[]⟩,.int .u32 0,.int .u8 0,.int .u16 0,.int .u32 0,.int .u32 0,.string ⟨#[]⟩,.slice none 0 0] Rz.out (by kernel_rfl) rfl (row8 _ _ _ _ _ _ _ _ _ _) ?_
  clear co0 co1 co2 co3 co4 co5 co6 cz0 cz1 cz2 cz3 cz4 cz5 cz6 cz7 cd0 cd1 cd2 cd3 cd4 cd5 cd6 cd7
  replace HM:=hid (mk_row (g:=w.heap.size+1) (cs:=#[.string ⟨#[]⟩,.int .u32 0,.int .u8 0,.int .u16 0,.int .u32 0,.int .u32 0,.string ⟨#[]⟩,.slice A9 0 c9]) HM.out BK.out (by omega) GK.out)
  replace B:=hid (below_setRow B.out (g:=w.heap.size+1) (by omega) #[.string ⟨#[]⟩,.int .u32 0,.int .u8 0,.int .u16 0,.int .u32 0,.int .u32 0,.string ⟨#[]⟩,.slice A9 0 c9])
  replace Ro:=hid (Ro.out.keep (g':=w.heap.size+1) (old:=#[.string ⟨#[]⟩,.int .u32 0,.int .u8 0,.int .u16 0,.int .u32 0,.int .u32 0,.string ⟨#[]⟩,.slice A9 0 c9]) (by omega))
  replace Rd:=hid (Rd.out.keep (g':=w.heap.size+1) (old:=#[.string ⟨#[]⟩,.int .u32 0,.int .u8 0,.int .u16 0,.int .u32 0,.int .u32 0,.string ⟨#[]⟩,.slice A9 0 c9]) (Nat.ne_of_gt Dd_z.out))
  replace Rz:=hid (Rz.out.set (cs:=#[.string ⟨#[]⟩,.int .u32 0,.int .u8 0,.int .u16 0,.int .u32 0,.int .u32 0,.string ⟨#[]⟩,.slice A9 0 c9]))
  refine hK.out _ _ (fun h=>absurd h (by decide)) ?_
  clear hK K
  try simp only [Act.put,Gw3Backa,Gw3Backb,Gw3Backc]
  generalize w4.setRow (w.heap.size+1) #[.string ⟨#[]⟩,.int .u32 0,.int .u8 0,.int .u16 0,.int .u32 0,.int .u32 0,.string ⟨#[]⟩,.slice A9 0 c9]=w5 at *
  obtain⟨co0,co1,co2,co3,co4,co5,co6⟩:=cl7 Ro.out
  obtain⟨cz0,cz1,cz2,cz3,cz4,cz5,cz6,cz7⟩:=cl8 Rz.out
  obtain⟨cd0,cd1,cd2,cd3,cd4,cd5,cd6,cd7⟩:=cl8 Rd.out
  refine take_X 5 6 (.int .i64 x) rfl (by rfl) (by kernel_rfl) (by kernel_rfl) (by kernel_rfl) (by kernel_rfl) (fun _ _ _ h=>h) (Till.mono (by decide)) (Or.inl ⟨by rfl,fun w' hB=>by go_simp⟩) (fun h=>absurd h (by decide)) ?_
  simp only [Gw3Backa,Gw3Backb,Gw3Backc]
  refine done_X (by kernel_rfl) ?_ _
  clear hS Qo Qz Qd
  go_wp2
  refine bodyPost_ret (v:=.tuple #[.slice A n c,.agg #[.string ⟨#[]⟩,.int .u32 0,.int .u8 0,.int .u16 0,.int .u32 0,.int .u32 0,.string ⟨#[]⟩,.slice A9 0 c9],.int .i64 x]) (results_row3 rfl _ _ (w.heap.size+1) 38 #[.string ⟨#[]⟩,.int .u32 0,.int .u8 0,.int .u16 0,.int .u32 0,.int .u32 0,.string ⟨#[]⟩,.slice A9 0 c9] (0,0) _ _ _ rfl rfl rfl Rz.out Tryz.underlying38 rfl (by kernel_rfl)) rfl ?_
  exact⟨A,n,c,.slice A9 0 c9,rfl,(HI.out _ B.out).1,HCC.out.1,HCC.out.2,(HI.out _ B.out).2.2,HM.out,B.out⟩
end Go.Proofs.YtopepebcnaikiaaGreatDoor.Fi
namespace Go.Proofs.YtopepebcnaikiaaGreatDoor.Di
open Lib (hid)
set_option linter.unusedVariables false
set_option linter.unusedSimpArgs false
set_option maxRecDepth 100000
open Go.ChangeShapes Go.WideShapes Go.ChangeAt Go.RowKit
open BigFrame
open Ar Rg
open Ino
open It (Itm)
open Ph (en1 en1_len spX spB)
variable {w w' wr:World}{g bi be bn ba bu N M bb:Nat}{s:Vo}
theorem root_pt:ptOf rootI=⟨kR,wrI nR⟩:=by
 unfold ptOf rootI
 dsimp only
 rw [(deK_back kR_lim kR_ok).1]
def L0:List Itm:=[rootI]
theorem pts0:pts L0=[⟨kR,wrI nR⟩]:=by
 unfold pts L0
 rw [List.map_cons,List.map_nil,root_pt]
theorem vo_0:vo (pts L0)=takeI vo0 ⟨kR,wrI nR⟩:=by
 rw [pts0]
 show takeP vo0 ⟨kR,wrI nR⟩=_
 exact if_pos (show (⟨kR,wrI nR⟩:Pt).k.K=1 from rfl)
theorem ino_0 (i:Nat):(vo (pts L0)).ino i=if i=1 then some nR else none:=by
 rw [vo_0]
 show (if i=kR.I then some (deI (wrI nR)) else none)=_
 rw [(deI_back nR_lim nR_ok).1]
 rfl
theorem kind_0:kind (vo (pts L0)) 1=1:=by
 unfold kind
 rw [ino_0,if_pos rfl]
 rfl
theorem rgt_0:rgt L0=true:=by
 have hs:(wrK kR).size=5:=by
  have h:=wrK_pfx kR_ok
  rw [h.1,ByteArray.size_append,(pfx_ok kR_ok).2]
  rfl
 have hv:(wrI nR).size=13:=by rw [wrI_size nR (by decide)];rfl
 refine rgt_iff.2 ⟨?_,?_,kind_0,?_,?_⟩
 ·show It.rtFrom none [rootI]=true
  simp only [It.rtFrom,Bool.and_true]
  unfold It.okI It.okKey rootI
  dsimp only
  rw [hs,hv]
  decide
 ·intro x hx
  obtain rfl:x=rootI:=by simpa [L0] using hx
  unfold okX
  rw [root_pt]
  have h1:deKE rootI.k=0:=(deK_back kR_lim kR_ok).2
  rw [h1]
  unfold okP
  rw [if_pos (show (⟨kR,wrI nR⟩:Pt).k.K=1 from rfl)]
  dsimp only
  rw [(deI_back nR_lim nR_ok).2]
  rfl
 ·intro p hp
  rw [pts0] at hp
  obtain rfl:p=⟨kR,wrI nR⟩:=by simpa using hp
  unfold stray
  dsimp only
  rw [ino_0,if_pos (show kR.I=1 from rfl)]
  rfl
 ·intro i n hn hk
  rw [ino_0] at hn
  split at hn
  ·rename_i h;rw [h];exact Up.one _
  ·cases hn
end Go.Proofs.YtopepebcnaikiaaGreatDoor.Di
namespace Go.Proofs.YtopepebcnaikiaaGreatDoor.Fi
open Lib (hid)
set_option linter.unusedVariables false
set_option linter.unusedSimpArgs false
set_option maxRecDepth 100000
open Ino
open It (Itm Ch get und app dif rt rc rt_up)
open Di (wlk wkL rgt rgt_iff numOf Vo vo pts lsX lsL up En Up AllUp Nx okX stray kind L0 rgt_0 gtE gtI lsE snocRec ptOf)
open Ph (nb spX spB laX laD laN)
variable {L:List Itm}
def upsB (L:List Itm):Bool:=(pts L).all fun p=>!decide (p.k.K=1)||(!decide ((deI p.v).K=1)||(List.range 4).any fun k=>decide (up (vo (pts L)) k p.k.I=1))
theorem ups_of (h:upsB L=true):AllUp (vo (pts L)):=by
 intro i n hn hk
 obtain⟨p,hp,h1,h2,h3⟩:=Di.ino_of _ hn
 have:=List.all_eq_true.1 h p hp
 rw [← h3,decide_eq_true h1,decide_eq_true hk] at this
 simp only [Bool.not_true,Bool.false_or] at this
 obtain⟨k,_,h4⟩:=List.any_eq_true.1 this
 rw [h2] at h4
 exact⟨k,of_decide_eq_true h4⟩
theorem rgt_of (h:rt L=true) (h1:L.all okX=true) (h2:kind (vo (pts L)) 1=1) (h3:(pts L).any (stray (vo (pts L)))=false) (h4:upsB L=true):rgt L=true :=
 rgt_iff.2 ⟨h,fun x hx=>List.all_eq_true.1 h1 x hx,h2,fun p hp=>(by
  cases e:stray (vo (pts L)) p with
  | false=>rfl
  | true=>exact absurd (List.any_eq_true.2 ⟨p,hp,e⟩) (by rw [h3];decide)),ups_of h4⟩
theorem wlk_C (h:rgt L=true) (fo:Bool) (D:List ByteArray):wlk L fo D=wkL (vo (pts L)) fo 8 1 D:=by unfold wlk;rw [h,if_pos rfl]
theorem dX_ch (h:rgt L=true){o:Op}(ht:¬ tells o):dX L o=chX L o:=by unfold dX;rw [h,if_pos rfl,if_neg ht]
theorem dX_td (h:rgt L=true){o:Op}(ht:tells o):dX L o=tdX L o:=by unfold dX;rw [h,if_pos rfl,if_pos ht]
theorem dT_td {o:Op}(ht:tells o) (h0:dX L o=0):dT L o=tdT L o:=by unfold dT;rw [if_pos h0,if_pos ht]
theorem app_apC (h:rt L=true) (C:List Ch) (hc:rc C=true):app L (apC L C)=app L C:=by
 unfold apC
 rw [if_pos hc]
 exact It.app_dif (rt_up h).1 (rt_up (It.rt_app h hc)).1
theorem aft_ch (h:rgt L=true){o:Op}(ht:¬ tells o) (h0:dX L o=0) (hc:rc (chC L o)=true):aft L o=app L (chC L o):=by
 unfold aft dC
 rw [if_pos h0,if_pos h0,if_neg ht,app_apC (rgt_iff.1 h).rt _ hc]
theorem aft_td (h:rgt L=true){o:Op}(ht:tells o):aft L o=L:=by
 unfold aft dC
 split
 ·first
   | (rw [if_pos ht,app_apC (rgt_iff.1 h).rt [] rfl];rfl)
   | (rw [app_apC (rgt_iff.1 h).rt [] rfl];rfl)
 ·rfl
theorem aft_no {o:Op}(h0:dX L o≠0):aft L o=L:=by unfold aft;rw [if_neg h0]
def pA:ByteArray:=⟨#[47,97]⟩
def pAB:ByteArray:=⟨#[47,97,47,98]⟩
def pC:ByteArray:=⟨#[47,99]⟩
def pCB:ByteArray:=⟨#[47,99,47,98]⟩
def pR:ByteArray:=⟨#[47]⟩
def nE:ByteArray:=⟨#[]⟩
def o1:Op:=⟨2,pA,nE,0,0,0,nE⟩
def o2:Op:=⟨1,pAB,nE,5,0,0,nE⟩
def o3:Op:=⟨6,pAB,nE,0,2,0,⟨#[120]⟩⟩
def o4:Op:=⟨8,pA,pC,0,0,0,nE⟩
def q1:Op:=⟨5,pCB,nE,0,0,9,nE⟩
def q2:Op:=⟨11,pCB,nE,0,0,0,nE⟩
def q3:Op:=⟨10,pC,nE,0,0,0,nE⟩
def q4:Op:=⟨12,pR,nE,0,0,0,nE⟩
def iD:ByteArray:=⟨#[1,0,0,0,0,0,1,0,0,0,0,0,0]⟩
def kN (i:UInt8):ByteArray:=⟨#[105,0,0,0,i]⟩
def T1:List Itm:=[⟨⟨#[100,0,0,0,1,97]⟩,⟨#[0,0,0,2]⟩⟩,⟨kN 1,iD⟩,⟨kN 2,iD⟩]
def T2:List Itm:=[⟨⟨#[100,0,0,0,1,97]⟩,⟨#[0,0,0,2]⟩⟩,⟨⟨#[100,0,0,0,2,98]⟩,⟨#[0,0,0,3]⟩⟩,⟨kN 1,iD⟩,⟨kN 2,iD⟩,⟨kN 3,⟨#[2,0,5,0,0,0,1,0,0,0,0,0,0]⟩⟩]
def T3:List Itm:=[⟨⟨#[99,0,0,0,3,0,0,0,0]⟩,⟨#[0,0,120]⟩⟩,⟨⟨#[100,0,0,0,1,97]⟩,⟨#[0,0,0,2]⟩⟩,⟨⟨#[100,0,0,0,2,98]⟩,⟨#[0,0,0,3]⟩⟩,⟨kN 1,iD⟩,⟨kN 2,iD⟩,⟨kN 3,⟨#[2,0,5,0,0,0,1,0,0,0,3,0,0]⟩⟩]
def T4:List Itm:=[⟨⟨#[99,0,0,0,3,0,0,0,0]⟩,⟨#[0,0,120]⟩⟩,⟨⟨#[100,0,0,0,1,99]⟩,⟨#[0,0,0,2]⟩⟩,⟨⟨#[100,0,0,0,2,98]⟩,⟨#[0,0,0,3]⟩⟩,⟨kN 1,iD⟩,⟨kN 2,iD⟩,⟨kN 3,⟨#[2,0,5,0,0,0,1,0,0,0,3,0,0]⟩⟩]
theorem r1:rgt T1=true:=rgt_of (by kernel_rfl) (by kernel_rfl) (by kernel_rfl) (by kernel_rfl) (by kernel_rfl)
theorem r2:rgt T2=true:=rgt_of (by kernel_rfl) (by kernel_rfl) (by kernel_rfl) (by kernel_rfl) (by kernel_rfl)
theorem r3:rgt T3=true:=rgt_of (by kernel_rfl) (by kernel_rfl) (by kernel_rfl) (by kernel_rfl) (by kernel_rfl)
theorem r4:rgt T4=true:=rgt_of (by kernel_rfl) (by kernel_rfl) (by kernel_rfl) (by kernel_rfl) (by kernel_rfl)
theorem x0:nxt L0=2:=nxt_of ⟨by decide,by decide,by kernel_rfl,fun k h1 h2=>absurd h2 (by omega)⟩
theorem x1:nxt T1=3:=nxt_of ⟨by decide,by decide,by kernel_rfl,fun k h1 h2=>by
 obtain rfl:k=2:=by omega
 kernel_rfl⟩
theorem n1:¬ tells o1:=by decide
theorem n2:¬ tells o2:=by decide
theorem n3:¬ tells o3:=by decide
theorem n4:¬ tells o4:=by decide
theorem c1:chX L0 o1=0:=by
 show crX L0 pA ⟨1,0,1,0,ByteArray.empty⟩=0
 unfold crX frX plX pl pl0
 unfold plX
 simp only [wlk_C rgt_0]
 kernel_rfl
theorem a1:chC L0 o1=[⟨kN 2,true,iD⟩,⟨⟨#[100,0,0,0,1,97]⟩,true,⟨#[0,0,0,2]⟩⟩]:=by
 show crC L0 pA ⟨1,0,1,0,ByteArray.empty⟩=_
 unfold crC pl pl0 plX
 rw [x0]
 simp only [wlk_C rgt_0]
 kernel_rfl
theorem f1:dX L0 o1=0∧aft L0 o1=T1:=by
 have h:=(dX_ch rgt_0 n1).trans c1
 refine⟨h,?_⟩
 rw [aft_ch rgt_0 n1 h (by rw [a1];kernel_rfl),a1]
 kernel_rfl
theorem c2:chX T1 o2=0:=by
 show crX T1 pAB ⟨2,5,1,0,ByteArray.empty⟩=0
 unfold crX frX plX pl pl0
 unfold plX
 simp only [wlk_C r1]
 kernel_rfl
theorem a2:chC T1 o2=[⟨kN 3,true,⟨#[2,0,5,0,0,0,1,0,0,0,0,0,0]⟩⟩,⟨⟨#[100,0,0,0,2,98]⟩,true,⟨#[0,0,0,3]⟩⟩]:=by
 show crC T1 pAB ⟨2,5,1,0,ByteArray.empty⟩=_
 unfold crC pl pl0 plX
 rw [x1]
 simp only [wlk_C r1]
 kernel_rfl
theorem f2:dX T1 o2=0∧aft T1 o2=T2:=by
 have h:=(dX_ch r1 n2).trans c2
 refine⟨h,?_⟩
 rw [aft_ch r1 n2 h (by rw [a2];kernel_rfl),a2]
 kernel_rfl
theorem c3:chX T2 o3=0:=by
 show wtX T2 o3=0
 unfold wtX fnX ldI ldN ldX
 unfold ldI ldX
 simp only [wlk_C r2]
 kernel_rfl
theorem a3:chC T2 o3=[⟨⟨#[99,0,0,0,3,0,0,0,0]⟩,true,⟨#[0,0,120]⟩⟩,⟨kN 3,true,⟨#[2,0,5,0,0,0,1,0,0,0,3,0,0]⟩⟩]:=by
 show wtC T2 o3=_
 unfold wtC wtS ldI ldN ldX
 unfold ldI ldX
 simp only [wlk_C r2]
 kernel_rfl
theorem f3:dX T2 o3=0∧aft T2 o3=T3:=by
 have h:=(dX_ch r2 n3).trans c3
 refine⟨h,?_⟩
 rw [aft_ch r2 n3 h (by rw [a3];kernel_rfl),a3]
 kernel_rfl
theorem u3:undr T3 1 2=false:=undr_no (k:=0) rfl (by decide) (fun j hj=>absurd hj (by omega))
theorem p3:pl T3 pA=⟨1,⟨#[100,0,0,0,1,97]⟩,2⟩∧pl T3 pC=⟨1,⟨#[100,0,0,0,1,99]⟩,0⟩:=by
 unfold pl pl0 plX
 simp only [wlk_C r3]
 exact⟨by kernel_rfl,by kernel_rfl⟩
theorem p3x:nmX T3 pA=0∧plX T3 pC=0:=by
 unfold nmX
 rw [p3.1]
 unfold plX
 simp only [wlk_C r3]
 exact⟨by kernel_rfl,by kernel_rfl⟩
theorem c4:chX T3 o4=0:=by
 show rnX T3 o4=0
 unfold rnX
 show (if nmX T3 pA≠0 then nmX T3 pA else if plX T3 pC≠0 then plX T3 pC else if undr T3 (pl T3 pC).d (pl T3 pA).i=true then 7 else if (pl T3 pC).i=(pl T3 pA).i then 0 else if (pl T3 pC).i=0 then 0 else rpX T3 (pl T3 pA).i (pl T3 pC).i)=0
 rw [p3x.1,p3x.2,p3.1,p3.2]
 show (if (0:Int)≠0 then _ else if (0:Int)≠0 then _ else if undr T3 1 2=true then 7 else _)=(0:Int)
 rw [u3]
 kernel_rfl
theorem a4:chC T3 o4=[⟨⟨#[100,0,0,0,1,97]⟩,false,nE⟩,⟨⟨#[100,0,0,0,1,99]⟩,true,⟨#[0,0,0,2]⟩⟩]:=by
 show rnC T3 o4=_
 unfold rnC
 show (if (pl T3 pC).i=(pl T3 pA).i then [] else (if (pl T3 pC).i=0 then [] else letGo T3 (pl T3 pC))++[isFree (pl T3 pA),names (pl T3 pC) (pl T3 pA).i])=_
 rw [p3.1,p3.2]
 kernel_rfl
theorem f4:dX T3 o4=0∧aft T3 o4=T4:=by
 have h:=(dX_ch r3 n4).trans c4
 refine⟨h,?_⟩
 rw [aft_ch r3 n4 h (by rw [a4];kernel_rfl),a4]
 kernel_rfl
theorem m1:tells q1:=by decide
theorem m2:tells q2:=by decide
theorem m3:¬ tells q3:=by decide
theorem m4:tells q4:=by decide
theorem g1:dX T4 q1=0∧dT T4 q1={ zTd with s:=⟨#[0,0,120]⟩ }:=by
 have h:dX T4 q1=0:=by
  rw [dX_td r4 m1]
  show reX T4 q1=0
  unfold reX fnX ldI ldN ldX
  unfold ldI ldX
  simp only [wlk_C r4]
  kernel_rfl
 refine⟨h,?_⟩
 rw [dT_td m1 h]
 show reT T4 q1=_
 unfold reT ldI ldN ldX
 unfold ldI ldX
 simp only [wlk_C r4]
 kernel_rfl
theorem g2:dX T4 q2=0∧dT T4 q2={ zTd with i:=3,n:=⟨2,5,1,3,ByteArray.empty⟩ }:=by
 have h:dX T4 q2=0:=by
  rw [dX_td r4 m2]
  show ldX T4 pCB true=0
  unfold ldX
  simp only [wlk_C r4]
  kernel_rfl
 refine⟨h,?_⟩
 rw [dT_td m2 h]
 show stT T4 q2=_
 unfold stT ldI ldN ldX
 unfold ldI ldX
 simp only [wlk_C r4]
 kernel_rfl
theorem g3:dX T4 q3=13:=by
 rw [dX_ch r4 m3]
 show rmX T4 q3=13
 unfold rmX nmX pl pl0 plX
 simp only [wlk_C r4]
 kernel_rfl
theorem ls4:lsX T4 1=0∧lsL T4 1=[⟨⟨#[99]⟩,2,1⟩]:=by
 have h:lsX T4 1=0:=by
  unfold lsX gtE gtI
  rw [r4]
  kernel_rfl
 refine⟨h,?_⟩
 unfold lsL
 rw [h,if_pos rfl]
 kernel_rfl
theorem l4:ldX T4 pR true=0∧ldI T4 pR true=1:=by
 unfold ldI ldX
 simp only [wlk_C r4]
 exact⟨by kernel_rfl,by kernel_rfl⟩
theorem g4:dX T4 q4=0∧dT T4 q4={ zTd with e:=[⟨⟨#[99]⟩,2,1⟩] }:=by
 have h:dX T4 q4=0:=by
  rw [dX_td r4 m4]
  show liX T4 q4=0
  unfold liX
  show (if ldX T4 pR true≠0 then ldX T4 pR true else lsX T4 (ldI T4 pR true))=0
  rw [l4.1,l4.2,ls4.1]
  rfl
 refine⟨h,?_⟩
 rw [dT_td m4 h]
 show liT T4 q4=_
 unfold liT
 show ({ zTd with e:=lsL T4 (ldI T4 pR true) }:Td)=_
 rw [l4.2,ls4.2]
end Go.Proofs.YtopepebcnaikiaaGreatDoor.Fi
namespace Go.Proofs.YtopepebcnaikiaaGreatDoor.Fi
open Lib (hid)
set_option linter.unusedVariables false
set_option linter.unusedSimpArgs false
set_option maxRecDepth 100000
open Go.ChangeShapes Go.WideShapes Go.ChangeAt Go.RowKit
open BigFrame
open Ar Rg
open Ino
open It (Itm Ch get und app dif rt rc enc er getV get_any under_any apply_any diff_any MkI MkC)
open Di (ItA wlk rgt rgt_iff numOf Vo vo pts lsX lsL up En NmA Walk_any Up MkE List_any New_any L0 encEn encEn_len)
open Ph (nb spX spB laX laD laN)
open Pk (nB nE tN tR tE number_any take_any)
variable {w w' wr:World}{A:Option Addr}{n c:Nat}{L:List Itm}
theorem af {o:Op}{L':List Itm}{d:Td}{x:Int}(hI:ItA w A n L) (hc:n≤c) (hcm:c≤maxLen) (ho:o.lim) (hx:dX L o=x) (ha:aft L o=L') (hd:dT L o=d) (hl:L'.length≤1390000):Calls Tryz.prog 14 #[.slice A n c,vOp o] w fun e w' =>
  ∃ (A':Option Addr) (n' c':Nat) (A9:Option Addr) (m9 c9:Nat),e=.returned (.tuple #[.slice A' n' c',vTd d (.slice A9 m9 c9),.int .i64 x])∧m9=d.e.length∧n'≤c'∧c'≤maxLen∧ItA w' A' n' L'∧Ls encEn 3 w' w'.heap.size A9 d.e∧Below w.heap.size w w':=by
 refine (after_any hI hc hcm o ho).mono ?_
 rintro e w' ⟨A',n',c',ev,rfl,h1,h2,h3,h4,h5,h6⟩
 rw [ha] at h1 h4
 rw [hd] at h5 ⊢
 rw [hx]
 obtain⟨A9,c9,rfl,_,_,hl9⟩:=h5.ls encEn_len
 exact⟨A',n',c',A9,_,c9,rfl,rfl,h2,h3,⟨h1,by omega,h4⟩,hl9,h6⟩
def tl:Nat→List Itm
 | 0=>L0
 | 1=>T1
 | 2=>T2
 | 3=>T3
 | _=>T4
def ol:Nat→Op
 | 0=>o1
 | 1=>o2
 | 2=>o3
 | _=>o4
theorem tl_len (i:Nat):(tl i).length≤1390000:=by
 unfold tl
 split<;>decide
theorem tl_next {i:Nat}(h:i<4):dX (tl i) (ol i)=0∧aft (tl i) (ol i)=tl (i+1)∧dT (tl i) (ol i)=zTd:=by
 have key:∀ (L:List Itm) (o:Op),¬ tells o→dT L o=zTd:=fun L o ht=>by unfold dT;split;all_goals first | rfl | (rw [if_neg ht])
 obtain rfl | rfl | rfl | rfl:i=0∨i=1∨i=2∨i=3:=by omega
 ·exact⟨f1.1,f1.2,key _ _ n1⟩
 ·exact⟨f2.1,f2.2,key _ _ n2⟩
 ·exact⟨f3.1,f3.2,key _ _ n3⟩
 ·exact⟨f4.1,f4.2,key _ _ n4⟩
theorem ol_lim (i:Nat):(ol i).lim:=by
 unfold ol
 split<;>exact⟨by decide,by decide,by decide,by decide,by decide,by decide,by decide⟩
set_option maxHeartbeats 4000000 in
theorem lives_any (w:World):Calls Tryz.prog 11 #[] w fun e w'=>e=.returned (.bool true)∧Below w.heap.size w w':=by
 have CN:=hid (New_any w)
 have CA0:=hid (fun (w:World) (A:Option Addr) (n c:Nat) (hI:ItA w A n (tl 0)) (hc:n≤c) (hcm:c≤maxLen)=>af (o:=ol 0) (L:=tl 0) (L':=tl 1) (d:=zTd) (x:=0) hI hc hcm (ol_lim 0) (tl_next (i:=0) (by decide)).1 (tl_next (i:=0) (by decide)).2.1 (tl_next (i:=0) (by decide)).2.2 (tl_len 1))
 rw [show vOp (ol 0)=.agg #[.int .u8 2,.string ⟨#[47,97]⟩,.string ⟨#[]⟩,.int .u16 0,.int .u32 0,.int .u32 0,.string ⟨#[]⟩] from rfl] at CA0
 have CA1:=hid (fun (w:World) (A:Option Addr) (n c:Nat) (hI:ItA w A n (tl 1)) (hc:n≤c) (hcm:c≤maxLen)=>af (o:=ol 1) (L:=tl 1) (L':=tl 2) (d:=zTd) (x:=0) hI hc hcm (ol_lim 1) (tl_next (i:=1) (by decide)).1 (tl_next (i:=1) (by decide)).2.1 (tl_next (i:=1) (by decide)).2.2 (tl_len 2))
 rw [show vOp (ol 1)=.agg #[.int .u8 1,.string ⟨#[47,97,47,98]⟩,.string ⟨#[]⟩,.int .u16 5,.int .u32 0,.int .u32 0,.string ⟨#[]⟩] from rfl] at CA1
 have CA2:=hid (fun (w:World) (A:Option Addr) (n c:Nat) (hI:ItA w A n (tl 2)) (hc:n≤c) (hcm:c≤maxLen)=>af (o:=ol 2) (L:=tl 2) (L':=tl 3) (d:=zTd) (x:=0) hI hc hcm (ol_lim 2) (tl_next (i:=2) (by decide)).1 (tl_next (i:=2) (by decide)).2.1 (tl_next (i:=2) (by decide)).2.2 (tl_len 3))
 rw [show vOp (ol 2)=.agg #[.int .u8 6,.string ⟨#[47,97,47,98]⟩,.string ⟨#[]⟩,.int .u16 0,.int .u32 2,.int .u32 0,.string ⟨#[120]⟩] from rfl] at CA2
 have CA3:=hid (fun (w:World) (A:Option Addr) (n c:Nat) (hI:ItA w A n (tl 3)) (hc:n≤c) (hcm:c≤maxLen)=>af (o:=ol 3) (L:=tl 3) (L':=tl 4) (d:=zTd) (x:=0) hI hc hcm (ol_lim 3) (tl_next (i:=3) (by decide)).1 (tl_next (i:=3) (by decide)).2.1 (tl_next (i:=3) (by decide)).2.2 (tl_len 4))
 rw [show vOp (ol 3)=.agg #[.int .u8 8,.string ⟨#[47,97]⟩,.string ⟨#[47,99]⟩,.int .u16 0,.int .u32 0,.int .u32 0,.string ⟨#[]⟩] from rfl] at CA3
 have CQ1:=hid (fun (w:World) (A:Option Addr) (n c:Nat) (hI:ItA w A n T4) (hc:n≤c) (hcm:c≤maxLen)=>af (o:=q1) (L:=T4) (L':=T4) (d:={ zTd with s:=⟨#[0,0,120]⟩ }) (x:=0) hI hc hcm ⟨by decide,by decide,by decide,by decide,by decide,by decide,by decide⟩ g1.1 (aft_td r4 m1) (g1.2) (tl_len 4))
 rw [show vOp q1=.agg #[.int .u8 5,.string ⟨#[47,99,47,98]⟩,.string ⟨#[]⟩,.int .u16 0,.int .u32 0,.int .u32 9,.string ⟨#[]⟩] from rfl] at CQ1
 have CQ2:=hid (fun (w:World) (A:Option Addr) (n c:Nat) (hI:ItA w A n T4) (hc:n≤c) (hcm:c≤maxLen)=>af (o:=q2) (L:=T4) (L':=T4) (d:={ zTd with i:=3,n:=⟨2,5,1,3,ByteArray.empty⟩ }) (x:=0) hI hc hcm ⟨by decide,by decide,by decide,by decide,by decide,by decide,by decide⟩ g2.1 (aft_td r4 m2) (g2.2) (tl_len 4))
 rw [show vOp q2=.agg #[.int .u8 11,.string ⟨#[47,99,47,98]⟩,.string ⟨#[]⟩,.int .u16 0,.int .u32 0,.int .u32 0,.string ⟨#[]⟩] from rfl] at CQ2
 have CQ3:=hid (fun (w:World) (A:Option Addr) (n c:Nat) (hI:ItA w A n T4) (hc:n≤c) (hcm:c≤maxLen)=>af (o:=q3) (L:=T4) (L':=T4) (d:=zTd) (x:=13) hI hc hcm ⟨by decide,by decide,by decide,by decide,by decide,by decide,by decide⟩ g3 (aft_no (by rw [g3];decide)) (dT_no (by rw [g3];decide)) (tl_len 4))
 rw [show vOp q3=.agg #[.int .u8 10,.string ⟨#[47,99]⟩,.string ⟨#[]⟩,.int .u16 0,.int .u32 0,.int .u32 0,.string ⟨#[]⟩] from rfl] at CQ3
 have CQ4:=hid (fun (w:World) (A:Option Addr) (n c:Nat) (hI:ItA w A n T4) (hc:n≤c) (hcm:c≤maxLen)=>af (o:=q4) (L:=T4) (L':=T4) (d:={ zTd with e:=[⟨⟨#[99]⟩,2,1⟩] }) (x:=0) hI hc hcm ⟨by decide,by decide,by decide,by decide,by decide,by decide,by decide⟩ g4.1 (aft_td r4 m4) (g4.2) (tl_len 4))
 rw [show vOp q4=.agg #[.int .u8 12,.string ⟨#[47]⟩,.string ⟨#[]⟩,.int .u16 0,.int .u32 0,.int .u32 0,.string ⟨#[]⟩] from rfl] at CQ4
 go_enter Tryz.func11,Tryz.ntmps11
 go_wp2_with fail
 refine CN.out.mono ?_
 rintro e w1 ⟨A,rfl,hA,hb1⟩
 have H1:=hid (show ItA w1 A 1 (tl 0) from hA)
 have B1:=hid hb1
 have hal:Below w1.heap.size w1 (w1.alloc (.cells #[.int .u8 2,.string ⟨#[47,97]⟩,.string ⟨#[]⟩,.int .u16 0,.int .u32 0,.int .u32 0,.string ⟨#[]⟩,.int .u8 1,.string ⟨#[47,97,47,98]⟩,.string ⟨#[]⟩,.int .u16 5,.int .u32 0,.int .u32 0,.string ⟨#[]⟩,.int .u8 6,.string ⟨#[47,97,47,98]⟩,.string ⟨#[]⟩,.int .u16 0,.int .u32 2,.int .u32 0,.string ⟨#[120]⟩,.int .u8 8,.string ⟨#[47,97]⟩,.string ⟨#[47,99]⟩,.int .u16 0,.int .u32 0,.int .u32 0,.string ⟨#[]⟩] 31)):=(Below.refl _ _).alloc (Nat.le_refl _) _
 have R0:=hid (Rw.new w1 #[.int .u8 2,.string ⟨#[47,97]⟩,.string ⟨#[]⟩,.int .u16 0,.int .u32 0,.int .u32 0,.string ⟨#[]⟩,.int .u8 1,.string ⟨#[47,97,47,98]⟩,.string ⟨#[]⟩,.int .u16 5,.int .u32 0,.int .u32 0,.string ⟨#[]⟩,.int .u8 6,.string ⟨#[47,97,47,98]⟩,.string ⟨#[]⟩,.int .u16 0,.int .u32 2,.int .u32 0,.string ⟨#[120]⟩,.int .u8 8,.string ⟨#[47,97]⟩,.string ⟨#[47,99]⟩,.int .u16 0,.int .u32 0,.int .u32 0,.string ⟨#[]⟩] 31)
 have H0:=hid (H1.out.go hal)
 have B0:=hid (B1.out.trans (hal.mono B1.out.size))
 clear hA hb1 CN H1 hal
 go_wp2_with fail
 go_loopw [1,26] (fun v1 v26 wr=>∃ (i:Nat) (A':Option Addr) (n' c':Nat),i≤4∧v26=.int .i64 i∧v1=.slice A' n' c'∧n'≤c'∧c'≤maxLen∧Hid (ItA wr A' n' (tl i))∧Hid (Below w.heap.size w wr)∧Hid (Rw wr w1.heap.size #[.int .u8 2,.string ⟨#[47,97]⟩,.string ⟨#[]⟩,.int .u16 0,.int .u32 0,.int .u32 0,.string ⟨#[]⟩,.int .u8 1,.string ⟨#[47,97,47,98]⟩,.string ⟨#[]⟩,.int .u16 5,.int .u32 0,.int .u32 0,.string ⟨#[]⟩,.int .u8 6,.string ⟨#[47,97,47,98]⟩,.string ⟨#[]⟩,.int .u16 0,.int .u32 2,.int .u32 0,.string ⟨#[120]⟩,.int .u8 8,.string ⟨#[47,97]⟩,.string ⟨#[47,99]⟩,.int .u16 0,.int .u32 0,.int .u32 0,.string ⟨#[]⟩] 31)) (fun _ v26 _=>4-(intOf v26).toNat)
 case atStart=>exact⟨0,A,1,1,by decide,by go_num,rfl,Nat.le_refl _,by unfold maxLen;omega,H0.out,B0.out,R0.out⟩
 case round =>
  obtain⟨i,A',n',c',hi,rfl,rfl,hn',hc',hI,hB,hR⟩:=hrel
  have HI:=hid (Hid.out hI)
  have B:=hid (Hid.out hB)
  have Rg:=hid (Hid.out hR)
  have HN:=hid (show n'≤c'∧c'≤maxLen from⟨hn',hc'⟩)
  clear hI hB hR hn' hc' H0 B0 R0
  obtain rfl | rfl | rfl | rfl | rfl:i=0∨i=1∨i=2∨i=3∨i=4:=by omega
  ·have k0:=Rg.out.cell 0 _ rfl
   have k1:=Rg.out.cell 1 _ rfl
   have k2:=Rg.out.cell 2 _ rfl
   have k3:=Rg.out.cell 3 _ rfl
   have k4:=Rg.out.cell 4 _ rfl
   have k5:=Rg.out.cell 5 _ rfl
   have k6:=Rg.out.cell 6 _ rfl
   have hal:Below wr.heap.size wr (wr.alloc (.cells #[.int .u8 2,.string ⟨#[47,97]⟩,.string ⟨#[]⟩,.int .u16 0,.int .u32 0,.int .u32 0,.string ⟨#[]⟩] 31)):=(Below.refl _ _).alloc (Nat.le_refl _) _
   have HIa:=hid (HI.out.go hal)
   have Ba:=hid (B.out.trans (hal.mono B.out.size))
   have Ra:=hid (Rg.out.go hal)
   clear hal HI B Rg
   go_wp2_with fail
   generalize wr.alloc (.cells #[.int .u8 2,.string ⟨#[47,97]⟩,.string ⟨#[]⟩,.int .u16 0,.int .u32 0,.int .u32 0,.string ⟨#[]⟩] 31)=W at *
   clear k0 k1 k2 k3 k4 k5 k6
   refine (CA0.out W A' n' c' HIa.out HN.out.1 HN.out.2).mono ?_
   rintro e w2 ⟨A2,n2,c2,A9,m9,c9,rfl,hm9,hn2,hc2,hI2,_,hb⟩
   replace hm9:m9=0:=hm9
   subst hm9
   have HI2:=hid hI2
   have B2:=hid (Ba.out.trans (hb.mono Ba.out.size))
   have R2:=hid (Ra.out.go hb)
   have HN2:=hid (show n2≤c2∧c2≤maxLen from⟨hn2,hc2⟩)
   clear hI2 hb hn2 hc2 HIa Ba Ra
   have M:=made w2 #[.string ⟨#[]⟩,.int .u32 0,.int .u8 0,.int .u16 0,.int .u32 0,.int .u32 0,.string ⟨#[]⟩,.slice none 0 0] #[.string ⟨#[]⟩,.int .u32 0,.int .u8 0,.int .u16 0,.int .u32 0,.int .u32 0,.string ⟨#[]⟩,.slice A9 0 c9] 38
   go_wp2_with (refine wpList_store_row rfl 38 (.tmp 5) (.tmp 35) rfl w2.heap.size #[.string ⟨#[]⟩,.int .u32 0,.int .u8 0,.int .u16 0,.int .u32 0,.int .u32 0,.string ⟨#[]⟩,.slice A9 0 c9] rfl rfl 38 #[.string ⟨#[]⟩,.int .u32 0,.int .u8 0,.int .u16 0,.int .u32 0,.int .u32 0,.string ⟨#[]⟩,.slice none 0 0] (heap_alloc_new w2 _) (by kernel_rfl) rfl (row8 _ _ _ _ _ _ _ _ _ _) ?_)
   exact⟨⟨1,A2,n2,c2,by decide,by go_num,rfl,HN2.out.1,HN2.out.2,HI2.out.go M.2.1,B2.out.trans (M.2.1.mono B2.out.size),R2.out.go M.2.1⟩,by simp [intOf]⟩
  ·have k0:=Rg.out.cell 7 _ rfl
   have k1:=Rg.out.cell 8 _ rfl
   have k2:=Rg.out.cell 9 _ rfl
   have k3:=Rg.out.cell 10 _ rfl
   have k4:=Rg.out.cell 11 _ rfl
   have k5:=Rg.out.cell 12 _ rfl
   have k6:=Rg.out.cell 13 _ rfl
   have hal:Below wr.heap.size wr (wr.alloc (.cells #[.int .u8 1,.string ⟨#[47,97,47,98]⟩,.string ⟨#[]⟩,.int .u16 5,.int .u32 0,.int .u32 0,.string ⟨#[]⟩] 31)):=(Below.refl _ _).alloc (Nat.le_refl _) _
   have HIa:=hid (HI.out.go hal)
   have Ba:=hid (B.out.trans (hal.mono B.out.size))
   have Ra:=hid (Rg.out.go hal)
   clear hal HI B Rg
   go_wp2_with fail
   generalize wr.alloc (.cells #[.int .u8 1,.string ⟨#[47,97,47,98]⟩,.string ⟨#[]⟩,.int .u16 5,.int .u32 0,.int .u32 0,.string ⟨#[]⟩] 31)=W at *
   clear k0 k1 k2 k3 k4 k5 k6
   refine (CA1.out W A' n' c' HIa.out HN.out.1 HN.out.2).mono ?_
   rintro e w2 ⟨A2,n2,c2,A9,m9,c9,rfl,hm9,hn2,hc2,hI2,_,hb⟩
   replace hm9:m9=0:=hm9
   subst hm9
   have HI2:=hid hI2
   have B2:=hid (Ba.out.trans (hb.mono Ba.out.size))
   have R2:=hid (Ra.out.go hb)
   have HN2:=hid (show n2≤c2∧c2≤maxLen from⟨hn2,hc2⟩)
   clear hI2 hb hn2 hc2 HIa Ba Ra
   have M:=made w2 #[.string ⟨#[]⟩,.int .u32 0,.int .u8 0,.int .u16 0,.int .u32 0,.int .u32 0,.string ⟨#[]⟩,.slice none 0 0] #[.string ⟨#[]⟩,.int .u32 0,.int .u8 0,.int .u16 0,.int .u32 0,.int .u32 0,.string ⟨#[]⟩,.slice A9 0 c9] 38
   go_wp2_with (refine wpList_store_row rfl 38 (.tmp 5) (.tmp 35) rfl w2.heap.size #[.string ⟨#[]⟩,.int .u32 0,.int .u8 0,.int .u16 0,.int .u32 0,.int .u32 0,.string ⟨#[]⟩,.slice A9 0 c9] rfl rfl 38 #[.string ⟨#[]⟩,.int .u32 0,.int .u8 0,.int .u16 0,.int .u32 0,.int .u32 0,.string ⟨#[]⟩,.slice none 0 0] (heap_alloc_new w2 _) (by kernel_rfl) rfl (row8 _ _ _ _ _ _ _ _ _ _) ?_)
   exact⟨⟨2,A2,n2,c2,by decide,by go_num,rfl,HN2.out.1,HN2.out.2,HI2.out.go M.2.1,B2.out.trans (M.2.1.mono B2.out.size),R2.out.go M.2.1⟩,by simp [intOf]⟩
  ·have k0:=Rg.out.cell 14 _ rfl
   have k1:=Rg.out.cell 15 _ rfl
   have k2:=Rg.out.cell 16 _ rfl
   have k3:=Rg.out.cell 17 _ rfl
   have k4:=Rg.out.cell 18 _ rfl
   have k5:=Rg.out.cell 19 _ rfl
   have k6:=Rg.out.cell 20 _ rfl
   have hal:Below wr.heap.size wr (wr.alloc (.cells #[.int .u8 6,.string ⟨#[47,97,47,98]⟩,.string ⟨#[]⟩,.int .u16 0,.int .u32 2,.int .u32 0,.string ⟨#[120]⟩] 31)):=(Below.refl _ _).alloc (Nat.le_refl _) _
   have HIa:=hid (HI.out.go hal)
   have Ba:=hid (B.out.trans (hal.mono B.out.size))
   have Ra:=hid (Rg.out.go hal)
   clear hal HI B Rg
   go_wp2_with fail
   generalize wr.alloc (.cells #[.int .u8 6,.string ⟨#[47,97,47,98]⟩,.string ⟨#[]⟩,.int .u16 0,.int .u32 2,.int .u32 0,.string ⟨#[120]⟩] 31)=W at *
   clear k0 k1 k2 k3 k4 k5 k6
   refine (CA2.out W A' n' c' HIa.out HN.out.1 HN.out.2).mono ?_
   rintro e w2 ⟨A2,n2,c2,A9,m9,c9,rfl,hm9,hn2,hc2,hI2,_,hb⟩
   replace hm9:m9=0:=hm9
   subst hm9
   have HI2:=hid hI2
   have B2:=hid (Ba.out.trans (hb.mono Ba.out.size))
   have R2:=hid (Ra.out.go hb)
   have HN2:=hid (show n2≤c2∧c2≤maxLen from⟨hn2,hc2⟩)
   clear hI2 hb hn2 hc2 HIa Ba Ra
   have M:=made w2 #[.string ⟨#[]⟩,.int .u32 0,.int .u8 0,.int .u16 0,.int .u32 0,.int .u32 0,.string ⟨#[]⟩,.slice none 0 0] #[.string ⟨#[]⟩,.int .u32 0,.int .u8 0,.int .u16 0,.int .u32 0,.int .u32 0,.string ⟨#[]⟩,.slice A9 0 c9] 38
   go_wp2_with (refine wpList_store_row rfl 38 (.tmp 5) (.tmp 35) rfl w2.heap.size #[.string ⟨#[]⟩,.int .u32 0,.int .u8 0,.int .u16 0,.int .u32 0,.int .u32 0,.string ⟨#[]⟩,.slice A9 0 c9] rfl rfl 38 #[.string ⟨#[]⟩,.int .u32 0,.int .u8 0,.int .u16 0,.int .u32 0,.int .u32 0,.string ⟨#[]⟩,.slice none 0 0] (heap_alloc_new w2 _) (by kernel_rfl) rfl (row8 _ _ _ _ _ _ _ _ _ _) ?_)
   exact⟨⟨3,A2,n2,c2,by decide,by go_num,rfl,HN2.out.1,HN2.out.2,HI2.out.go M.2.1,B2.out.trans (M.2.1.mono B2.out.size),R2.out.go M.2.1⟩,by simp [intOf]⟩
  ·have k0:=Rg.out.cell 21 _ rfl
   have k1:=Rg.out.cell 22 _ rfl
   have k2:=Rg.out.cell 23 _ rfl
   have k3:=Rg.out.cell 24 _ rfl
   have k4:=Rg.out.cell 25 _ rfl
   have k5:=Rg.out.cell 26 _ rfl
   have k6:=Rg.out.cell 27 _ rfl
   have hal:Below wr.heap.size wr (wr.alloc (.cells #[.int .u8 8,.string ⟨#[47,97]⟩,.string ⟨#[47,99]⟩,.int .u16 0,.int .u32 0,.int .u32 0,.string ⟨#[]⟩] 31)):=(Below.refl _ _).alloc (Nat.le_refl _) _
   have HIa:=hid (HI.out.go hal)
   have Ba:=hid (B.out.trans (hal.mono B.out.size))
   have Ra:=hid (Rg.out.go hal)
   clear hal HI B Rg
   go_wp2_with fail
   generalize wr.alloc (.cells #[.int .u8 8,.string ⟨#[47,97]⟩,.string ⟨#[47,99]⟩,.int .u16 0,.int .u32 0,.int .u32 0,.string ⟨#[]⟩] 31)=W at *
   clear k0 k1 k2 k3 k4 k5 k6
   refine (CA3.out W A' n' c' HIa.out HN.out.1 HN.out.2).mono ?_
   rintro e w2 ⟨A2,n2,c2,A9,m9,c9,rfl,hm9,hn2,hc2,hI2,_,hb⟩
   replace hm9:m9=0:=hm9
   subst hm9
   have HI2:=hid hI2
   have B2:=hid (Ba.out.trans (hb.mono Ba.out.size))
   have R2:=hid (Ra.out.go hb)
   have HN2:=hid (show n2≤c2∧c2≤maxLen from⟨hn2,hc2⟩)
   clear hI2 hb hn2 hc2 HIa Ba Ra
   have M:=made w2 #[.string ⟨#[]⟩,.int .u32 0,.int .u8 0,.int .u16 0,.int .u32 0,.int .u32 0,.string ⟨#[]⟩,.slice none 0 0] #[.string ⟨#[]⟩,.int .u32 0,.int .u8 0,.int .u16 0,.int .u32 0,.int .u32 0,.string ⟨#[]⟩,.slice A9 0 c9] 38
   go_wp2_with (refine wpList_store_row rfl 38 (.tmp 5) (.tmp 35) rfl w2.heap.size #[.string ⟨#[]⟩,.int .u32 0,.int .u8 0,.int .u16 0,.int .u32 0,.int .u32 0,.string ⟨#[]⟩,.slice A9 0 c9] rfl rfl 38 #[.string ⟨#[]⟩,.int .u32 0,.int .u8 0,.int .u16 0,.int .u32 0,.int .u32 0,.string ⟨#[]⟩,.slice none 0 0] (heap_alloc_new w2 _) (by kernel_rfl) rfl (row8 _ _ _ _ _ _ _ _ _ _) ?_)
   exact⟨⟨4,A2,n2,c2,by decide,by go_num,rfl,HN2.out.1,HN2.out.2,HI2.out.go M.2.1,B2.out.trans (M.2.1.mono B2.out.size),R2.out.go M.2.1⟩,by simp [intOf]⟩
  ·have HI:=hid (show ItA wr A' n' T4 from HI.out)
   go_wp2_with fail
   refine (CQ1.out wr A' n' c' HI.out HN.out.1 HN.out.2).mono ?_
   rintro e w2 ⟨A11,n11,c11,A21,m21,c21,rfl,hm9,hn9,hc9,hI9,hl9,hb⟩
   replace hm9:m21=0:=hm9
   subst hm9
   replace HI:=hid (HI.out.go hb)
   replace B:=gb B hb
   clear hI9 hn9 hc9 hl9
   clear hb
   go_wp2_with (first
    | (refine new_row rfl 38 (.tmp 8) (.tmp 46) rfl rfl #[.string ⟨#[0,0,120]⟩,.int .u32 0,.int .u8 0,.int .u16 0,.int .u32 0,.int .u32 0,.string ⟨#[]⟩,.slice A21 0 c21] rfl rfl (by kernel_rfl) rfl (row8 _ _ _ _ _ _ _ _ _ _) ?_;intro w3 M;replace HI:=hid (HI.out.go M.2.1);replace B:=gb B M.2.1;have Ra:=hid M.1;obtain⟨ca0,ca1,ca2,ca3,ca4,ca5,ca6,ca7⟩:=cl8 Ra.out;clear M)
    | (go_at_call 14;refine (CQ2.out w3 A' n' c' HI.out HN.out.1 HN.out.2).mono ?_;rintro e w4 ⟨A12,n12,c12,A22,m22,c22,rfl,hm9,hn9,hc9,hI9,hl9,hb⟩;replace hm9:m22=0:=hm9;subst hm9;clear ca0 ca1 ca2 ca3 ca4 ca5 ca6 ca7;replace Ra:=gg Ra hb;replace HI:=hid (HI.out.go hb);replace B:=gb B hb;clear hI9 hn9 hc9 hl9;obtain⟨ca0,ca1,ca2,ca3,ca4,ca5,ca6,ca7⟩:=cl8 Ra.out;clear hb)
    | (refine new_row rfl 38 (.tmp 11) (.tmp 53) rfl rfl #[.string ⟨#[]⟩,.int .u32 3,.int .u8 2,.int .u16 5,.int .u32 1,.int .u32 3,.string ⟨#[]⟩,.slice A22 0 c22] rfl rfl (by kernel_rfl) rfl (row8 _ _ _ _ _ _ _ _ _ _) ?_;intro w5 M;clear ca0 ca1 ca2 ca3 ca4 ca5 ca6 ca7;replace Ra:=gg Ra M.2.1;replace HI:=hid (HI.out.go M.2.1);replace B:=gb B M.2.1;have Rb:=hid M.1;obtain⟨ca0,ca1,ca2,ca3,ca4,ca5,ca6,ca7⟩:=cl8 Ra.out;obtain⟨cb0,cb1,cb2,cb3,cb4,cb5,cb6,cb7⟩:=cl8 Rb.out;clear M)
    | (go_at_call 14;refine (CQ3.out w5 A' n' c' HI.out HN.out.1 HN.out.2).mono ?_;rintro e w6 ⟨A13,n13,c13,A23,m23,c23,rfl,hm9,hn9,hc9,hI9,hl9,hb⟩;replace hm9:m23=0:=hm9;subst hm9;clear ca0 ca1 ca2 ca3 ca4 ca5 ca6 ca7 cb0 cb1 cb2 cb3 cb4 cb5 cb6 cb7;replace Ra:=gg Ra hb;replace Rb:=gg Rb hb;replace HI:=hid (HI.out.go hb);replace B:=gb B hb;clear hI9 hn9 hc9 hl9;obtain⟨ca0,ca1,ca2,ca3,ca4,ca5,ca6,ca7⟩:=cl8 Ra.out;obtain⟨cb0,cb1,cb2,cb3,cb4,cb5,cb6,cb7⟩:=cl8 Rb.out;clear hb)
    | (refine new_row rfl 38 (.tmp 14) (.tmp 60) rfl rfl #[.string ⟨#[]⟩,.int .u32 0,.int .u8 0,.int .u16 0,.int .u32 0,.int .u32 0,.string ⟨#[]⟩,.slice A23 0 c23] rfl rfl (by kernel_rfl) rfl (row8 _ _ _ _ _ _ _ _ _ _) ?_;intro w7 M;clear ca0 ca1 ca2 ca3 ca4 ca5 ca6 ca7 cb0 cb1 cb2 cb3 cb4 cb5 cb6 cb7;replace Ra:=gg Ra M.2.1;replace Rb:=gg Rb M.2.1;replace HI:=hid (HI.out.go M.2.1);replace B:=gb B M.2.1;have Rc:=hid M.1;obtain⟨ca0,ca1,ca2,ca3,ca4,ca5,ca6,ca7⟩:=cl8 Ra.out;obtain⟨cb0,cb1,cb2,cb3,cb4,cb5,cb6,cb7⟩:=cl8 Rb.out;obtain⟨cc0,cc1,cc2,cc3,cc4,cc5,cc6,cc7⟩:=cl8 Rc.out;clear M)
    | (go_at_call 14;refine (CQ4.out w7 A' n' c' HI.out HN.out.1 HN.out.2).mono ?_;rintro e w8 ⟨A14,n14,c14,A24,m24,c24,rfl,hm9,hn9,hc9,hI9,hl9,hb⟩;replace hm9:m24=1:=hm9;subst hm9;have HL9:=hid hl9;clear ca0 ca1 ca2 ca3 ca4 ca5 ca6 ca7 cb0 cb1 cb2 cb3 cb4 cb5 cb6 cb7 cc0 cc1 cc2 cc3 cc4 cc5 cc6 cc7;replace Ra:=gg Ra hb;replace Rb:=gg Rb hb;replace Rc:=gg Rc hb;replace HI:=hid (HI.out.go hb);replace B:=gb B hb;clear hI9 hn9 hc9 hl9;obtain⟨ca0,ca1,ca2,ca3,ca4,ca5,ca6,ca7⟩:=cl8 Ra.out;obtain⟨cb0,cb1,cb2,cb3,cb4,cb5,cb6,cb7⟩:=cl8 Rb.out;obtain⟨cc0,cc1,cc2,cc3,cc4,cc5,cc6,cc7⟩:=cl8 Rc.out;clear hb)
    | (refine new_row rfl 38 (.tmp 17) (.tmp 67) rfl rfl #[.string ⟨#[]⟩,.int .u32 0,.int .u8 0,.int .u16 0,.int .u32 0,.int .u32 0,.string ⟨#[]⟩,.slice A24 1 c24] rfl rfl (by kernel_rfl) rfl (row8 _ _ _ _ _ _ _ _ _ _) ?_;intro w9 M;clear ca0 ca1 ca2 ca3 ca4 ca5 ca6 ca7 cb0 cb1 cb2 cb3 cb4 cb5 cb6 cb7 cc0 cc1 cc2 cc3 cc4 cc5 cc6 cc7;replace Ra:=gg Ra M.2.1;replace Rb:=gg Rb M.2.1;replace Rc:=gg Rc M.2.1;replace HI:=hid (HI.out.go M.2.1);obtain⟨eb,eo,he9,hlt9,hr9⟩:=HL9.out 0 ⟨⟨#[99]⟩,2,1⟩ rfl;have e90:=hr9 0 _ rfl;have e91:World.cell? _ ⟨eb,eo,none⟩=some (Value.string ⟨#[99]⟩):=(World.cell?_of_block (a:=⟨eb,eo,none⟩) (M.2.1.block eb hlt9)).trans (by have e92:=e90;simp only [Nat.zero_mul,Nat.add_zero] at e92;exact e92);clear hr9 e90;subst he9;replace B:=gb B M.2.1;have Rd:=hid M.1;obtain⟨ca0,ca1,ca2,ca3,ca4,ca5,ca6,ca7⟩:=cl8 Ra.out;obtain⟨cb0,cb1,cb2,cb3,cb4,cb5,cb6,cb7⟩:=cl8 Rb.out;obtain⟨cc0,cc1,cc2,cc3,cc4,cc5,cc6,cc7⟩:=cl8 Rc.out;obtain⟨cd0,cd1,cd2,cd3,cd4,cd5,cd6,cd7⟩:=cl8 Rd.out;clear M))
   go_ret
   exact⟨rfl,B.out⟩
end Go.Proofs.YtopepebcnaikiaaGreatDoor.Fi
namespace Go.Proofs.YtopepebcnaikiaaGreatDoor.Fi
open Lib (hid)
set_option linter.unusedVariables false
set_option linter.unusedSimpArgs false
open Ino
open It (Itm Ch get und app dif rt rc key ckey UpK get_iff rt_iff rt_up don donL donL_true lt mem_app mem_don up_app itm get_don app_cons app_nil)
open Di
open Ph (nb spX spB laX laD laN)
variable {L M:List Itm}{p q v:ByteArray}
theorem don_len (c:Ch):∀ (D:List Itm) (put:Bool),(donL c put D).length≤D.length+1
 | [],put=>by cases put<;>simp [donL]
 | x::r,true=>by
  rw [donL_true]
  exact Nat.le_trans (List.length_filter_le _ _) (by simp)
 | x::r,false=>by
  rw [donL]
  have h2:(if key x=ckey c then [] else [x]).length≤1:=by split<;>simp
  by_cases h:lt (key x) (ckey c)=true
  ·rw [h]
   have:=don_len c r false
   simp only [Bool.not_true,Bool.and_false,Bool.false_eq_true,if_false,List.nil_append,List.length_append,Bool.or_false,List.length_cons]
   omega
  ·have h:lt (key x) (ckey c)=false:=by simpa using h
   rw [h,show (false||!false)=true from rfl,donL_true]
   have h1:=List.length_filter_le (fun x=>decide (key x≠ckey c)) r
   simp only [Bool.not_false,Bool.and_true,if_true,List.length_append,List.length_cons,List.length_nil]
   omega
theorem app_len:∀ (C:List Ch) (D:List Itm),(app D C).length≤D.length+C.length
 | [],D=>by simp [app]
 | c::C,D=>by
  rw [app_cons]
  have h1:=app_len C (don c D)
  have h2:(don c D).length≤D.length+1:=don_len c D _
  simp only [List.length_cons]
  omega
theorem aft_tl {o:Op}(ht:tells o):aft L o=L:=by
 by_cases h:dX L o=0
 ·exact aft_td (dX_rgt h) ht
 ·exact aft_no h
theorem dT_ch {o:Op}(ht:¬ tells o):dT L o=zTd:=by
 unfold dT
 split
 all_goals first | rfl | rw [if_neg ht]
theorem ld_some (h:rgt L=true){fo:Bool}(h0:ldX L p fo=0):∃ n,(vo (pts L)).ino (ldI L p fo)=some n∧(fo=true→n.K≠3):=by
 unfold ldI
 rw [if_pos h0]
 unfold ldX at h0
 split at h0
 ·exact wlk_some h h0
 ·exact absurd h0 (by assumption)
def oD (p q:ByteArray):Op:=⟨16,p,q,0,0,0,⟨#[]⟩⟩
variable {L M:List Itm}{p:ByteArray}{a:Nat}
def oT (p:ByteArray):Op:=⟨11,p,⟨#[]⟩,0,0,0,⟨#[]⟩⟩
def oM (p:ByteArray) (a:Nat):Op:=⟨13,p,⟨#[]⟩,a,0,0,⟨#[]⟩⟩
theorem oT_t:tells (oT p):=.inr (.inl rfl)
theorem dX_oT (h:rgt L=true):dX L (oT p)=ldX L p true:=by
 rw [dX_td h oT_t]
 rfl
theorem nd_some (h:rgt L=true){i:Nat}{n:In}(hn:(vo (pts L)).ino i=some n):nd L i=n:=by
 have:=ino_num h hn
 rw [nd_ino h this.1 this.2.1,hn]
 rfl
end Go.Proofs.YtopepebcnaikiaaGreatDoor.Fi
namespace Go.Proofs.YtopepebcnaikiaaGreatDoor.Fi
open Lib (hid)
set_option linter.unusedVariables false
set_option linter.unusedSimpArgs false
open Ino
open It (Itm Ch get und app dif rt rc key ckey UpK get_iff rt_iff rt_up don mem_app mem_don up_app itm get_don app_cons app_nil okC okKey)
open Di
open Ph (nb spX spB laX laD laN la_ok la_err la_none)
variable {L M:List Itm}{s s':Vo}{C:List Ch}{p:ByteArray}
set_option maxRecDepth 100000
variable {L M:List Itm}{p:ByteArray}
open Pk (nB)
variable {L M:List Itm}{s s':Vo}{C:List Ch}{p:ByteArray}
variable {L M:List Itm}{s s':Vo}{C:List Ch}{p:ByteArray}
theorem wkN_mono {fo:Bool}(hE:∀ k j,s.ent k=some j→s'.ent k=some j∧kind s' j=kind s j∧tgtOf s' j=tgtOf s j){nx nx':ByteArray→List ByteArray→Nat×Int}(h:∀ t ys,(nx t ys).2=0→nx' t ys=nx t ys):∀ (xs:List ByteArray) (a:Nat),kind s' a=kind s a→(wkN s fo nx a xs).2=0→wkN s' fo nx' a xs=wkN s fo nx a xs
 | [],a,_,_=>rfl
 | x::xs,a,ha,h0=>by
  simp only [wkN] at h0 ⊢
  rw [ha]
  by_cases hk:kind s a≠1
  ·rw [if_pos hk] at h0;cases h0
  ·rw [if_neg hk] at h0 ⊢
   cases he:s.ent ⟨2,a,x,0⟩ with
   | none=>rw [he] at h0;cases h0
   | some j =>
    obtain⟨e1,e2,e3⟩:=hE _ _ he
    rw [he] at h0
    rw [e1,if_neg hk]
    dsimp only at h0 ⊢
    rw [e2,e3]
    split at h0
    ·rename_i h1
     rw [if_pos h1,if_pos h1]
     exact wkN_mono hE h xs j e2 h0
    ·rename_i h1
     rw [if_neg h1,if_neg h1]
     exact h _ _ h0
theorem wkL_mono {fo:Bool}(hE:∀ k j,s.ent k=some j→s'.ent k=some j∧kind s' j=kind s j∧tgtOf s' j=tgtOf s j) (h1:kind s' 1=kind s 1):∀ (r a:Nat) (xs:List ByteArray),kind s' a=kind s a→(wkL s fo r a xs).2=0→wkL s' fo r a xs=wkL s fo r a xs
 | 0,a,xs,ha,h0=>wkN_mono hE (fun _ _ _=>rfl) xs a ha h0
 | r+1,a,xs,ha,h0=>wkN_mono hE (fun t ys h2=>by
  split
  ·rename_i h3
   rw [if_pos h3] at h2
   exact wkL_mono hE h1 r 1 _ h1 h2
  ·rfl) xs a ha h0
def makes (o:Op):Prop:=o.K=1∨o.K=2∨o.K=3
end Go.Proofs.YtopepebcnaikiaaGreatDoor.Fi
namespace Go.Proofs.YtopepebcnaikiaaGreatDoor.Da
open Lib (hid)
set_option linter.unusedVariables false
set_option linter.unusedSimpArgs false
open It (Itm Ch ckey key get app lastV get_app get_iff rt rt_iff rc rc_iff UpK okC okI okKey rt_app up_app)
theorem rdC_none (cs:List Ck) (a e:Nat) (h:e≤a):rdC cs a e=[]:=List.eq_nil_of_length_eq_zero (by rw [rdC_len];omega)
theorem wrE_zero {D:List Itm}{I o:Nat}{s:ByteArray}(h:wrE D I o s=0):ec D I=0∧o+s.size≤65536:=by
 unfold wrE at h
 split at h
 ·rename_i he
  split at h
  ·cases h
  ·exact⟨he,by omega⟩
 ·rename_i he;exact absurd h he
theorem ec_ok {D:List Itm}(hD:rt D=true){I:Nat}(hI:1≤I):ec D I=0:=by unfold ec;rw [hD,if_pos rfl,if_neg (by omega)]
theorem rdE_of {D:List Itm}{I z:Nat}(h:ec D I=0) (hz:z≤65536):rdE D I z=0:=by unfold rdE;rw [if_pos h,if_neg (by omega)]
theorem rdV_of {D:List Itm}{I z o n:Nat}(h:rdE D I z=0):rdV D I z o n=⟨(rdC (chs D I) o (min (o+n) z)).toArray⟩:=by unfold rdV;rw [if_pos h]
theorem szl (s:ByteArray):s.data.toList.length=s.size:=bsl s
section
variable {D:List Itm}{I o:Nat}{s:ByteArray}
theorem back_all (hI2:I<4294967296) (h:wrE D I o s=0):rt D=true∧1≤I∧o+s.data.toList.length≤65536∧rc (wrL (chs D I) I o s.data.toList)=true∧rt (wrD D I o s.data.toList)=true:=by
 obtain⟨h1,h2⟩:=wrE_zero h
 obtain⟨hr,hI⟩:=ec_zero h1
 have hp:o+s.data.toList.length≤65536:=by rw [szl];exact h2
 exact⟨hr,hI,hp,wrD_rt hr hI hI2 hp⟩
theorem back_read (hI2:I<4294967296) (h:wrE D I o s=0):rdE (wrD D I o s.data.toList) I 65536=0∧rdV (wrD D I o s.data.toList) I 65536 o s.size=s:=by
 obtain⟨hr,hI,hp,_,hm⟩:=back_all hI2 h
 have he:=rdE_of (ec_ok hm hI) (Nat.le_refl 65536)
 refine⟨he,?_⟩
 rw [rdV_of he]
 have hl:=szl s
 have:rdC (chs (wrD D I o s.data.toList) I) o (min (o+s.size) 65536)=s.data.toList:=by
  rw [Nat.min_eq_left (by omega)]
  apply List.ext_getElem?
  intro j
  by_cases hj:j<s.size
  ·rw [rdC_get _ _ _ _ (by omega),wrD_bt hr hI hI2 hp (by omega),if_pos (by omega),show o+j-o=j by omega]
   unfold zb
   rw [List.getElem?_eq_getElem (by omega)]
   rfl
  ·rw [List.getElem?_eq_none (by rw [rdC_len];omega),List.getElem?_eq_none (by omega)]
 rw [this]
end
set_option linter.unusedVariables false
set_option linter.unusedSimpArgs false
open It (Itm Ch ckey key get app lastV get_app get_iff rt rt_iff rc rc_iff UpK okC okI okKey rt_app up_app)
open Tm (cutL cutB)
theorem ct_cons (c:Ck) (cs:List Ck) (z:Nat):ctL (c::cs) z=ctC z c++ctL cs z:=by unfold ctL;rw [List.flatMap_cons]
theorem ct_one (z:Nat) (c:Ck) (K:ByteArray) (o:Option ByteArray):lastV K o (ctC z c)=if c.k=K∧(z-c.n*128=0∨z-c.n*128<c.v.size) then ov (kpC c.k (c.v.extract 0 (z-c.n*128))) else o:=by
 unfold ctC
 by_cases h:z-c.n*128=0∨z-c.n*128<c.v.size
 ·rw [if_pos h]
  show (if ckey (kpC c.k (c.v.extract 0 (z-c.n*128)))=K.data.toList then ov (kpC c.k (c.v.extract 0 (z-c.n*128))) else o)=_
  have:ckey (kpC c.k (c.v.extract 0 (z-c.n*128)))=K.data.toList↔c.k=K:=ba_list
  by_cases hk:c.k=K
  ·rw [if_pos (this.2 hk),if_pos ⟨hk,h⟩]
  ·rw [if_neg (fun e=>hk (this.1 e)),if_neg (fun e=>hk e.1)]
 ·rw [if_neg h,if_neg (fun e=>h e.2)]
  rfl
theorem ct_last1 (z:Nat) (K:ByteArray):∀ (cs:List Ck) (o:Option ByteArray),(∀ c∈cs,c.k≠K)→lastV K o (ctL cs z)=o
 | [],_,_=>rfl
 | c::cs,o,h=>by
  rw [ct_cons,lastV_app,ct_one,if_neg (fun e=>h c List.mem_cons_self e.1)]
  exact ct_last1 z K cs o fun d hd=>h d (List.mem_cons_of_mem _ hd)
theorem ct_last2 (z:Nat):∀ (cs:List Ck) (o:Option ByteArray) (c:Ck),cs.Pairwise (fun a b=>a.k≠b.k)→c∈cs→lastV c.k o (ctL cs z)=if z-c.n*128=0∨z-c.n*128<c.v.size then ov (kpC c.k (c.v.extract 0 (z-c.n*128))) else o
 | d::cs,o,c,hp,hc=>by
  obtain⟨h1,h2⟩:=List.pairwise_cons.1 hp
  rw [ct_cons,lastV_app,ct_one]
  rcases List.mem_cons.1 hc with rfl | hc
  ·rw [ct_last1 z c.k cs _ fun d hd e=>h1 d hd e.symm]
   by_cases h:z-c.n*128=0∨z-c.n*128<c.v.size
   ·rw [if_pos h,if_pos ⟨rfl,h⟩]
   ·rw [if_neg h,if_neg (fun e=>h e.2)]
  ·rw [if_neg (fun e=>h1 c hc e.1)]
   exact ct_last2 z cs o c h2 hc
theorem chs_keys {D:List Itm}{I:Nat}(hr:rt D=true) (hI:1≤I) (hI2:I<4294967296):(chs D I).Pairwise fun a b=>a.k≠b.k :=
 List.Pairwise.imp_of_mem (fun {a b} ha hb hlt e=>by
  obtain⟨k,v,hk,_,rfl⟩:=(mem_chs hI hI2 a).1 ha
  obtain⟨l,u,hl,_,rfl⟩:=(mem_chs hI hI2 b).1 hb
  have h1:k<l:=hlt
  have h2:=(cky_inj hI hI2 hI hI2 hk hl e).2
  omega) (chs_up hr hI hI2)
def ctD (D:List Itm) (I z:Nat):List Itm:=app D (ctL (chs D I) z)
section
variable {D:List Itm}{I z:Nat}
theorem ctD_rt (hr:rt D=true) (hI:1≤I) (hI2:I<4294967296):rc (ctL (chs D I) z)=true∧rt (ctD D I z)=true:=by
 have h:rc (ctL (chs D I) z)=true:=rc_iff.2 fun x hx=>by
  obtain⟨c,hc,hx⟩:=List.mem_flatMap.1 hx
  obtain⟨k,v,hk,_,rfl⟩:=(mem_chs hI hI2 c).1 hc
  have hv:=(chs_sz hr hI hI2 _ hc).2
  unfold ctC at hx
  split at hx
  ·rw [List.mem_singleton.1 hx]
   refine okC_kp (cky_ok hI hk) ?_
   have hv:v.size≤160:=hv
   show (v.extract 0 (z-k*128)).size≤160
   simp
   omega
  ·cases hx
 exact⟨h,rt_app hr h⟩
theorem ctD_get (hr:rt D=true) (K:ByteArray):get (ctD D I z) K=lastV K (get D K) (ctL (chs D I) z):=get_app K _ (rt_iff.1 hr).1
theorem ct_yes (hr:rt D=true) (hI:1≤I) (hI2:I<4294967296){k:Nat}(hk:k<512){v:ByteArray}(hg:get D (cky I k)=some v) :
  get (ctD D I z) (cky I k)=if z-k*128=0∨z-k*128<v.size then ov (kpC (cky I k) (v.extract 0 (z-k*128))) else some v:=by
 have hm:(⟨k,cky I k,true,v⟩:Ck)∈chs D I:=(mem_chs hI hI2 _).2 ⟨k,v,hk,(get_iff (rt_iff.1 hr).1 _ _).1 hg,rfl⟩
 rw [ctD_get hr,hg]
 exact ct_last2 z (chs D I) (some v) ⟨k,cky I k,true,v⟩ (chs_keys hr hI hI2) hm
theorem ct_far (hr:rt D=true) (hI:1≤I) (hI2:I<4294967296){K:ByteArray}(hK:∀ k v,k<512→get D (cky I k)=some v→cky I k≠K):get (ctD D I z) K=get D K:=by
 rw [ctD_get hr]
 exact ct_last1 z K _ _ fun c hc=>by
  obtain⟨k,v,hk,hm,rfl⟩:=(mem_chs hI hI2 c).1 hc
  exact hK k v hk ((get_iff (rt_iff.1 hr).1 _ _).2 hm)
theorem ct_none (hr:rt D=true) (hI:1≤I) (hI2:I<4294967296){k:Nat}(hk:k<512) (hg:get D (cky I k)=none):get (ctD D I z) (cky I k)=none:=by
 rw [ct_far hr hI hI2 fun l v hl hv e=>by rw [e,hg] at hv;cases hv]
 exact hg
theorem zb_ext0 (v:ByteArray) (a j:Nat):zb (v.extract 0 a).data.toList j=if j<a then zb v.data.toList j else 0:=by
 unfold zb
 rw [ByteArray.data_extract,Array.toList_extract,List.extract_eq_take_drop,List.drop_zero,Nat.sub_zero,List.getElem?_take]
 split<;>rfl
theorem ctD_bt (hr:rt D=true) (hI:1≤I) (hI2:I<4294967296){P:Nat}(hP:P<65536):btC (chs (ctD D I z) I) P=if P<z then btC (chs D I) P else 0:=by
 rw [btC_get (ctD_rt hr hI hI2).2 hI hI2 hP,btC_get hr hI hI2 hP]
 cases hg:get D (cky I (P / 128)) with
 | none =>
  rw [ct_none hr hI hI2 (by omega) hg]
  show (0:UInt8)=if P<z then 0 else 0
  split<;>rfl
 | some v =>
  rw [ct_yes hr hI hI2 (by omega) hg]
  by_cases h:z-P / 128*128=0∨z-P / 128*128<v.size
  ·rw [if_pos h,bo_kp,zb_ext0]
   have e:(P%128<z-P / 128*128)↔P<z:=by omega
   by_cases hz:P<z
   ·rw [if_pos (e.2 hz),if_pos hz];rfl
   ·rw [if_neg (fun x=>hz (e.1 x)),if_neg hz]
  ·rw [if_neg h]
   by_cases hz:P<z
   ·rw [if_pos hz]
   ·rw [if_neg hz]
    exact zb_out (by rw [bsl];omega)
end
end Go.Proofs.YtopepebcnaikiaaGreatDoor.Da
namespace Go.Proofs.YtopepebcnaikiaaGreatDoor.Fi
open Lib (hid)
set_option linter.unusedVariables false
set_option linter.unusedSimpArgs false
set_option maxRecDepth 100000
open Ino
open It (Itm Ch get und app dif rt rc key ckey UpK get_iff rt_iff rt_up don mem_app mem_don up_app itm get_don app_cons app_nil okC okKey)
open Di
open Da (chs cky kyC kyC_ok kyC_lim cky_parse cky_inj)
open Pk (nB)
open Ph (nb spX spB laX laD laN la_ok la_err la_none)
variable {L M:List Itm}{s s':Vo}{C:List Ch}{p:ByteArray}
theorem lz_iff {v:ByteArray}(h:0<v.size):lz v=true↔v.data.toList.getLast?=some 0:=by
 unfold lz
 rw [beq_iff_eq,ByteArray.toList_eq,ByteArray.data_extract,Array.toList_extract,List.extract_eq_take_drop]
 have hl:v.data.toList.length=v.size:=by rw [Array.length_toList];rfl
 generalize v.data.toList=l at *
 rcases List.eq_nil_or_concat l with rfl | ⟨r,a,rfl⟩
 ·simp at hl;omega
 ·rw [List.length_concat] at hl
  have e:v.size-1=r.length:=by omega
  rw [e,show v.size-r.length=1 by omega]
  simp
theorem okX_I {i:Nat}{n:In}(hi1:1≤i) (hi:i<4294967296) (ho:okI n=true) (hl:n.lim):okX ⟨Fi.kI i,enI n⟩=true:=by
 unfold okX
 dsimp only
 rw [kI_wr hi1,(deK_back (kI_lim hi) (kI_ok hi1)).2]
 unfold okP ptOf
 dsimp only
 rw [(deK_back (kI_lim hi) (kI_ok hi1)).1,if_pos (show (Di.kI i).K=1 from rfl),(chI_yes ho).2,(deI_back hl ho).2]
 rfl
theorem up_same (h:s'.abv=s.abv):∀ k i,up s' k i=up s k i
 | 0,_=>rfl
 | k+1,i=>by
  show up s' k (s'.abv i)=up s k (s.abv i)
  rw [h,up_same h k]
set_option maxHeartbeats 1000000 in
theorem chunk_right (h:rgt L=true){i z:Nat}{n:In}(hn:(vo (pts L)).ino i=some n) (hK:n.K=2) (hz:z≤65536) (hM:rt M=true) (hgI:get M (Fi.kI i)=some (enI { n with S:=z })) (hfar:∀ K,K≠Fi.kI i→(∀ k,k<512→K≠cky i k)→get M K=get L K)
  (hck:∀ k v,k<512→get M (cky i k)=some v→v.size≤128∧0<v.size∧v.data.toList.getLast?≠some 0∧k*128+v.size≤z):rgt M=true∧(vo (pts M)).ino i=some { n with S:=z }∧(∀ j,j≠i→(vo (pts M)).ino j=(vo (pts L)).ino j)∧(vo (pts M)).ent=(vo (pts L)).ent:=by
 have hr:=rgt_iff.1 h
 obtain⟨hi1,hi2,hi3,hi4⟩:=ino_num h hn
 have hoi:okI { n with S:=z }=true:=by
  rw [okI_iff] at hi3 ⊢
  dsimp only
  omega
 have hlim:In.lim { n with S:=z }:=⟨hi4.1,hi4.2.1,hi4.2.2.1,by show z<4294967296;omega⟩
 have hzK:({ n with S:=z }:In).K=2:=hK
 have hzL:({ n with S:=z }:In).L=n.L:=rfl
 have hzS:({ n with S:=z }:In).S=z:=rfl
 generalize hn':({ n with S:=z }:In)=n' at *
 have hkI:deK (Fi.kI i)=Di.kI i:=by rw [kI_wr hi1];exact (deK_back (kI_lim hi2) (kI_ok hi1)).1
 have hgm:∀ x,x∈M↔get M x.k=some x.v:=fun x=>(get_some hM (k:=x.k) (v:=x.v)).symm
 have hgl:∀ x,x∈L↔get L x.k=some x.v:=fun x=>(get_some hr.rt (k:=x.k) (v:=x.v)).symm
 -- three kinds of items
 have hcls:∀ x∈M,x=⟨Fi.kI i,enI n'⟩∨(∃ k,k<512∧x.k=cky i k)∨(x∈L∧x.k≠Fi.kI i∧∀ k,k<512→x.k≠cky i k):=fun x hx=>by
  by_cases h1:x.k=Fi.kI i
  ·left
   have:=(hgm x).1 hx
   rw [h1,hgI] at this
   obtain⟨a,b⟩:=x
   dsimp only at h1 this
   rw [h1,Option.some.inj this]
  ·by_cases h2:∃ k,k<512∧x.k=cky i k
   ·exact .inr (.inl h2)
   ·have h3:∀ k,k<512→x.k≠cky i k:=fun k hk e=>h2 ⟨k,hk,e⟩
    exact .inr (.inr ⟨(hgl x).2 (by rw [← hfar _ h1 h3];exact (hgm x).1 hx),h1,h3⟩)
 have hokM:∀ x∈M,okX x=true:=fun x hx=>by
  rcases hcls x hx with rfl | ⟨k,hk,e⟩ | ⟨h3,_⟩
  ·exact okX_I hi1 hi2 hoi hlim
  ·obtain⟨c1,c2⟩:=cky_parse hi1 hi2 hk
   obtain⟨d1,d2,d3,_⟩:=hck k x.v hk (by rw [← e];exact (hgm x).1 hx)
   unfold okX
   rw [e,c2]
   unfold okP ptOf
   rw [e,c1]
   have e4:lz x.v=false:=by
    cases e5:lz x.v with
    | false=>rfl
    | true=>exact absurd ((lz_iff d2).1 e5) d3
   dsimp only
   rw [if_neg (show ¬ (kyC i k).K=1 by show ¬ (3:Nat)=1;decide),if_neg (show ¬ (kyC i k).K=2 by show ¬ (3:Nat)=2;decide),if_pos (show (kyC i k).K=3 from rfl),e4,decide_eq_true (show x.v.size≠0 by omega),decide_eq_true d1]
   rfl
  ·exact hr.ok x h3
 -- entries
 have hen:M.filter isEn=L.filter isEn:=It.up_ext (UpK.sub (rt_up hM).1 List.filter_sublist) (UpK.sub (rgt_up h) List.filter_sublist) fun x=>by
  rw [List.mem_filter,List.mem_filter,hgm,hgl]
  constructor
  ·rintro ⟨h1,h2⟩
   have h3:=of_decide_eq_true h2
   refine⟨?_,h2⟩
   rw [← hfar,h1]
   ·intro e
    rw [e,hkI] at h3
    exact absurd (show (1:Nat)=2 from h3) (by decide)
   ·intro k hk e
    rw [e,(cky_parse hi1 hi2 hk).1] at h3
    exact absurd (show (3:Nat)=2 from h3) (by decide)
  ·rintro ⟨h1,h2⟩
   have h3:=of_decide_eq_true h2
   refine⟨?_,h2⟩
   rw [hfar,h1]
   ·intro e
    rw [e,hkI] at h3
    exact absurd (show (1:Nat)=2 from h3) (by decide)
   ·intro k hk e
    rw [e,(cky_parse hi1 hi2 hk).1] at h3
    exact absurd (show (3:Nat)=2 from h3) (by decide)
 obtain⟨hnmd,habv,hent⟩:(vo (pts M)).nmd=(vo (pts L)).nmd∧(vo (pts M)).abv=(vo (pts L)).abv∧(vo (pts M)).ent=(vo (pts L)).ent:=by
  obtain⟨a1,a2,a3⟩:=vo_ents (pts M)
  obtain⟨b1,b2,b3⟩:=vo_ents (pts L)
  rw [pts_ents,hen,← pts_ents] at a1 a2 a3
  exact⟨a1.trans b1.symm,a2.trans b2.symm,a3.trans b3.symm⟩
 have hinoi:(vo (pts M)).ino i=some n':=by
  rw [ino_all hM hokM,if_pos ⟨hi1,hi2⟩,hgI,Option.map_some,(chI_yes hoi).2,(deI_back hlim hoi).1]
 have hino:∀ j,j≠i→(vo (pts M)).ino j=(vo (pts L)).ino j:=by
  intro j hj
  rw [ino_all hM hokM,ino_all hr.rt hr.ok]
  by_cases hj1:1≤j∧j<4294967296
  ·have e1:deK (Fi.kI j)=Di.kI j:=by rw [kI_wr hj1.1];exact (deK_back (kI_lim hj1.2) (kI_ok hj1.1)).1
   rw [if_pos hj1,if_pos hj1,hfar]
   ·intro e
    rw [e,hkI] at e1
    exact hj (congrArg Ky.I e1).symm
   ·intro k hk e
    rw [e,(cky_parse hi1 hi2 hk).1] at e1
    exact absurd (show (3:Nat)=1 from congrArg Ky.K e1) (by decide)
  ·rw [if_neg hj1,if_neg hj1]
 have hi0:i≠1:=fun e=>by
  have h6:(vo (pts L)).ino 1=some n:=by rw [← e];exact hn
  have:=hr.root
  unfold kind at this
  rw [h6] at this
  have h5:n.K=1:=this
  omega
 refine⟨rgt_iff.2 ⟨hM,hokM,?_,fun q hq=>?_,?_⟩,hinoi,hino,hent⟩
 ·unfold kind
  rw [hino 1 (fun e=>hi0 e.symm)]
  exact hr.root
 ·obtain⟨x,hx,rfl⟩:=pts_mem hq
  rcases hcls x hx with rfl | ⟨k,hk,e⟩ | ⟨hxL,hx1,hx2⟩
  ·refine stray_of_1 (n:=n') ?_ ?_ (.inr ?_)
   ·show (deK (Fi.kI i)).K=1
    rw [hkI]
    rfl
   ·show (vo (pts M)).ino (deK (Fi.kI i)).I=some n'
    rw [hkI]
    exact hinoi
   ·show (vo (pts M)).nmd (deK (Fi.kI i)).I=n'.L
    rw [hkI,hnmd,hzL]
    obtain⟨p,hp,hp1,hpi,hpn⟩:=ino_of _ hn
    have:=stray_1 (hr.str p hp) hp1 (by rw [hpi];exact hn)
    rw [hpi] at this
    exact this.resolve_left hi0
  ·obtain⟨c1,c2⟩:=cky_parse hi1 hi2 hk
   obtain⟨d1,d2,d3,d4⟩:=hck k x.v hk (by rw [← e];exact (hgm x).1 hx)
   have e1:(ptOf x).k=kyC i k:=by
    show deK x.k=_
    rw [e,c1]
   unfold stray
   rw [e1]
   show (match (vo (pts M)).ino i with | none=>true | some n=>_)=false
   rw [hinoi]
   dsimp only
   rw [if_neg (show ¬ (kyC i k).K=1 by show ¬ (3:Nat)=1;decide),if_neg (show ¬ (kyC i k).K=2 by show ¬ (3:Nat)=2;decide),if_pos (show (kyC i k).K=3 from rfl),hzK,hzS]
   have e2:(ptOf x).v=x.v:=rfl
   rw [e2,decide_eq_false (show ¬ z<(kyC i k).C*128+x.v.size by show ¬ z<k*128+x.v.size;omega)]
   rfl
  ·have h3:=hr.str (ptOf x) (List.mem_map.2 ⟨x,hxL,rfl⟩)
   obtain⟨a,b,c,_⟩:=key_of h hxL
   by_cases hI:(ptOf x).k.I=i
   ·have hI':(deK x.k).I=i:=hI
    obtain⟨o1,o2⟩:=okK_iff.1 a
    unfold stray at h3 ⊢
    rw [hI,hn] at h3
    rw [hI,hinoi]
    dsimp only at h3 ⊢
    have e1:¬ (ptOf x).k.K=1:=fun e=>by
     obtain⟨e5,_⟩:=kI_of a e
     refine hx1 ?_
     rw [← b,e5,hI',kI_wr hi1]
    have e3:¬ (ptOf x).k.K=3:=fun e=>by
     have e':(deK x.k).K=3:=e
     have o4:(deK x.k).N.size=0∧(deK x.k).C<512:=by
      rcases o2 with ⟨q,_⟩ | ⟨q,_⟩ | ⟨_,q1,q2⟩
      ·omega
      ·omega
      ·exact⟨q1,q2⟩
     refine hx2 (deK x.k).C o4.2 ?_
     have e6:deK x.k=kyC i (deK x.k).C:=by
      have:=Ino.size0 o4.1
      generalize deK x.k=kk at *
      obtain⟨q1,q2,q3,q4⟩:=kk
      dsimp only at e' hI' this ⊢
      rw [e',hI',this]
      rfl
     unfold cky
     rw [← e6,b]
    rw [if_neg e1,if_neg e3] at h3
    rw [if_neg e1,if_neg e3]
    by_cases e2:(ptOf x).k.K=2
    ·rw [if_pos e2,hK] at h3
     cases h3
    ·rw [if_neg e2]
   ·have hnn:∀ j,((vo (pts M)).ino j).isNone=((vo (pts L)).ino j).isNone:=fun j=>by
     by_cases e:j=i
     ·rw [e,hinoi,hn];rfl
     ·rw [hino j e]
    have h4:stray (vo (pts M)) (ptOf x)=stray (vo (pts L)) (ptOf x):=by
     unfold stray
     rw [hino _ hI,hnmd,hent]
     cases (vo (pts L)).ino (ptOf x).k.I with
     | none=>rfl
     | some m =>
      dsimp only
      rw [hnn]
    rw [h4]
    exact h3
 ·intro j m hj hm
  have hji:j≠i:=fun e=>by
   rw [e,hinoi] at hj
   have:=Option.some.inj hj
   rw [← this,hzK] at hm
   exact absurd hm (by decide)
  rw [hino j hji] at hj
  obtain⟨k,hk2⟩:=hr.ups j m hj hm
  exact⟨k,by rw [up_same habv];exact hk2⟩
end Go.Proofs.YtopepebcnaikiaaGreatDoor.Fi
namespace Go.Proofs.YtopepebcnaikiaaGreatDoor.Fi
open Lib (hid)
set_option linter.unusedVariables false
set_option linter.unusedSimpArgs false
set_option maxRecDepth 100000
open Ino
open It (Itm Ch get und app dif rt rc key ckey UpK get_iff rt_iff rt_up don mem_app mem_don up_app itm get_don app_cons app_nil okC okKey)
open Di
open Da (chs cky kyC kyC_ok kyC_lim cky_parse cky_inj wrD ctD btC rdC rdV rdE wrE ec CnO zb bo wrL ctL)
open Pk (nB)
open Ph (nb spX spB laX laD laN la_ok la_err la_none)
variable {L M D:List Itm}{s s':Vo}{C:List Ch}{p:ByteArray}
theorem get_u (hu:UpK key L) (k k':ByteArray) (b:Bool) (v:ByteArray):get (app L [⟨k,b,v⟩]) k'=if k=k' then (if b then some v else none) else get L k':=by
 rw [app_cons,app_nil,get_don hu]
 have:(ckey (⟨k,b,v⟩:Ch)=k'.data.toList)↔k=k':=⟨fun e=>ByteArray.ext (Array.toList_inj.1 e),fun e=>by rw [e];rfl⟩
 simp only [this]
theorem lk_chunk (h:rgt L=true){i k:Nat}{n:In}{v:ByteArray}(hn:(vo (pts L)).ino i=some n) (hk:k<512) (hg:get L (cky i k)=some v):v.size≤128∧0<v.size∧v.data.toList.getLast?≠some 0∧k*128+v.size≤n.S:=by
 have hr:=rgt_iff.1 h
 obtain⟨hi1,hi2,_,_⟩:=ino_num h hn
 obtain⟨c1,c2⟩:=cky_parse hi1 hi2 hk
 obtain⟨x,hxk,hxv,hx⟩:∃ x:Itm,x.k=cky i k∧x.v=v∧x∈L:=⟨⟨cky i k,v⟩,rfl,rfl,(get_some hr.rt).1 hg⟩
 have ho:=(key_of h hx).2.2.2
 have hs:=hr.str (ptOf x) (List.mem_map.2 ⟨_,hx,rfl⟩)
 have e1:(ptOf x).k=kyC i k:=by
  show deK x.k=_
  rw [hxk,c1]
 have n1:¬ (kyC i k).K=1:=by show ¬ (3:Nat)=1;decide
 have n2:¬ (kyC i k).K=2:=by show ¬ (3:Nat)=2;decide
 unfold okP at ho
 rw [e1,if_neg n1,if_neg n2,if_pos (show (kyC i k).K=3 from rfl)] at ho
 simp only [Bool.and_eq_true,decide_eq_true_eq,Bool.not_eq_true'] at ho
 have e2:(ptOf x).v=v:=hxv
 rw [e2] at ho
 unfold stray at hs
 rw [e1,show (kyC i k).I=i from rfl,hn] at hs
 dsimp only at hs
 rw [if_neg n1,if_neg n2,if_pos (show (kyC i k).K=3 from rfl),e2] at hs
 rw [Bool.or_eq_false_iff,decide_eq_false_iff_not,decide_eq_false_iff_not] at hs
 have h3:¬ n.S<k*128+v.size:=hs.2
 refine⟨ho.2.1,by omega,fun e=>?_,by omega⟩
 rw [(lz_iff (by omega)).2 e] at ho
 exact absurd ho.2.2 (by decide)
theorem last_pos (hr:rt D=true){i k:Nat}{v:ByteArray}(hi1:1≤i) (hi2:i<4294967296) (hk:k<512) (hg:get D (cky i k)=some v) (h1:v.size≤128) (h2:0<v.size) (h3:v.data.toList.getLast?≠some 0):k*128+v.size-1<65536∧btC (chs D i) (k*128+v.size-1)≠0:=by
 refine⟨by omega,?_⟩
 rw [Da.btC_get hr hi1 hi2 (by omega),show (k*128+v.size-1) / 128=k by omega,show (k*128+v.size-1)%128=v.size-1 by omega,hg]
 unfold bo
 dsimp only
 have hl:=Da.bsl v
 rw [← hl]
 exact Da.last_zb h3 (by omega)
theorem chs_kept (hr:rt D=true){n:In}{i:Nat}(hi1:1≤i) (hi2:i<4294967296) (hc:rt (app D [kept n i])=true):chs (app D [kept n i]) i=chs D i:=by
 unfold chs
 have:und (app D [kept n i]) (pfx 3 i)=und D (pfx 3 i):=by
  unfold und
  refine It.up_ext (UpK.sub (rt_up hc).1 List.filter_sublist) (UpK.sub (rt_up hr).1 List.filter_sublist) fun x=>?_
  rw [List.mem_filter,List.mem_filter]
  have hne:It.pre (pfx 3 i) x=true→Fi.kI i≠x.k:=fun hp e=>by
   have h1:deK x.k=Di.kI i∧deKE x.k=0:=by rw [← e,kI_wr hi1];exact deK_back (kI_lim hi2) (kI_ok hi1)
   obtain⟨k,hk,e2,_⟩:=Da.ck_key hi1 hi2 hp h1.2
   have h3:=(cky_parse hi1 hi2 hk).1
   rw [← e2,h1.1] at h3
   exact absurd (show (1:Nat)=3 from congrArg Ky.K h3) (by decide)
  have hg:It.pre (pfx 3 i) x=true→(x∈app D [kept n i]↔x∈D):=fun hp=>by
   have a1:=get_some hc (k:=x.k) (v:=x.v)
   have a2:=get_some hr (k:=x.k) (v:=x.v)
   unfold kept at a1
   rw [get_u (rt_up hr).1,if_neg (hne hp)] at a1
   exact a1.symm.trans a2
  exact⟨fun ⟨a,b⟩=>⟨(hg b).1 a,b⟩,fun ⟨a,b⟩=>⟨(hg b).2 a,b⟩⟩
 rw [this]
theorem put_right (h:rgt L=true){i z:Nat}{n:In}(hn:(vo (pts L)).ino i=some n) (hK:n.K=2) (hz:z≤65536) (hD:rt D=true) (hfar:∀ K,(∀ k,k<512→K≠cky i k)→get D K=get L K) (hcn:∀ k,k<512→CnO (get D (cky i k)))
  (hb:∀ P,P<65536→btC (chs D i) P≠0→P<z):rc [kept { n with S:=z } i]=true∧rgt (app D [kept { n with S:=z } i])=true∧(vo (pts (app D [kept { n with S:=z } i]))).ino i=some { n with S:=z }∧(∀ j,j≠i→(vo (pts (app D [kept { n with S:=z } i]))).ino j=(vo (pts L)).ino j) ∧
  (vo (pts (app D [kept { n with S:=z } i]))).ent=(vo (pts L)).ent∧chs (app D [kept { n with S:=z } i]) i=chs D i:=by
 obtain⟨hi1,hi2,hi3,hi4⟩:=ino_num h hn
 have hoi:okI { n with S:=z }=true:=by
  rw [okI_iff] at hi3 ⊢
  dsimp only
  omega
 have hsz:(enI { n with S:=z }).size≤160:=by
  rw [(chI_yes hoi).2,wrI_size _ (by have:=(okI_size hoi).1;omega)]
  have:=(okI_size hoi).1
  omega
 have hrc:rc [kept { n with S:=z } i]=true:=by
  have:=rc_one (kI_ok hi1) true (enI { n with S:=z }) hsz (fun h=>by cases h)
  unfold kept
  rw [kI_wr hi1]
  exact this
 have hM:=It.rt_app hD hrc
 have hget:∀ K,get (app D [kept { n with S:=z } i]) K=if Fi.kI i=K then some (enI { n with S:=z }) else get D K:=fun K=>by
  unfold kept
  rw [get_u (rt_up hD).1]
  rfl
 have hne:∀ k,k<512→Fi.kI i≠cky i k:=fun k hk e=>by
  have h1:deK (cky i k)=Di.kI i:=by rw [← e,kI_wr hi1];exact (deK_back (kI_lim hi2) (kI_ok hi1)).1
  rw [(cky_parse hi1 hi2 hk).1] at h1
  exact absurd (show (3:Nat)=1 from congrArg Ky.K h1) (by decide)
 have hch:=chs_kept hD hi1 hi2 hM
 obtain⟨r1,r2,r3,r4⟩:=chunk_right h hn hK hz hM (by rw [hget,if_pos rfl]) (fun K h1 h2=>by rw [hget,if_neg (fun e=>h1 e.symm),hfar K h2]) (fun k v hk hg=>by
  rw [hget,if_neg (hne k hk)] at hg
  obtain⟨a1,a2,a3⟩:=hcn k hk v hg
  obtain⟨b1,b2⟩:=last_pos hD hi1 hi2 hk hg a1 a2 a3
  have:=hb _ b1 b2
  exact⟨a1,a2,a3,by omega⟩)
 exact⟨hrc,r1,r2,r3,r4,hch⟩
def oW (p:ByteArray) (o:Nat) (b:ByteArray):Op:=⟨6,p,⟨#[]⟩,0,o,0,b⟩
def oE (p:ByteArray) (o n:Nat):Op:=⟨5,p,⟨#[]⟩,0,o,n,⟨#[]⟩⟩
def oC (p:ByteArray) (n:Nat):Op:=⟨7,p,⟨#[]⟩,0,0,n,⟨#[]⟩⟩
theorem oW_t {o:Nat}{b:ByteArray}:¬ tells (oW p o b):=by rintro (h | h | h | h)<;>cases h
theorem oC_t {n:Nat}:¬ tells (oC p n):=by rintro (h | h | h | h)<;>cases h
theorem oE_t {o n:Nat}:tells (oE p o n):=.inl rfl
theorem fn_00 (h:fnX L p true=0):ldX L p true=0∧(ldN L p true).K≠1:=by
 unfold fnX at h
 by_cases hc:ldX L p true=0∧(ldN L p true).K=1
 ·rw [if_pos hc] at h;cases h
 ·rw [if_neg hc] at h
  exact⟨h,fun e=>hc ⟨h,e⟩⟩
theorem fl_at (h:rgt L=true) (hx:fnX L p true=0):∃ n,(vo (pts L)).ino (ldI L p true)=some n∧n.K=2∧ldN L p true=n∧n.S≤65536:=by
 obtain⟨h0,h1⟩:=fn_00 hx
 obtain⟨n,hn,h3⟩:=ld_some h h0
 have hnd:ldN L p true=n:=by
  unfold ldN
  rw [if_pos h0]
  exact nd_some h hn
 rw [hnd] at h1
 have h4:=(ino_num h hn).2.2.1
 have h5:=h3 rfl
 rw [okI_iff] at h4
 refine⟨n,hn,by omega,hnd,by omega⟩
theorem ld_keep (h:rgt L=true) (hM:rgt M=true){i:Nat}{n n':In}(hn:(vo (pts L)).ino i=some n) (hn':(vo (pts M)).ino i=some n') (hk:n'.K=n.K) (ht:n'.T=n.T) (hino:∀ j,j≠i→(vo (pts M)).ino j=(vo (pts L)).ino j) (hent:(vo (pts M)).ent=(vo (pts L)).ent)
  {fo:Bool}(h0:ldX L p fo=0):ldX M p fo=0∧ldI M p fo=ldI L p fo:=by
 have hkd:∀ j,kind (vo (pts M)) j=kind (vo (pts L)) j:=fun j=>by
  unfold kind
  by_cases e:j=i
  ·rw [e,hn,hn'];exact hk
  ·rw [hino j e]
 have htg:∀ j,tgtOf (vo (pts M)) j=tgtOf (vo (pts L)) j:=fun j=>by
  unfold tgtOf
  by_cases e:j=i
  ·rw [e,hn,hn'];exact ht
  ·rw [hino j e]
 have h00:=h0
 unfold ldX at h0
 split at h0
 ·rename_i hs
  have hw:wlk M fo (spB p)=wlk L fo (spB p):=by
   rw [wlk_C hM,wlk_C h]
   exact wkL_mono (fun k j e=>⟨by rw [hent];exact e,hkd j,htg j⟩) (hkd 1) 8 1 _ (hkd 1) (by rw [← wlk_C h];exact h0)
  have h1:ldX M p fo=0:=by
   unfold ldX
   rw [if_pos hs,hw]
   exact h0
  refine⟨h1,?_⟩
  unfold ldI
  rw [if_pos h1,if_pos h00,hw]
 ·exact absurd h0 (by assumption)
theorem chX_6 {o:Nat}{b:ByteArray}:chX L (oW p o b)=wtX L (oW p o b):=rfl
theorem chX_7 {n:Nat}:chX L (oC p n)=cuX L (oC p n):=rfl
end Go.Proofs.YtopepebcnaikiaaGreatDoor.Fi
namespace Go.Proofs.YtopepebcnaikiaaGreatDoor.Fi
open Lib (hid)
set_option linter.unusedVariables false
set_option linter.unusedSimpArgs false
set_option maxRecDepth 100000
open Ino
open It (Itm Ch get und app dif rt rc key ckey UpK get_iff rt_iff rt_up don mem_app mem_don up_app itm get_don app_cons app_nil okC okKey)
open Di
open Da (chs cky kyC kyC_ok kyC_lim cky_parse cky_inj wrD ctD btC rdC rdC_len rdC_get rdV rdE wrE ec CnO zb bo wrL ctL rdV_of rdE_of ec_ok)
open Pk (nB)
open Ph (nb spX spB laX laD laN la_ok la_err la_none)
variable {L M D:List Itm}{s s':Vo}{C:List Ch}{p:ByteArray}
theorem rc_snoc {c:Ch}(h:rc C=true) (h2:rc [c]=true):rc (C++[c])=true:=by
 unfold rc at *
 rw [List.all_append,h,h2]
 rfl
theorem put_told (h:rgt L=true) (h0:fnX L p true=0){z:Nat}(hz:z≤65536) (hD:rt D=true) (hfar:∀ K,(∀ k,k<512→K≠cky (ldI L p true) k)→get D K=get L K) (hcn:∀ k,k<512→CnO (get D (cky (ldI L p true) k)))
  (hb:∀ P,P<65536→btC (chs D (ldI L p true)) P≠0→P<z):rc [kept { ldN L p true with S:=z } (ldI L p true)]=true∧(M=app D [kept { ldN L p true with S:=z } (ldI L p true)]→rgt M=true∧chs M (ldI L p true)=chs D (ldI L p true)∧∀ p2,ldX L p2 true=0→ldI L p2 true=ldI L p true→fnX M p2 true=0∧ldX M p2 true=0∧ldI M p2 true=ldI L p true∧ldN M p2 true={ ldN L p true with S:=z }):=by
 obtain⟨n,hn,hK,hN,hS⟩:=fl_at h h0
 obtain⟨r1,r2,r3,r4,r5,r6⟩:=put_right h hn hK hz hD hfar hcn hb
 rw [hN]
 refine⟨r1,fun e=>?_⟩
 rw [← e] at r2 r3 r4 r5 r6
 clear e
 refine⟨r2,r6,fun p2 hp1 hp2=>?_⟩
 obtain⟨q1,q2⟩:=ld_keep (p:=p2) (fo:=true) h r2 hn r3 rfl rfl r4 r5 hp1
 rw [hp2] at q2
 have q3:ldN M p2 true={ n with S:=z }:=by
  unfold ldN
  rw [if_pos q1,q2]
  exact nd_some r2 r3
 have q4:fnX M p2 true=0:=by
  unfold fnX
  rw [if_neg (by rw [q3];rintro ⟨_,e⟩;exact absurd (hK.symm.trans e) (by decide))]
  exact q1
 exact⟨q4,q1,q2,q3⟩
theorem cn_of (h:rgt L=true){i k:Nat}{n:In}(hn:(vo (pts L)).ino i=some n) (hk:k<512):CnO (get L (cky i k)):=fun v hv=>by
 obtain⟨a,b,c,_⟩:=lk_chunk h hn hk hv
 exact⟨a,b,c⟩
theorem bt_in (h:rgt L=true){i P:Nat}{n:In}(hn:(vo (pts L)).ino i=some n) (hP:P<65536) (hb:btC (chs L i) P≠0):P<n.S:=by
 obtain⟨hi1,hi2,_,_⟩:=ino_num h hn
 rw [Da.btC_get (rgt_iff.1 h).rt hi1 hi2 hP] at hb
 cases hg:get L (cky i (P / 128)) with
 | none=>rw [hg] at hb;exact absurd rfl hb
 | some v =>
  rw [hg] at hb
  obtain⟨a,b,c,d⟩:=lk_chunk h hn (by omega) hg
  have:P%128<v.size:=by
   refine Nat.lt_of_not_le fun hge=>hb ?_
   unfold bo
   exact Da.zb_out (by rw [Da.bsl];exact hge)
  omega
set_option maxHeartbeats 1000000 in
theorem write_2 {o:Nat}{b p2:ByteArray}(h0:dX L (oW p o b)=0) (hp1:ldX L p2 true=0) (hp2:ldI L p2 true=ldI L p true):(aft L (oW p o b)).length≤L.length+(b.size+1)∧dX (aft L (oW p o b)) (oE p2 o b.size)=0∧dT (aft L (oW p o b)) (oE p2 o b.size)={ zTd with s:=b }∧b.size≤65536:=by
 have h:=dX_rgt h0
 have h1:=h0
 rw [dX_ch h oW_t,chX_6] at h1
 unfold wtX at h1
 have hf:fnX L p true=0:=by
  by_cases e:fnX L (oW p o b).P true=0
  ·exact e
  ·rw [if_pos e] at h1;exact absurd h1 e
 rw [if_neg (by show ¬ fnX L p true≠0;rw [hf];decide)] at h1
 have hw:wrE L (ldI L p true) o b=0:=h1
 obtain⟨n,hn,hK,hN,hS⟩:=fl_at h hf
 obtain⟨hi1,hi2,_,_⟩:=ino_num h hn
 obtain⟨e1,e2⟩:=Da.wrE_zero hw
 have hr:=(rgt_iff.1 h).rt
 have hlen:b.data.toList.length=b.size:=Da.bsl b
 have hp:o+b.data.toList.length≤65536:=by omega
 obtain⟨c1,c2⟩:=Da.wrD_rt hr hi1 hi2 hp
 have hz:wtS L (oW p o b)=if b.size=0 then n.S else max n.S (o+b.size):=by
  unfold wtS
  rw [show ldN L (oW p o b).P true=n from hN]
  rfl
 have hz1:n.S≤wtS L (oW p o b):=by rw [hz];split<;>omega
 have hz2:0<b.size→o+b.size≤wtS L (oW p o b):=fun hb=>by rw [hz,if_neg (by omega)];omega
 have hz3:wtS L (oW p o b)≤65536:=by rw [hz];split<;>omega
 have hC:chC L (oW p o b)=wrL (chs L (ldI L p true)) (ldI L p true) o b.data.toList++[kept { ldN L p true with S:=wtS L (oW p o b) } (ldI L p true)]:=rfl
 have happ:app L (chC L (oW p o b))=app (wrD L (ldI L p true) o b.data.toList) [kept { ldN L p true with S:=wtS L (oW p o b) } (ldI L p true)]:=by rw [hC,It.app_append];rfl
 obtain⟨r1,r2⟩:=put_told (M:=aft L (oW p o b)) (p:=p) h hf hz3 c2 (fun K hK'=>Da.wrD_far hr hi1 hi2 hp fun k hk=>hK' k (by have:=hk.2.2;omega)) (fun k hk=>by
   by_cases ht:Da.Tch o b.data.toList.length k
   ·exact Da.wrD_cn hr hi1 hi2 hp ht
   ·rw [Da.wrD_far hr hi1 hi2 hp (fun k' hk' e=>ht (by
     have h9:k'<512:=by have:=hk'.2.2;omega
     rw [(cky_inj hi1 hi2 hi1 hi2 hk h9 e).2];exact hk'))]
    exact cn_of h hn hk) (fun P hP hb=>by
   rw [Da.wrD_bt hr hi1 hi2 hp hP] at hb
   split at hb
   ·have:=hz2 (by omega);omega
   ·exact Nat.lt_of_lt_of_le (bt_in h hn hP hb) hz1)
 have hM:aft L (oW p o b)=app L (chC L (oW p o b)):=aft_ch h oW_t h0 (by rw [hC];exact rc_snoc c1 r1)
 obtain⟨g1,g6,g7⟩:=r2 (hM.trans happ)
 obtain⟨g2,g3,g4,g5⟩:=g7 p2 hp1 hp2
 have hl:(aft L (oW p o b)).length≤L.length+(b.size+1):=by
  rw [hM]
  refine Nat.le_trans (app_len _ _) ?_
  have:=Da.wrL_len (chs L (ldI L p true)) (ldI L p true) b.data.toList.length b.data.toList o (Nat.le_refl _)
  rw [hC,List.length_append]
  simp only [List.length_cons,List.length_nil]
  omega
 refine⟨hl,?_⟩
 generalize aft L (oW p o b)=M at *
 have hE:rdE M (ldI L p true) (wtS L (oW p o b))=0:=rdE_of (ec_ok (rgt_iff.1 g1).rt hi1) hz3
 have hx:dX M (oE p2 o b.size)=0:=by
  rw [dX_td g1 oE_t]
  show reX M (oE p2 o b.size)=0
  unfold reX
  rw [if_neg (by show ¬ fnX M p2 true≠0;rw [g2];decide)]
  show rdE M (ldI M p2 true) (ldN M p2 true).S=0
  rw [g4,g5]
  exact hE
 refine⟨hx,?_,by omega⟩
 rw [dT_td oE_t hx]
 show ({ zTd with s:=rdV M (ldI M p2 true) (ldN M p2 true).S o b.size }:Td)=_
 rw [g4,g5]
 have hv:rdV M (ldI L p true) (wtS L (oW p o b)) o b.size=b:=by
  rw [rdV_of hE,g6]
  by_cases hb0:b.size=0
  ·rw [Da.rdC_none _ _ _ (by omega)]
   apply ByteArray.ext
   have:b.data.size=0:=hb0
   exact (Array.eq_empty_of_size_eq_zero this).symm
  ·obtain⟨x1,x2⟩:=Da.back_read hi2 hw
   rw [rdV_of x1] at x2
   have e5:min (o+b.size) (wtS L (oW p o b))=min (o+b.size) 65536:=by have:=hz2 (by omega);omega
   rw [e5]
   exact x2
 rw [hv]
theorem write_all {o:Nat}{b:ByteArray}(h0:dX L (oW p o b)=0):(aft L (oW p o b)).length≤L.length+(b.size+1)∧dX (aft L (oW p o b)) (oE p o b.size)=0∧dT (aft L (oW p o b)) (oE p o b.size)={ zTd with s:=b }∧b.size≤65536:=by
 refine write_2 h0 ?_ rfl
 have h1:=h0
 rw [dX_ch (dX_rgt h0) oW_t,chX_6] at h1
 unfold wtX at h1
 by_cases e:fnX L (oW p o b).P true=0
 ·exact (fn_00 e).1
 ·rw [if_pos e] at h1;exact absurd h1 e
end Go.Proofs.YtopepebcnaikiaaGreatDoor.Fi
namespace Go.Proofs.YtopepebcnaikiaaGreatDoor.Fi
open Lib (hid)
set_option linter.unusedVariables false
set_option linter.unusedSimpArgs false
set_option maxRecDepth 100000
open Ino
open It (Itm Ch get und app dif rt rc key ckey UpK get_iff rt_iff rt_up don mem_app mem_don up_app itm get_don app_cons app_nil okC okKey)
open Di
open Da (chs cky kyC kyC_ok kyC_lim cky_parse cky_inj wrD ctD btC rdC rdC_len rdC_get rdV rdE wrE ec CnO zb bo wrL ctL rdV_of rdE_of ec_ok ov kpC)
open Pk (nB)
open Ph (nb spX spB laX laD laN la_ok la_err la_none)
variable {L M D:List Itm}{s s':Vo}{C:List Ch}{p:ByteArray}
theorem ba_size (l:List UInt8):(⟨l.toArray⟩:ByteArray).size=l.length:=by
 show l.toArray.size=_
 simp
set_option maxHeartbeats 1000000 in
theorem cut_all {N:Nat}(h0:dX L (oC p N)=0):∃ (T W:ByteArray) (i:Nat) (n:In),(aft L (oC p N)).length≤L.length+1000∧dX (aft L (oC p N)) (oE p 0 4294967295)=0∧dT (aft L (oC p N)) (oE p 0 4294967295)={ zTd with s:=T }∧T.size=N ∧
  dX (aft L (oC p N)) (oT p)=0∧dT (aft L (oC p N)) (oT p)={ zTd with i:=i,n:={ n with S:=N } }∧dX L (oE p 0 N)=0∧dT L (oE p 0 N)={ zTd with s:=W }∧W.size≤N∧T.extract 0 W.size=W∧N≤65536:=by
 have h:=dX_rgt h0
 have h1:=h0
 rw [dX_ch h oC_t,chX_7] at h1
 unfold cuX at h1
 have hf:fnX L p true=0:=by
  by_cases e:fnX L (oC p N).P true=0
  ·exact e
  ·rw [if_pos e] at h1;exact absurd h1 e
 rw [if_neg (by show ¬ fnX L p true≠0;rw [hf];decide)] at h1
 have hw:rdE L (ldI L p true) N=0:=h1
 obtain⟨n,hn,hK,hN,hS⟩:=fl_at h hf
 obtain⟨hi1,hi2,_,_⟩:=ino_num h hn
 have hr:=(rgt_iff.1 h).rt
 have hz:N≤65536:=by
  unfold rdE at hw
  rw [if_pos (ec_ok hr hi1)] at hw
  split at hw
  ·cases hw
  ·omega
 obtain⟨c1,c2⟩:=Da.ctD_rt (z:=N) hr hi1 hi2
 have hC:chC L (oC p N)=ctL (chs L (ldI L p true)) N++[kept { ldN L p true with S:=N } (ldI L p true)]:=rfl
 have happ:app L (chC L (oC p N))=app (ctD L (ldI L p true) N) [kept { ldN L p true with S:=N } (ldI L p true)]:=by rw [hC,It.app_append];rfl
 obtain⟨r1,r2⟩:=put_told (M:=aft L (oC p N)) (p:=p) h hf hz c2 (fun K hK'=>Da.ct_far hr hi1 hi2 fun k v hk _=>(hK' k hk).symm) (fun k hk=>by
   cases hg:get L (cky (ldI L p true) k) with
   | none =>
    rw [Da.ct_none hr hi1 hi2 hk hg]
    intro v hv
    cases hv
   | some v =>
    rw [Da.ct_yes hr hi1 hi2 hk hg]
    split
    ·refine Da.cn_kp _ _ ?_
     have:=(lk_chunk h hn hk hg).1
     rw [ByteArray.size_extract]
     omega
    ·rw [← hg]
     exact cn_of h hn hk) (fun P hP hb=>by
   rw [Da.ctD_bt hr hi1 hi2 hP] at hb
   split at hb
   ·assumption
   ·exact absurd rfl hb)
 have hM:aft L (oC p N)=app L (chC L (oC p N)):=aft_ch h oC_t h0 (by rw [hC];exact rc_snoc c1 r1)
 obtain⟨g1,g6,g7⟩:=r2 (hM.trans happ)
 obtain⟨g2,g3,g4,g5⟩:=g7 p (fn_00 hf).1 rfl
 have hl:(aft L (oC p N)).length≤L.length+1000:=by
  rw [hM]
  refine Nat.le_trans (app_len _ _) ?_
  have:=Da.ctL_len (chs L (ldI L p true)) N
  have:=Da.chs_few hr hi1 hi2
  rw [hC,List.length_append]
  simp only [List.length_cons,List.length_nil]
  omega
 generalize aft L (oC p N)=M at *
 have hE:rdE M (ldI L p true) N=0:=rdE_of (ec_ok (rgt_iff.1 g1).rt hi1) hz
 have hx:∀ a b,dX M (oE p a b)=0:=fun a b=>by
  rw [dX_td g1 oE_t]
  show reX M (oE p a b)=0
  unfold reX
  rw [if_neg (by show ¬ fnX M p true≠0;rw [g2];decide)]
  show rdE M (ldI M p true) (ldN M p true).S=0
  rw [g4,g5]
  exact hE
 have hEL:rdE L (ldI L p true) n.S=0:=rdE_of (ec_ok hr hi1) hS
 have hxL:dX L (oE p 0 N)=0:=by
  rw [dX_td h oE_t]
  show reX L (oE p 0 N)=0
  unfold reX
  rw [if_neg (by show ¬ fnX L p true≠0;rw [hf];decide)]
  show rdE L (ldI L p true) (ldN L p true).S=0
  rw [hN]
  exact hEL
 have hT:rdV M (ldI L p true) N 0 4294967295=⟨(rdC (chs (ctD L (ldI L p true) N) (ldI L p true)) 0 N).toArray⟩:=by
  rw [rdV_of hE,g6,show min (0+4294967295) N=N by omega]
 have hW:rdV L (ldI L p true) n.S 0 N=⟨(rdC (chs L (ldI L p true)) 0 (min N n.S)).toArray⟩:=by
  rw [rdV_of hEL,show 0+N=N by omega]
 have hWs:(rdV L (ldI L p true) n.S 0 N).size=min N n.S:=by rw [hW,ba_size,rdC_len];omega
 refine⟨rdV M (ldI L p true) N 0 4294967295,rdV L (ldI L p true) n.S 0 N,ldI L p true,ldN L p true,hl,hx _ _,?_,by rw [hT,ba_size,rdC_len];omega,(dX_oT g1).trans g3,?_,hxL,?_,by rw [hWs];omega,?_,hz⟩
 ·rw [dT_td oE_t (hx _ _)]
  show ({ zTd with s:=rdV M (ldI M p true) (ldN M p true).S 0 4294967295 }:Td)=_
  rw [g4,g5]
 ·rw [dT_td oT_t ((dX_oT g1).trans g3)]
  show ({ zTd with i:=ldI M p true,n:=ldN M p true }:Td)=_
  rw [g4,g5]
 ·rw [dT_td oE_t hxL]
  show ({ zTd with s:=rdV L (ldI L p true) (ldN L p true).S 0 N }:Td)=_
  rw [hN]
 ·rw [hWs,hT,hW]
  apply ByteArray.ext
  apply Array.toList_inj.1
  rw [ByteArray.data_extract,Array.toList_extract,List.extract_eq_take_drop,List.drop_zero,Nat.sub_zero]
  apply List.ext_getElem?
  intro j
  rw [List.getElem?_take]
  split
  ·rename_i hj
   show (rdC _ 0 N)[j]?=(rdC _ 0 (min N n.S))[j]?
   rw [rdC_get _ _ _ _ (by omega),rdC_get _ _ _ _ (by omega),Nat.zero_add,Da.ctD_bt hr hi1 hi2 (by omega),if_pos (by omega)]
  ·rename_i hj
   show none=(rdC _ 0 (min N n.S))[j]?
   rw [List.getElem?_eq_none]
   rw [rdC_len]
   omega
end Go.Proofs.YtopepebcnaikiaaGreatDoor.Fi
namespace Go.Proofs.YtopepebcnaikiaaGreatDoor.Fi
open Lib (hid)
set_option linter.unusedVariables false
set_option linter.unusedSimpArgs false
set_option maxRecDepth 100000
open Go.ChangeShapes Go.WideShapes Go.ChangeAt Go.RowKit
open BigFrame
open Ar Rg
open Ino
open It (Itm Ch get und app dif rt rc enc er getV get_any under_any apply_any diff_any MkI MkC)
open Di (ItA wlk rgt rgt_iff numOf Vo vo pts lsX lsL up En NmA Walk_any Up MkE List_any New_any L0 encEn encEn_len)
open Ph (nb spX spB laX laD laN)
open Pk (nB nE tN tR tE number_any take_any)
variable {w w' wr:World}{A:Option Addr}{n c:Nat}{L:List Itm}
variable {w w' wr:World}{A:Option Addr}{n c:Nat}{L:List Itm}
theorem af0 {o:Op}{L':List Itm}{d:Td}{x:Int}(hI:ItA w A n L) (hc:n≤c) (hcm:c≤maxLen) (ho:o.lim) (hx:dX L o=x) (ha:aft L o=L') (hd:dT L o=d) (hl:L'.length≤1390000) (he:d.e=[]):Calls Tryz.prog 14 #[.slice A n c,vOp o] w fun e w' =>
  ∃ (A':Option Addr) (n' c':Nat) (A9:Option Addr) (c9:Nat),e=.returned (.tuple #[.slice A' n' c',vTd d (.slice A9 0 c9),.int .i64 x])∧n'≤c'∧c'≤maxLen∧ItA w' A' n' L'∧Below w.heap.size w w':=by
 refine (af hI hc hcm ho hx ha hd hl).mono ?_
 rintro e w' ⟨A',n',c',A9,m9,c9,rfl,h1,h2,h3,h4,_,h6⟩
 rw [he] at h1
 subst h1
 exact⟨A',n',c',A9,c9,rfl,h2,h3,h4,h6⟩
variable {w w' wr:World}{A:Option Addr}{n c:Nat}{L:List Itm}
theorem w32 {n:Nat}(h:n<4294967296):IntKind.u32.wrap (n:Int)=n:=u32_id h
theorem w64 {n:Nat}(h:n<4294967296):IntKind.i64.wrap (n:Int)=n:=by
 simp [IntKind.wrap,IntKind.bits,IntKind.signed]
 omega
set_option maxHeartbeats 4000000 in
theorem back_11 {p b:ByteArray}{q N:Nat}(hI:ItA w A n L) (hc:n≤c) (hcm:c≤maxLen) (hn:n≤1048576) (hp:p.size≤1048576) (hb:b.size≤1048576) (hq:q<4294967296) (hN:N<4294967296) (h0:dX L (oW p q b)=0) (h1:dX L (oC p N)=0):Calls Tryz.prog 4 #[.slice A n c,.string p,.int .u32 q,.string b,.int .u32 N] w fun e w'=>e=.returned (.bool true)∧Below w.heap.size w w':=by
 have hlL:L.length≤1048576:=by have:=hI.1;omega
 obtain⟨T,W,i,nn,j1,j2,j3,j4,j5,j6,j7,j8,j9,j10,j11⟩:=cut_all h1
 subst j4
 obtain⟨nK,nM,nL,nS,nT⟩:=nn
 dsimp only at j6
 obtain⟨k1,k2,k3,k4⟩:=write_all h0
 have hbw:=w32 (n:=b.size) (by omega)
 have C1:=hid (fun (w:World) (A:Option Addr) (n c:Nat) (hI:ItA w A n (L)) (hc:n≤c) (hcm:c≤maxLen)=>af0 (o:=oW p q b) (L:=L) (L':=aft L (oW p q b)) (d:=zTd) (x:=0) hI hc hcm ⟨show (6:Nat)<256 by decide,show (0:Nat)<65536 by decide,hq,show (0:Nat)<4294967296 by decide,hp,show (0:Nat)≤1048576 by decide,hb⟩ h0 rfl (dT_ch oW_t) (by omega) rfl)
 rw [show vOp (oW p q b)=.agg #[.int .u8 6,.string p,.string ⟨#[]⟩,.int .u16 0,.int .u32 q,.int .u32 0,.string b] from rfl] at C1
 generalize aft L (oW p q b)=M at *
 have C2:=hid (fun (w:World) (A:Option Addr) (n c:Nat) (hI:ItA w A n (M)) (hc:n≤c) (hcm:c≤maxLen)=>af0 (o:=oE p q b.size) (L:=M) (L':=M) (d:={ zTd with s:=b }) (x:=0) hI hc hcm ⟨show (5:Nat)<256 by decide,show (0:Nat)<65536 by decide,hq,(show b.size<4294967296 by omega),hp,show (0:Nat)≤1048576 by decide,show (0:Nat)≤1048576 by decide⟩ k2 (aft_tl oE_t) k3 (by omega) rfl)
 rw [show vOp (oE p q b.size)=.agg #[.int .u8 5,.string p,.string ⟨#[]⟩,.int .u16 0,.int .u32 q,.int .u32 b.size,.string ⟨#[]⟩] from rfl] at C2
 clear k1 k2 k3 k4
 have C3:=hid (fun (w:World) (A:Option Addr) (n c:Nat) (hI:ItA w A n (L)) (hc:n≤c) (hcm:c≤maxLen)=>af0 (o:=oC p T.size) (L:=L) (L':=aft L (oC p T.size)) (d:=zTd) (x:=0) hI hc hcm ⟨show (7:Nat)<256 by decide,show (0:Nat)<65536 by decide,show (0:Nat)<4294967296 by decide,hN,hp,show (0:Nat)≤1048576 by decide,show (0:Nat)≤1048576 by decide⟩ h1 rfl (dT_ch oC_t) (by omega) rfl)
 rw [show vOp (oC p T.size)=.agg #[.int .u8 7,.string p,.string ⟨#[]⟩,.int .u16 0,.int .u32 0,.int .u32 T.size,.string ⟨#[]⟩] from rfl] at C3
 generalize aft L (oC p T.size)=K at *
 have C4:=hid (fun (w:World) (A:Option Addr) (n c:Nat) (hI:ItA w A n (K)) (hc:n≤c) (hcm:c≤maxLen)=>af0 (o:=oE p 0 4294967295) (L:=K) (L':=K) (d:={ zTd with s:=T }) (x:=0) hI hc hcm ⟨show (5:Nat)<256 by decide,show (0:Nat)<65536 by decide,show (0:Nat)<4294967296 by decide,show (4294967295:Nat)<4294967296 by decide,hp,show (0:Nat)≤1048576 by decide,show (0:Nat)≤1048576 by decide⟩ j2 (aft_tl oE_t) j3 (by omega) rfl)
 rw [show vOp (oE p 0 4294967295)=.agg #[.int .u8 5,.string p,.string ⟨#[]⟩,.int .u16 0,.int .u32 0,.int .u32 4294967295,.string ⟨#[]⟩] from rfl] at C4
 have C5:=hid (fun (w:World) (A:Option Addr) (n c:Nat) (hI:ItA w A n (K)) (hc:n≤c) (hcm:c≤maxLen)=>af0 (o:=oT p) (L:=K) (L':=K) (d:={ zTd with i:=i,n:=⟨nK,nM,nL,T.size,nT⟩ }) (x:=0) hI hc hcm ⟨show (11:Nat)<256 by decide,show (0:Nat)<65536 by decide,show (0:Nat)<4294967296 by decide,show (0:Nat)<4294967296 by decide,hp,show (0:Nat)≤1048576 by decide,show (0:Nat)≤1048576 by decide⟩ j5 (aft_tl oT_t) j6 (by omega) rfl)
 rw [show vOp (oT p)=.agg #[.int .u8 11,.string p,.string ⟨#[]⟩,.int .u16 0,.int .u32 0,.int .u32 0,.string ⟨#[]⟩] from rfl] at C5
 have C6:=hid (fun (w:World) (A:Option Addr) (n c:Nat) (hI:ItA w A n (L)) (hc:n≤c) (hcm:c≤maxLen)=>af0 (o:=oE p 0 T.size) (L:=L) (L':=L) (d:={ zTd with s:=W }) (x:=0) hI hc hcm ⟨show (5:Nat)<256 by decide,show (0:Nat)<65536 by decide,show (0:Nat)<4294967296 by decide,hN,hp,show (0:Nat)≤1048576 by decide,show (0:Nat)≤1048576 by decide⟩ j7 (aft_tl oE_t) j8 (by omega) rfl)
 rw [show vOp (oE p 0 T.size)=.agg #[.int .u8 5,.string p,.string ⟨#[]⟩,.int .u16 0,.int .u32 0,.int .u32 T.size,.string ⟨#[]⟩] from rfl] at C6
 have hw64:=w64 hN
 have HTW:=hid j10
 have HWT:=hid j9
 clear j1 j2 j3 j5 j6 j7 j8 j9 j10 j11
 have HI:=hid hI
 have HN:=hid (And.intro hc hcm)
 clear hI hc hcm hn hp hb hq hN hlL h0 h1
 go_enter Tryz.func4,Tryz.ntmps4
 go_wp2_with fail
 have B:=hid (Below.refl w.heap.size w)
 refine (lives_any w).mono ?_
 rintro e w1 ⟨rfl,hb⟩
 replace HI:=hid (HI.out.go hb)
 replace B:=gb B hb
 clear hb
 go_wp2_with (first
  | (go_at_call 14;refine (C1.out w1 A n c HI.out HN.out.1 HN.out.2).mono ?_;rintro e w2 ⟨A1,n1,c1,E1,e1,rfl,hn9,hc9,hI9,hb⟩;have HIM:=hid hI9;have HNM:=hid (And.intro hn9 hc9);replace HI:=hid (HI.out.go hb);replace B:=gb B hb;clear hI9 hn9 hc9;clear hb)
  | (refine new_row rfl 38 (.tmp 12) (.tmp 36) rfl rfl #[.string ⟨#[]⟩,.int .u32 0,.int .u8 0,.int .u16 0,.int .u32 0,.int .u32 0,.string ⟨#[]⟩,.slice E1 0 e1] rfl rfl (by kernel_rfl) rfl (row8 _ _ _ _ _ _ _ _ _ _) ?_;intro w3 M;replace HI:=hid (HI.out.go M.2.1);replace HIM:=hid (HIM.out.go M.2.1);replace B:=gb B M.2.1;have Ra:=hid M.1;obtain⟨ca0,ca1,ca2,ca3,ca4,ca5,ca6,ca7⟩:=cl8 Ra.out;clear M)
  | (go_at_call 14;refine (C2.out w3 A1 n1 c1 HIM.out HNM.out.1 HNM.out.2).mono ?_;rintro e w4 ⟨A2,n2,c2,E2,e2,rfl,hn9,hc9,hI9,hb⟩;clear ca0 ca1 ca2 ca3 ca4 ca5 ca6 ca7;replace Ra:=gg Ra hb;replace HI:=hid (HI.out.go hb);replace HIM:=hid (HIM.out.go hb);replace B:=gb B hb;clear hI9 hn9 hc9;obtain⟨ca0,ca1,ca2,ca3,ca4,ca5,ca6,ca7⟩:=cl8 Ra.out;clear hb)
  | (refine new_row rfl 38 (.tmp 15) (.tmp 50) rfl rfl #[.string b,.int .u32 0,.int .u8 0,.int .u16 0,.int .u32 0,.int .u32 0,.string ⟨#[]⟩,.slice E2 0 e2] rfl rfl (by kernel_rfl) rfl (row8 _ _ _ _ _ _ _ _ _ _) ?_;intro w5 M;clear ca0 ca1 ca2 ca3 ca4 ca5 ca6 ca7;replace Ra:=gg Ra M.2.1;replace HI:=hid (HI.out.go M.2.1);replace HIM:=hid (HIM.out.go M.2.1);replace B:=gb B M.2.1;have Re:=hid M.1;obtain⟨ca0,ca1,ca2,ca3,ca4,ca5,ca6,ca7⟩:=cl8 Ra.out;obtain⟨ce0,ce1,ce2,ce3,ce4,ce5,ce6,ce7⟩:=cl8 Re.out;clear M)
  | (go_at_call 14;refine (C3.out w5 A n c HI.out HN.out.1 HN.out.2).mono ?_;rintro e w6 ⟨A3,n3,c3,E3,e3,rfl,hn9,hc9,hI9,hb⟩;have HIK:=hid hI9;have HNK:=hid (And.intro hn9 hc9);clear ca0 ca1 ca2 ca3 ca4 ca5 ca6 ca7 ce0 ce1 ce2 ce3 ce4 ce5 ce6 ce7;replace Ra:=gg Ra hb;replace Re:=gg Re hb;replace HI:=hid (HI.out.go hb);replace HIM:=hid (HIM.out.go hb);replace B:=gb B hb;clear hI9 hn9 hc9;obtain⟨ca0,ca1,ca2,ca3,ca4,ca5,ca6,ca7⟩:=cl8 Ra.out;obtain⟨ce0,ce1,ce2,ce3,ce4,ce5,ce6,ce7⟩:=cl8 Re.out;clear hb)
  | (go_at_call 14;refine (C4.out w6 A3 n3 c3 HIK.out HNK.out.1 HNK.out.2).mono ?_;rintro e w7 ⟨A4,n4,c4,E4,e4,rfl,hn9,hc9,hI9,hb⟩;clear ca0 ca1 ca2 ca3 ca4 ca5 ca6 ca7 ce0 ce1 ce2 ce3 ce4 ce5 ce6 ce7;replace Ra:=gg Ra hb;replace Re:=gg Re hb;replace HI:=hid (HI.out.go hb);replace HIM:=hid (HIM.out.go hb);replace HIK:=hid (HIK.out.go hb);replace B:=gb B hb;clear hI9 hn9 hc9;obtain⟨ca0,ca1,ca2,ca3,ca4,ca5,ca6,ca7⟩:=cl8 Ra.out;obtain⟨ce0,ce1,ce2,ce3,ce4,ce5,ce6,ce7⟩:=cl8 Re.out;clear hb)
  | (refine new_row rfl 38 (.tmp 18) (.tmp 77) rfl rfl #[.string T,.int .u32 0,.int .u8 0,.int .u16 0,.int .u32 0,.int .u32 0,.string ⟨#[]⟩,.slice E4 0 e4] rfl rfl (by kernel_rfl) rfl (row8 _ _ _ _ _ _ _ _ _ _) ?_;intro w8 M;clear ca0 ca1 ca2 ca3 ca4 ca5 ca6 ca7 ce0 ce1 ce2 ce3 ce4 ce5 ce6 ce7;replace Ra:=gg Ra M.2.1;replace Re:=gg Re M.2.1;replace HI:=hid (HI.out.go M.2.1);replace HIM:=hid (HIM.out.go M.2.1);replace HIK:=hid (HIK.out.go M.2.1);replace B:=gb B M.2.1;have Rt:=hid M.1;obtain⟨ca0,ca1,ca2,ca3,ca4,ca5,ca6,ca7⟩:=cl8 Ra.out;obtain⟨ce0,ce1,ce2,ce3,ce4,ce5,ce6,ce7⟩:=cl8 Re.out;obtain⟨ct0,ct1,ct2,ct3,ct4,ct5,ct6,ct7⟩:=cl8 Rt.out;clear M)
  | (go_at_call 14;refine (C5.out w8 A3 n3 c3 HIK.out HNK.out.1 HNK.out.2).mono ?_;rintro e w9 ⟨A5,n5,c5,E5,e5,rfl,hn9,hc9,hI9,hb⟩;clear ca0 ca1 ca2 ca3 ca4 ca5 ca6 ca7 ce0 ce1 ce2 ce3 ce4 ce5 ce6 ce7 ct0 ct1 ct2 ct3 ct4 ct5 ct6 ct7;replace Ra:=gg Ra hb;replace Re:=gg Re hb;replace Rt:=gg Rt hb;replace HI:=hid (HI.out.go hb);replace HIM:=hid (HIM.out.go hb);replace HIK:=hid (HIK.out.go hb);replace B:=gb B hb;clear hI9 hn9 hc9;obtain⟨ca0,ca1,ca2,ca3,ca4,ca5,ca6,ca7⟩:=cl8 Ra.out;obtain⟨ce0,ce1,ce2,ce3,ce4,ce5,ce6,ce7⟩:=cl8 Re.out;obtain⟨ct0,ct1,ct2,ct3,ct4,ct5,ct6,ct7⟩:=cl8 Rt.out;clear hb)
  | (refine new_row rfl 38 (.tmp 21) (.tmp 85) rfl rfl #[.string ⟨#[]⟩,.int .u32 i,.int .u8 nK,.int .u16 nM,.int .u32 nL,.int .u32 T.size,.string nT,.slice E5 0 e5] rfl rfl (by kernel_rfl) rfl (row8 _ _ _ _ _ _ _ _ _ _) ?_;intro w10 M;clear ca0 ca1 ca2 ca3 ca4 ca5 ca6 ca7 ce0 ce1 ce2 ce3 ce4 ce5 ce6 ce7 ct0 ct1 ct2 ct3 ct4 ct5 ct6 ct7;replace Ra:=gg Ra M.2.1;replace Re:=gg Re M.2.1;replace Rt:=gg Rt M.2.1;replace HI:=hid (HI.out.go M.2.1);replace HIM:=hid (HIM.out.go M.2.1);replace HIK:=hid (HIK.out.go M.2.1);replace B:=gb B M.2.1;have Ru:=hid M.1;obtain⟨ca0,ca1,ca2,ca3,ca4,ca5,ca6,ca7⟩:=cl8 Ra.out;obtain⟨ce0,ce1,ce2,ce3,ce4,ce5,ce6,ce7⟩:=cl8 Re.out;obtain⟨ct0,ct1,ct2,ct3,ct4,ct5,ct6,ct7⟩:=cl8 Rt.out;obtain⟨cu0,cu1,cu2,cu3,cu4,cu5,cu6,cu7⟩:=cl8 Ru.out;clear M)
  | (go_at_call 14;refine (C6.out w10 A n c HI.out HN.out.1 HN.out.2).mono ?_;rintro e w11 ⟨A6,n6,c6,E6,e6,rfl,hn9,hc9,hI9,hb⟩;clear ca0 ca1 ca2 ca3 ca4 ca5 ca6 ca7 ce0 ce1 ce2 ce3 ce4 ce5 ce6 ce7 ct0 ct1 ct2 ct3 ct4 ct5 ct6 ct7 cu0 cu1 cu2 cu3 cu4 cu5 cu6 cu7;replace Ra:=gg Ra hb;replace Re:=gg Re hb;replace Rt:=gg Rt hb;replace Ru:=gg Ru hb;replace HI:=hid (HI.out.go hb);replace HIM:=hid (HIM.out.go hb);replace HIK:=hid (HIK.out.go hb);replace B:=gb B hb;clear hI9 hn9 hc9;obtain⟨ca0,ca1,ca2,ca3,ca4,ca5,ca6,ca7⟩:=cl8 Ra.out;obtain⟨ce0,ce1,ce2,ce3,ce4,ce5,ce6,ce7⟩:=cl8 Re.out;obtain⟨ct0,ct1,ct2,ct3,ct4,ct5,ct6,ct7⟩:=cl8 Rt.out;obtain⟨cu0,cu1,cu2,cu3,cu4,cu5,cu6,cu7⟩:=cl8 Ru.out;clear hb)
  | (refine new_row rfl 38 (.tmp 24) (.tmp 94) rfl rfl #[.string W,.int .u32 0,.int .u8 0,.int .u16 0,.int .u32 0,.int .u32 0,.string ⟨#[]⟩,.slice E6 0 e6] rfl rfl (by kernel_rfl) rfl (row8 _ _ _ _ _ _ _ _ _ _) ?_;intro w12 M;clear ca0 ca1 ca2 ca3 ca4 ca5 ca6 ca7 ce0 ce1 ce2 ce3 ce4 ce5 ce6 ce7 ct0 ct1 ct2 ct3 ct4 ct5 ct6 ct7 cu0 cu1 cu2 cu3 cu4 cu5 cu6 cu7;replace Ra:=gg Ra M.2.1;replace Re:=gg Re M.2.1;replace Rt:=gg Rt M.2.1;replace Ru:=gg Ru M.2.1;replace HI:=hid (HI.out.go M.2.1);replace HIM:=hid (HIM.out.go M.2.1);replace HIK:=hid (HIK.out.go M.2.1);replace B:=gb B M.2.1;have Rx:=hid M.1;obtain⟨ca0,ca1,ca2,ca3,ca4,ca5,ca6,ca7⟩:=cl8 Ra.out;obtain⟨ce0,ce1,ce2,ce3,ce4,ce5,ce6,ce7⟩:=cl8 Re.out;obtain⟨ct0,ct1,ct2,ct3,ct4,ct5,ct6,ct7⟩:=cl8 Rt.out;obtain⟨cu0,cu1,cu2,cu3,cu4,cu5,cu6,cu7⟩:=cl8 Ru.out;obtain⟨cx0,cx1,cx2,cx3,cx4,cx5,cx6,cx7⟩:=cl8 Rx.out;clear M))
 refine wp_region_G (fun w'=>Below w12.heap.size w12 w') (by kernel_rfl) (by kernel_rfl) (Below.refl _ _).drew ?_
 refine wpG_val (.int .i64 0) rfl (by rfl) (fun w' hSw=>by go_simp) ?_
 simp only [Gw3Backa,Gw3Backb,Gw3Backc]
 refine wpG_val (.bool true) rfl (by rfl) (fun w' hSw=>by go_simp) ?_
 simp only [Gw3Backa,Gw3Backb,Gw3Backc]
 refine wpG_val (.bool true) rfl (by rfl) (fun w' hSw=>by go_simp) ?_
 simp only [Gw3Backa,Gw3Backb,Gw3Backc]
 refine wpG_val (.int .i64 0) rfl (by rfl) (fun w' hSw=>by go_simp) ?_
 simp only [Gw3Backa,Gw3Backb,Gw3Backc]
 refine wpG_val (.bool true) rfl (by rfl) (fun w' hSw=>by go_simp) ?_
 simp only [Gw3Backa,Gw3Backb,Gw3Backc]
 refine wpG_val (.bool true) rfl (by rfl) (fun w' hSw=>by go_simp) ?_
 simp only [Gw3Backa,Gw3Backb,Gw3Backc]
 refine wpG_val (.bool true) rfl (by rfl) (fun w' hSw=>by go_simp) ?_
 simp only [Gw3Backa,Gw3Backb,Gw3Backc]
 refine wpG_val (.int .i64 0) rfl (by rfl) (fun w' hSw=>by go_simp) ?_
 simp only [Gw3Backa,Gw3Backb,Gw3Backc]
 refine wpG_val (.bool true) rfl (by rfl) (fun w' hSw=>by go_simp) ?_
 simp only [Gw3Backa,Gw3Backb,Gw3Backc]
 refine wpG_val (.bool true) rfl (by rfl) (fun w' hSw=>by go_simp) ?_
 simp only [Gw3Backa,Gw3Backb,Gw3Backc]
 refine wpG_val (.bool true) rfl (by rfl) (fun w' hSw=>by go_simp) ?_
 simp only [Gw3Backa,Gw3Backb,Gw3Backc]
 refine wpG_val (.pointer (some ⟨w7.heap.size,0,none⟩)) rfl (by rfl) (fun w' hSw=>by go_simp) ?_
 simp only [Gw3Backa,Gw3Backb,Gw3Backc]
 refine wpG_val (.string T) rfl (by rfl) (fun w' hSw=>by have c:=(Rt.out.go hSw).cell 0 _ rfl;go_simp) ?_
 simp only [Gw3Backa,Gw3Backb,Gw3Backc]
 refine wpG_val (.int .i64 (T.size:Int)) rfl (by rfl) (fun w' hSw=>by go_simp) ?_
 simp only [Gw3Backa,Gw3Backb,Gw3Backc]
 refine wpG_val (.int .u32 (T.size:Int)) rfl (by rfl) (fun w' hSw=>by go_simp) ?_
 simp only [Gw3Backa,Gw3Backb,Gw3Backc]
 refine wpG_val (.int .i64 (T.size:Int)) rfl (by rfl) (fun w' hSw=>by go_simp) ?_
 simp only [Gw3Backa,Gw3Backb,Gw3Backc]
 refine wpG_val (.bool true) rfl (by rfl) (fun w' hSw=>by go_simp) ?_
 simp only [Gw3Backa,Gw3Backb,Gw3Backc]
 refine wpG_val (.bool true) rfl (by rfl) (fun w' hSw=>by go_simp) ?_
 simp only [Gw3Backa,Gw3Backb,Gw3Backc]
 refine wpG_val (.bool true) rfl (by rfl) (fun w' hSw=>by go_simp) ?_
 simp only [Gw3Backa,Gw3Backb,Gw3Backc]
 refine wpG_val (.pointer (some ⟨w9.heap.size,2,none⟩)) rfl (by rfl) (fun w' hSw=>by go_simp) ?_
 simp only [Gw3Backa,Gw3Backb,Gw3Backc]
 refine wpG_val (.pointer (some ⟨w9.heap.size,5,none⟩)) rfl (by rfl) (fun w' hSw=>by go_simp) ?_
 simp only [Gw3Backa,Gw3Backb,Gw3Backc]
 refine wpG_val (.int .u32 (T.size:Int)) rfl (by rfl) (fun w' hSw=>by have c:=(Ru.out.go hSw).cell 5 _ rfl;go_simp) ?_
 simp only [Gw3Backa,Gw3Backb,Gw3Backc]
 refine wpG_val (.int .u32 (T.size:Int)) rfl (by rfl) (fun w' hSw=>by go_simp) ?_
 simp only [Gw3Backa,Gw3Backb,Gw3Backc]
 refine wpG_val (.bool true) rfl (by rfl) (fun w' hSw=>by go_simp) ?_
 simp only [Gw3Backa,Gw3Backb,Gw3Backc]
 refine wpG_val (.bool true) rfl (by rfl) (fun w' hSw=>by go_simp) ?_
 simp only [Gw3Backa,Gw3Backb,Gw3Backc]
 refine wpG_val (.bool true) rfl (by rfl) (fun w' hSw=>by go_simp) ?_
 simp only [Gw3Backa,Gw3Backb,Gw3Backc]
 refine wpG_val (.pointer (some ⟨w7.heap.size,0,none⟩)) rfl (by rfl) (fun w' hSw=>by go_simp) ?_
 simp only [Gw3Backa,Gw3Backb,Gw3Backc]
 refine wpG_val (.string T) rfl (by rfl) (fun w' hSw=>by have c:=(Rt.out.go hSw).cell 0 _ rfl;go_simp) ?_
 simp only [Gw3Backa,Gw3Backb,Gw3Backc]
 refine wpG_val (.pointer (some ⟨w11.heap.size,0,none⟩)) rfl (by rfl) (fun w' hSw=>by go_simp) ?_
 simp only [Gw3Backa,Gw3Backb,Gw3Backc]
 refine wpG_val (.string W) rfl (by rfl) (fun w' hSw=>by have c:=(Rx.out.go hSw).cell 0 _ rfl;go_simp) ?_
 simp only [Gw3Backa,Gw3Backb,Gw3Backc]
 refine wpG_val (.int .i64 (W.size:Int)) rfl (by rfl) (fun w' hSw=>by go_simp) ?_
 simp only [Gw3Backa,Gw3Backb,Gw3Backc]
 refine wpG_val (.string W) rfl (by rfl) (fun w' hSw=>by go_simp;rw [if_pos HWT.out,HTW.out]) ?_
 simp only [Gw3Backa,Gw3Backb,Gw3Backc]
 refine wpG_val (.pointer (some ⟨w11.heap.size,0,none⟩)) rfl (by rfl) (fun w' hSw=>by go_simp) ?_
 simp only [Gw3Backa,Gw3Backb,Gw3Backc]
 refine wpG_val (.string W) rfl (by rfl) (fun w' hSw=>by have c:=(Rx.out.go hSw).cell 0 _ rfl;go_simp) ?_
 simp only [Gw3Backa,Gw3Backb,Gw3Backc]
 refine wpG_val (.bool true) rfl (by rfl) (fun w' hSw=>by go_simp) ?_
 simp only [Gw3Backa,Gw3Backb,Gw3Backc]
 refine wpG_val (.bool true) rfl (by rfl) (fun w' hSw=>by go_simp) ?_
 simp only [Gw3Backa,Gw3Backb,Gw3Backc]
 refine wpG_val (.bool true) rfl (by rfl) (fun w' hSw=>by go_simp) ?_
 simp only [Gw3Backa,Gw3Backb,Gw3Backc]
 refine wpG_nil ?_
 intro w13 hb
 clear ca0 ca1 ca2 ca3 ca4 ca5 ca6 ca7 ce0 ce1 ce2 ce3 ce4 ce5 ce6 ce7 ct0 ct1 ct2 ct3 ct4 ct5 ct6 ct7 cu0 cu1 cu2 cu3 cu4 cu5 cu6 cu7 cx0 cx1 cx2 cx3 cx4 cx5 cx6 cx7
 replace Ra:=gg Ra hb
 replace Re:=gg Re hb
 replace Rt:=gg Rt hb
 replace Ru:=gg Ru hb
 replace Rx:=gg Rx hb
 replace HI:=hid (HI.out.go hb)
 replace HIM:=hid (HIM.out.go hb)
 replace HIK:=hid (HIK.out.go hb)
 replace B:=gb B hb
 obtain⟨ca0,ca1,ca2,ca3,ca4,ca5,ca6,ca7⟩:=cl8 Ra.out
 obtain⟨ce0,ce1,ce2,ce3,ce4,ce5,ce6,ce7⟩:=cl8 Re.out
 obtain⟨ct0,ct1,ct2,ct3,ct4,ct5,ct6,ct7⟩:=cl8 Rt.out
 obtain⟨cu0,cu1,cu2,cu3,cu4,cu5,cu6,cu7⟩:=cl8 Ru.out
 obtain⟨cx0,cx1,cx2,cx3,cx4,cx5,cx6,cx7⟩:=cl8 Rx.out
 clear hb
 go_wp2
 go_ret
 exact⟨rfl,B.out⟩
set_option maxHeartbeats 4000000 in
theorem back_10 {p b:ByteArray}{q N:Nat}(hI:ItA w A n L) (hc:n≤c) (hcm:c≤maxLen) (hn:n≤1048576) (hp:p.size≤1048576) (hb:b.size≤1048576) (hq:q<4294967296) (hN:N<4294967296) (h0:dX L (oW p q b)=0) (h1:dX L (oC p N)≠0):Calls Tryz.prog 4 #[.slice A n c,.string p,.int .u32 q,.string b,.int .u32 N] w fun e w'=>e=.returned (.bool true)∧Below w.heap.size w w':=by
 have hlL:L.length≤1048576:=by have:=hI.1;omega
 obtain⟨k1,k2,k3,k4⟩:=write_all h0
 have hbw:=w32 (n:=b.size) (by omega)
 have C1:=hid (fun (w:World) (A:Option Addr) (n c:Nat) (hI:ItA w A n (L)) (hc:n≤c) (hcm:c≤maxLen)=>af0 (o:=oW p q b) (L:=L) (L':=aft L (oW p q b)) (d:=zTd) (x:=0) hI hc hcm ⟨show (6:Nat)<256 by decide,show (0:Nat)<65536 by decide,hq,show (0:Nat)<4294967296 by decide,hp,show (0:Nat)≤1048576 by decide,hb⟩ h0 rfl (dT_ch oW_t) (by omega) rfl)
 rw [show vOp (oW p q b)=.agg #[.int .u8 6,.string p,.string ⟨#[]⟩,.int .u16 0,.int .u32 q,.int .u32 0,.string b] from rfl] at C1
 generalize aft L (oW p q b)=M at *
 have C2:=hid (fun (w:World) (A:Option Addr) (n c:Nat) (hI:ItA w A n (M)) (hc:n≤c) (hcm:c≤maxLen)=>af0 (o:=oE p q b.size) (L:=M) (L':=M) (d:={ zTd with s:=b }) (x:=0) hI hc hcm ⟨show (5:Nat)<256 by decide,show (0:Nat)<65536 by decide,hq,(show b.size<4294967296 by omega),hp,show (0:Nat)≤1048576 by decide,show (0:Nat)≤1048576 by decide⟩ k2 (aft_tl oE_t) k3 (by omega) rfl)
 rw [show vOp (oE p q b.size)=.agg #[.int .u8 5,.string p,.string ⟨#[]⟩,.int .u16 0,.int .u32 q,.int .u32 b.size,.string ⟨#[]⟩] from rfl] at C2
 clear k1 k2 k3 k4
 have C3:=hid (fun (w:World) (A:Option Addr) (n c:Nat) (hI:ItA w A n (L)) (hc:n≤c) (hcm:c≤maxLen)=>af0 (o:=oC p N) (L:=L) (L':=L) (d:=zTd) (x:=dX L (oC p N)) hI hc hcm ⟨show (7:Nat)<256 by decide,show (0:Nat)<65536 by decide,show (0:Nat)<4294967296 by decide,hN,hp,show (0:Nat)≤1048576 by decide,show (0:Nat)≤1048576 by decide⟩ rfl (aft_no h1) (dT_ch oC_t) (by omega) rfl)
 rw [show vOp (oC p N)=.agg #[.int .u8 7,.string p,.string ⟨#[]⟩,.int .u16 0,.int .u32 0,.int .u32 N,.string ⟨#[]⟩] from rfl] at C3
 have e1:=ne0 h1
 generalize dX L (oC p N)=x1 at *
 have HI:=hid hI
 have HN:=hid (And.intro hc hcm)
 clear hI hc hcm hn hp hb hq hN hlL h0 h1
 go_enter Tryz.func4,Tryz.ntmps4
 go_wp2_with fail
 have B:=hid (Below.refl w.heap.size w)
 refine (lives_any w).mono ?_
 rintro e w1 ⟨rfl,hb⟩
 replace HI:=hid (HI.out.go hb)
 replace B:=gb B hb
 clear hb
 go_wp2_with (first
  | (go_at_call 14;refine (C1.out w1 A n c HI.out HN.out.1 HN.out.2).mono ?_;rintro e w2 ⟨A1,n1,c1,E1,e1,rfl,hn9,hc9,hI9,hb⟩;have HIM:=hid hI9;have HNM:=hid (And.intro hn9 hc9);replace HI:=hid (HI.out.go hb);replace B:=gb B hb;clear hI9 hn9 hc9;clear hb)
  | (refine new_row rfl 38 (.tmp 12) (.tmp 36) rfl rfl #[.string ⟨#[]⟩,.int .u32 0,.int .u8 0,.int .u16 0,.int .u32 0,.int .u32 0,.string ⟨#[]⟩,.slice E1 0 e1] rfl rfl (by kernel_rfl) rfl (row8 _ _ _ _ _ _ _ _ _ _) ?_;intro w3 M;replace HI:=hid (HI.out.go M.2.1);replace HIM:=hid (HIM.out.go M.2.1);replace B:=gb B M.2.1;have Ra:=hid M.1;obtain⟨ca0,ca1,ca2,ca3,ca4,ca5,ca6,ca7⟩:=cl8 Ra.out;clear M)
  | (go_at_call 14;refine (C2.out w3 A1 n1 c1 HIM.out HNM.out.1 HNM.out.2).mono ?_;rintro e w4 ⟨A2,n2,c2,E2,e2,rfl,hn9,hc9,hI9,hb⟩;clear ca0 ca1 ca2 ca3 ca4 ca5 ca6 ca7;replace Ra:=gg Ra hb;replace HI:=hid (HI.out.go hb);replace HIM:=hid (HIM.out.go hb);replace B:=gb B hb;clear hI9 hn9 hc9;obtain⟨ca0,ca1,ca2,ca3,ca4,ca5,ca6,ca7⟩:=cl8 Ra.out;clear hb)
  | (refine new_row rfl 38 (.tmp 15) (.tmp 50) rfl rfl #[.string b,.int .u32 0,.int .u8 0,.int .u16 0,.int .u32 0,.int .u32 0,.string ⟨#[]⟩,.slice E2 0 e2] rfl rfl (by kernel_rfl) rfl (row8 _ _ _ _ _ _ _ _ _ _) ?_;intro w5 M;clear ca0 ca1 ca2 ca3 ca4 ca5 ca6 ca7;replace Ra:=gg Ra M.2.1;replace HI:=hid (HI.out.go M.2.1);replace HIM:=hid (HIM.out.go M.2.1);replace B:=gb B M.2.1;have Re:=hid M.1;obtain⟨ca0,ca1,ca2,ca3,ca4,ca5,ca6,ca7⟩:=cl8 Ra.out;obtain⟨ce0,ce1,ce2,ce3,ce4,ce5,ce6,ce7⟩:=cl8 Re.out;clear M)
  | (go_at_call 14;refine (C3.out w5 A n c HI.out HN.out.1 HN.out.2).mono ?_;rintro e w6 ⟨A3,n3,c3,E3,e3,rfl,hn9,hc9,hI9,hb⟩;have HIK:=hid hI9;have HNK:=hid (And.intro hn9 hc9);clear ca0 ca1 ca2 ca3 ca4 ca5 ca6 ca7 ce0 ce1 ce2 ce3 ce4 ce5 ce6 ce7;replace Ra:=gg Ra hb;replace Re:=gg Re hb;replace HI:=hid (HI.out.go hb);replace HIM:=hid (HIM.out.go hb);replace B:=gb B hb;clear hI9 hn9 hc9;obtain⟨ca0,ca1,ca2,ca3,ca4,ca5,ca6,ca7⟩:=cl8 Ra.out;obtain⟨ce0,ce1,ce2,ce3,ce4,ce5,ce6,ce7⟩:=cl8 Re.out;clear hb))
 go_ret
 exact⟨rfl,B.out⟩
set_option maxHeartbeats 4000000 in
theorem back_01 {p b:ByteArray}{q N:Nat}(hI:ItA w A n L) (hc:n≤c) (hcm:c≤maxLen) (hn:n≤1048576) (hp:p.size≤1048576) (hb:b.size≤1048576) (hq:q<4294967296) (hN:N<4294967296) (h0:dX L (oW p q b)≠0) (h1:dX L (oC p N)=0):Calls Tryz.prog 4 #[.slice A n c,.string p,.int .u32 q,.string b,.int .u32 N] w fun e w'=>e=.returned (.bool true)∧Below w.heap.size w w':=by
 have hlL:L.length≤1048576:=by have:=hI.1;omega
 obtain⟨T,W,i,nn,j1,j2,j3,j4,j5,j6,j7,j8,j9,j10,j11⟩:=cut_all h1
 subst j4
 obtain⟨nK,nM,nL,nS,nT⟩:=nn
 dsimp only at j6
 have C1:=hid (fun (w:World) (A:Option Addr) (n c:Nat) (hI:ItA w A n (L)) (hc:n≤c) (hcm:c≤maxLen)=>af0 (o:=oW p q b) (L:=L) (L':=L) (d:=zTd) (x:=dX L (oW p q b)) hI hc hcm ⟨show (6:Nat)<256 by decide,show (0:Nat)<65536 by decide,hq,show (0:Nat)<4294967296 by decide,hp,show (0:Nat)≤1048576 by decide,hb⟩ rfl (aft_no h0) (dT_ch oW_t) (by omega) rfl)
 rw [show vOp (oW p q b)=.agg #[.int .u8 6,.string p,.string ⟨#[]⟩,.int .u16 0,.int .u32 q,.int .u32 0,.string b] from rfl] at C1
 have e0:=ne0 h0
 generalize dX L (oW p q b)=x0 at *
 have C3:=hid (fun (w:World) (A:Option Addr) (n c:Nat) (hI:ItA w A n (L)) (hc:n≤c) (hcm:c≤maxLen)=>af0 (o:=oC p T.size) (L:=L) (L':=aft L (oC p T.size)) (d:=zTd) (x:=0) hI hc hcm ⟨show (7:Nat)<256 by decide,show (0:Nat)<65536 by decide,show (0:Nat)<4294967296 by decide,hN,hp,show (0:Nat)≤1048576 by decide,show (0:Nat)≤1048576 by decide⟩ h1 rfl (dT_ch oC_t) (by omega) rfl)
 rw [show vOp (oC p T.size)=.agg #[.int .u8 7,.string p,.string ⟨#[]⟩,.int .u16 0,.int .u32 0,.int .u32 T.size,.string ⟨#[]⟩] from rfl] at C3
 generalize aft L (oC p T.size)=K at *
 have C4:=hid (fun (w:World) (A:Option Addr) (n c:Nat) (hI:ItA w A n (K)) (hc:n≤c) (hcm:c≤maxLen)=>af0 (o:=oE p 0 4294967295) (L:=K) (L':=K) (d:={ zTd with s:=T }) (x:=0) hI hc hcm ⟨show (5:Nat)<256 by decide,show (0:Nat)<65536 by decide,show (0:Nat)<4294967296 by decide,show (4294967295:Nat)<4294967296 by decide,hp,show (0:Nat)≤1048576 by decide,show (0:Nat)≤1048576 by decide⟩ j2 (aft_tl oE_t) j3 (by omega) rfl)
 rw [show vOp (oE p 0 4294967295)=.agg #[.int .u8 5,.string p,.string ⟨#[]⟩,.int .u16 0,.int .u32 0,.int .u32 4294967295,.string ⟨#[]⟩] from rfl] at C4
 have C5:=hid (fun (w:World) (A:Option Addr) (n c:Nat) (hI:ItA w A n (K)) (hc:n≤c) (hcm:c≤maxLen)=>af0 (o:=oT p) (L:=K) (L':=K) (d:={ zTd with i:=i,n:=⟨nK,nM,nL,T.size,nT⟩ }) (x:=0) hI hc hcm ⟨show (11:Nat)<256 by decide,show (0:Nat)<65536 by decide,show (0:Nat)<4294967296 by decide,show (0:Nat)<4294967296 by decide,hp,show (0:Nat)≤1048576 by decide,show (0:Nat)≤1048576 by decide⟩ j5 (aft_tl oT_t) j6 (by omega) rfl)
 rw [show vOp (oT p)=.agg #[.int .u8 11,.string p,.string ⟨#[]⟩,.int .u16 0,.int .u32 0,.int .u32 0,.string ⟨#[]⟩] from rfl] at C5
 have C6:=hid (fun (w:World) (A:Option Addr) (n c:Nat) (hI:ItA w A n (L)) (hc:n≤c) (hcm:c≤maxLen)=>af0 (o:=oE p 0 T.size) (L:=L) (L':=L) (d:={ zTd with s:=W }) (x:=0) hI hc hcm ⟨show (5:Nat)<256 by decide,show (0:Nat)<65536 by decide,show (0:Nat)<4294967296 by decide,hN,hp,show (0:Nat)≤1048576 by decide,show (0:Nat)≤1048576 by decide⟩ j7 (aft_tl oE_t) j8 (by omega) rfl)
 rw [show vOp (oE p 0 T.size)=.agg #[.int .u8 5,.string p,.string ⟨#[]⟩,.int .u16 0,.int .u32 0,.int .u32 T.size,.string ⟨#[]⟩] from rfl] at C6
 have hw64:=w64 hN
 have HTW:=hid j10
 have HWT:=hid j9
 clear j1 j2 j3 j5 j6 j7 j8 j9 j10 j11
 have HI:=hid hI
 have HN:=hid (And.intro hc hcm)
 clear hI hc hcm hn hp hb hq hN hlL h0 h1
 go_enter Tryz.func4,Tryz.ntmps4
 go_wp2_with fail
 have B:=hid (Below.refl w.heap.size w)
 refine (lives_any w).mono ?_
 rintro e w1 ⟨rfl,hb⟩
 replace HI:=hid (HI.out.go hb)
 replace B:=gb B hb
 clear hb
 go_wp2_with (first
  | (go_at_call 14;refine (C1.out w1 A n c HI.out HN.out.1 HN.out.2).mono ?_;rintro e w2 ⟨A1,n1,c1,E1,e1,rfl,hn9,hc9,hI9,hb⟩;have HIM:=hid hI9;have HNM:=hid (And.intro hn9 hc9);replace HI:=hid (HI.out.go hb);replace B:=gb B hb;clear hI9 hn9 hc9;clear hb)
  | (refine new_row rfl 38 (.tmp 12) (.tmp 36) rfl rfl #[.string ⟨#[]⟩,.int .u32 0,.int .u8 0,.int .u16 0,.int .u32 0,.int .u32 0,.string ⟨#[]⟩,.slice E1 0 e1] rfl rfl (by kernel_rfl) rfl (row8 _ _ _ _ _ _ _ _ _ _) ?_;intro w3 M;replace HI:=hid (HI.out.go M.2.1);replace HIM:=hid (HIM.out.go M.2.1);replace B:=gb B M.2.1;have Ra:=hid M.1;obtain⟨ca0,ca1,ca2,ca3,ca4,ca5,ca6,ca7⟩:=cl8 Ra.out;clear M)
  | (go_at_call 14;refine (C3.out w3 A n c HI.out HN.out.1 HN.out.2).mono ?_;rintro e w4 ⟨A3,n3,c3,E3,e3,rfl,hn9,hc9,hI9,hb⟩;have HIK:=hid hI9;have HNK:=hid (And.intro hn9 hc9);clear ca0 ca1 ca2 ca3 ca4 ca5 ca6 ca7;replace Ra:=gg Ra hb;replace HI:=hid (HI.out.go hb);replace HIM:=hid (HIM.out.go hb);replace B:=gb B hb;clear hI9 hn9 hc9;obtain⟨ca0,ca1,ca2,ca3,ca4,ca5,ca6,ca7⟩:=cl8 Ra.out;clear hb)
  | (go_at_call 14;refine (C4.out w4 A3 n3 c3 HIK.out HNK.out.1 HNK.out.2).mono ?_;rintro e w5 ⟨A4,n4,c4,E4,e4,rfl,hn9,hc9,hI9,hb⟩;clear ca0 ca1 ca2 ca3 ca4 ca5 ca6 ca7;replace Ra:=gg Ra hb;replace HI:=hid (HI.out.go hb);replace HIM:=hid (HIM.out.go hb);replace HIK:=hid (HIK.out.go hb);replace B:=gb B hb;clear hI9 hn9 hc9;obtain⟨ca0,ca1,ca2,ca3,ca4,ca5,ca6,ca7⟩:=cl8 Ra.out;clear hb)
  | (refine new_row rfl 38 (.tmp 18) (.tmp 77) rfl rfl #[.string T,.int .u32 0,.int .u8 0,.int .u16 0,.int .u32 0,.int .u32 0,.string ⟨#[]⟩,.slice E4 0 e4] rfl rfl (by kernel_rfl) rfl (row8 _ _ _ _ _ _ _ _ _ _) ?_;intro w6 M;clear ca0 ca1 ca2 ca3 ca4 ca5 ca6 ca7;replace Ra:=gg Ra M.2.1;replace HI:=hid (HI.out.go M.2.1);replace HIM:=hid (HIM.out.go M.2.1);replace HIK:=hid (HIK.out.go M.2.1);replace B:=gb B M.2.1;have Rt:=hid M.1;obtain⟨ca0,ca1,ca2,ca3,ca4,ca5,ca6,ca7⟩:=cl8 Ra.out;obtain⟨ct0,ct1,ct2,ct3,ct4,ct5,ct6,ct7⟩:=cl8 Rt.out;clear M)
  | (go_at_call 14;refine (C5.out w6 A3 n3 c3 HIK.out HNK.out.1 HNK.out.2).mono ?_;rintro e w7 ⟨A5,n5,c5,E5,e5,rfl,hn9,hc9,hI9,hb⟩;clear ca0 ca1 ca2 ca3 ca4 ca5 ca6 ca7 ct0 ct1 ct2 ct3 ct4 ct5 ct6 ct7;replace Ra:=gg Ra hb;replace Rt:=gg Rt hb;replace HI:=hid (HI.out.go hb);replace HIM:=hid (HIM.out.go hb);replace HIK:=hid (HIK.out.go hb);replace B:=gb B hb;clear hI9 hn9 hc9;obtain⟨ca0,ca1,ca2,ca3,ca4,ca5,ca6,ca7⟩:=cl8 Ra.out;obtain⟨ct0,ct1,ct2,ct3,ct4,ct5,ct6,ct7⟩:=cl8 Rt.out;clear hb)
  | (refine new_row rfl 38 (.tmp 21) (.tmp 85) rfl rfl #[.string ⟨#[]⟩,.int .u32 i,.int .u8 nK,.int .u16 nM,.int .u32 nL,.int .u32 T.size,.string nT,.slice E5 0 e5] rfl rfl (by kernel_rfl) rfl (row8 _ _ _ _ _ _ _ _ _ _) ?_;intro w8 M;clear ca0 ca1 ca2 ca3 ca4 ca5 ca6 ca7 ct0 ct1 ct2 ct3 ct4 ct5 ct6 ct7;replace Ra:=gg Ra M.2.1;replace Rt:=gg Rt M.2.1;replace HI:=hid (HI.out.go M.2.1);replace HIM:=hid (HIM.out.go M.2.1);replace HIK:=hid (HIK.out.go M.2.1);replace B:=gb B M.2.1;have Ru:=hid M.1;obtain⟨ca0,ca1,ca2,ca3,ca4,ca5,ca6,ca7⟩:=cl8 Ra.out;obtain⟨ct0,ct1,ct2,ct3,ct4,ct5,ct6,ct7⟩:=cl8 Rt.out;obtain⟨cu0,cu1,cu2,cu3,cu4,cu5,cu6,cu7⟩:=cl8 Ru.out;clear M)
  | (go_at_call 14;refine (C6.out w8 A n c HI.out HN.out.1 HN.out.2).mono ?_;rintro e w9 ⟨A6,n6,c6,E6,e6,rfl,hn9,hc9,hI9,hb⟩;clear ca0 ca1 ca2 ca3 ca4 ca5 ca6 ca7 ct0 ct1 ct2 ct3 ct4 ct5 ct6 ct7 cu0 cu1 cu2 cu3 cu4 cu5 cu6 cu7;replace Ra:=gg Ra hb;replace Rt:=gg Rt hb;replace Ru:=gg Ru hb;replace HI:=hid (HI.out.go hb);replace HIM:=hid (HIM.out.go hb);replace HIK:=hid (HIK.out.go hb);replace B:=gb B hb;clear hI9 hn9 hc9;obtain⟨ca0,ca1,ca2,ca3,ca4,ca5,ca6,ca7⟩:=cl8 Ra.out;obtain⟨ct0,ct1,ct2,ct3,ct4,ct5,ct6,ct7⟩:=cl8 Rt.out;obtain⟨cu0,cu1,cu2,cu3,cu4,cu5,cu6,cu7⟩:=cl8 Ru.out;clear hb)
  | (refine new_row rfl 38 (.tmp 24) (.tmp 94) rfl rfl #[.string W,.int .u32 0,.int .u8 0,.int .u16 0,.int .u32 0,.int .u32 0,.string ⟨#[]⟩,.slice E6 0 e6] rfl rfl (by kernel_rfl) rfl (row8 _ _ _ _ _ _ _ _ _ _) ?_;intro w10 M;clear ca0 ca1 ca2 ca3 ca4 ca5 ca6 ca7 ct0 ct1 ct2 ct3 ct4 ct5 ct6 ct7 cu0 cu1 cu2 cu3 cu4 cu5 cu6 cu7;replace Ra:=gg Ra M.2.1;replace Rt:=gg Rt M.2.1;replace Ru:=gg Ru M.2.1;replace HI:=hid (HI.out.go M.2.1);replace HIM:=hid (HIM.out.go M.2.1);replace HIK:=hid (HIK.out.go M.2.1);replace B:=gb B M.2.1;have Rx:=hid M.1;obtain⟨ca0,ca1,ca2,ca3,ca4,ca5,ca6,ca7⟩:=cl8 Ra.out;obtain⟨ct0,ct1,ct2,ct3,ct4,ct5,ct6,ct7⟩:=cl8 Rt.out;obtain⟨cu0,cu1,cu2,cu3,cu4,cu5,cu6,cu7⟩:=cl8 Ru.out;obtain⟨cx0,cx1,cx2,cx3,cx4,cx5,cx6,cx7⟩:=cl8 Rx.out;clear M))
 refine wp_region_G (fun w'=>Below w10.heap.size w10 w') (by kernel_rfl) (by kernel_rfl) (Below.refl _ _).drew ?_
 refine wpG_val (.int .i64 0) rfl (by rfl) (fun w' hSw=>by go_simp) ?_
 simp only [Gw3Backa,Gw3Backb,Gw3Backc]
 refine wpG_val (.bool true) rfl (by rfl) (fun w' hSw=>by go_simp) ?_
 simp only [Gw3Backa,Gw3Backb,Gw3Backc]
 refine wpG_val (.bool true) rfl (by rfl) (fun w' hSw=>by go_simp) ?_
 simp only [Gw3Backa,Gw3Backb,Gw3Backc]
 refine wpG_val (.int .i64 0) rfl (by rfl) (fun w' hSw=>by go_simp) ?_
 simp only [Gw3Backa,Gw3Backb,Gw3Backc]
 refine wpG_val (.bool true) rfl (by rfl) (fun w' hSw=>by go_simp) ?_
 simp only [Gw3Backa,Gw3Backb,Gw3Backc]
 refine wpG_val (.bool true) rfl (by rfl) (fun w' hSw=>by go_simp) ?_
 simp only [Gw3Backa,Gw3Backb,Gw3Backc]
 refine wpG_val (.bool true) rfl (by rfl) (fun w' hSw=>by go_simp) ?_
 simp only [Gw3Backa,Gw3Backb,Gw3Backc]
 refine wpG_val (.int .i64 0) rfl (by rfl) (fun w' hSw=>by go_simp) ?_
 simp only [Gw3Backa,Gw3Backb,Gw3Backc]
 refine wpG_val (.bool true) rfl (by rfl) (fun w' hSw=>by go_simp) ?_
 simp only [Gw3Backa,Gw3Backb,Gw3Backc]
 refine wpG_val (.bool true) rfl (by rfl) (fun w' hSw=>by go_simp) ?_
 simp only [Gw3Backa,Gw3Backb,Gw3Backc]
 refine wpG_val (.bool true) rfl (by rfl) (fun w' hSw=>by go_simp) ?_
 simp only [Gw3Backa,Gw3Backb,Gw3Backc]
 refine wpG_val (.pointer (some ⟨w5.heap.size,0,none⟩)) rfl (by rfl) (fun w' hSw=>by go_simp) ?_
 simp only [Gw3Backa,Gw3Backb,Gw3Backc]
 refine wpG_val (.string T) rfl (by rfl) (fun w' hSw=>by have c:=(Rt.out.go hSw).cell 0 _ rfl;go_simp) ?_
 simp only [Gw3Backa,Gw3Backb,Gw3Backc]
 refine wpG_val (.int .i64 (T.size:Int)) rfl (by rfl) (fun w' hSw=>by go_simp) ?_
 simp only [Gw3Backa,Gw3Backb,Gw3Backc]
 refine wpG_val (.int .u32 (T.size:Int)) rfl (by rfl) (fun w' hSw=>by go_simp) ?_
 simp only [Gw3Backa,Gw3Backb,Gw3Backc]
 refine wpG_val (.int .i64 (T.size:Int)) rfl (by rfl) (fun w' hSw=>by go_simp) ?_
 simp only [Gw3Backa,Gw3Backb,Gw3Backc]
 refine wpG_val (.bool true) rfl (by rfl) (fun w' hSw=>by go_simp) ?_
 simp only [Gw3Backa,Gw3Backb,Gw3Backc]
 refine wpG_val (.bool true) rfl (by rfl) (fun w' hSw=>by go_simp) ?_
 simp only [Gw3Backa,Gw3Backb,Gw3Backc]
 refine wpG_val (.bool true) rfl (by rfl) (fun w' hSw=>by go_simp) ?_
 simp only [Gw3Backa,Gw3Backb,Gw3Backc]
 refine wpG_val (.pointer (some ⟨w7.heap.size,2,none⟩)) rfl (by rfl) (fun w' hSw=>by go_simp) ?_
 simp only [Gw3Backa,Gw3Backb,Gw3Backc]
 refine wpG_val (.pointer (some ⟨w7.heap.size,5,none⟩)) rfl (by rfl) (fun w' hSw=>by go_simp) ?_
 simp only [Gw3Backa,Gw3Backb,Gw3Backc]
 refine wpG_val (.int .u32 (T.size:Int)) rfl (by rfl) (fun w' hSw=>by have c:=(Ru.out.go hSw).cell 5 _ rfl;go_simp) ?_
 simp only [Gw3Backa,Gw3Backb,Gw3Backc]
 refine wpG_val (.int .u32 (T.size:Int)) rfl (by rfl) (fun w' hSw=>by go_simp) ?_
 simp only [Gw3Backa,Gw3Backb,Gw3Backc]
 refine wpG_val (.bool true) rfl (by rfl) (fun w' hSw=>by go_simp) ?_
 simp only [Gw3Backa,Gw3Backb,Gw3Backc]
 refine wpG_val (.bool true) rfl (by rfl) (fun w' hSw=>by go_simp) ?_
 simp only [Gw3Backa,Gw3Backb,Gw3Backc]
 refine wpG_val (.bool true) rfl (by rfl) (fun w' hSw=>by go_simp) ?_
 simp only [Gw3Backa,Gw3Backb,Gw3Backc]
 refine wpG_val (.pointer (some ⟨w5.heap.size,0,none⟩)) rfl (by rfl) (fun w' hSw=>by go_simp) ?_
 simp only [Gw3Backa,Gw3Backb,Gw3Backc]
 refine wpG_val (.string T) rfl (by rfl) (fun w' hSw=>by have c:=(Rt.out.go hSw).cell 0 _ rfl;go_simp) ?_
 simp only [Gw3Backa,Gw3Backb,Gw3Backc]
 refine wpG_val (.pointer (some ⟨w9.heap.size,0,none⟩)) rfl (by rfl) (fun w' hSw=>by go_simp) ?_
 simp only [Gw3Backa,Gw3Backb,Gw3Backc]
 refine wpG_val (.string W) rfl (by rfl) (fun w' hSw=>by have c:=(Rx.out.go hSw).cell 0 _ rfl;go_simp) ?_
 simp only [Gw3Backa,Gw3Backb,Gw3Backc]
 refine wpG_val (.int .i64 (W.size:Int)) rfl (by rfl) (fun w' hSw=>by go_simp) ?_
 simp only [Gw3Backa,Gw3Backb,Gw3Backc]
 refine wpG_val (.string W) rfl (by rfl) (fun w' hSw=>by go_simp;rw [if_pos HWT.out,HTW.out]) ?_
 simp only [Gw3Backa,Gw3Backb,Gw3Backc]
 refine wpG_val (.pointer (some ⟨w9.heap.size,0,none⟩)) rfl (by rfl) (fun w' hSw=>by go_simp) ?_
 simp only [Gw3Backa,Gw3Backb,Gw3Backc]
 refine wpG_val (.string W) rfl (by rfl) (fun w' hSw=>by have c:=(Rx.out.go hSw).cell 0 _ rfl;go_simp) ?_
 simp only [Gw3Backa,Gw3Backb,Gw3Backc]
 refine wpG_val (.bool true) rfl (by rfl) (fun w' hSw=>by go_simp) ?_
 simp only [Gw3Backa,Gw3Backb,Gw3Backc]
 refine wpG_val (.bool true) rfl (by rfl) (fun w' hSw=>by go_simp) ?_
 simp only [Gw3Backa,Gw3Backb,Gw3Backc]
 refine wpG_val (.bool true) rfl (by rfl) (fun w' hSw=>by go_simp) ?_
 simp only [Gw3Backa,Gw3Backb,Gw3Backc]
 refine wpG_nil ?_
 intro w11 hb
 clear ca0 ca1 ca2 ca3 ca4 ca5 ca6 ca7 ct0 ct1 ct2 ct3 ct4 ct5 ct6 ct7 cu0 cu1 cu2 cu3 cu4 cu5 cu6 cu7 cx0 cx1 cx2 cx3 cx4 cx5 cx6 cx7
 replace Ra:=gg Ra hb
 replace Rt:=gg Rt hb
 replace Ru:=gg Ru hb
 replace Rx:=gg Rx hb
 replace HI:=hid (HI.out.go hb)
 replace HIM:=hid (HIM.out.go hb)
 replace HIK:=hid (HIK.out.go hb)
 replace B:=gb B hb
 obtain⟨ca0,ca1,ca2,ca3,ca4,ca5,ca6,ca7⟩:=cl8 Ra.out
 obtain⟨ct0,ct1,ct2,ct3,ct4,ct5,ct6,ct7⟩:=cl8 Rt.out
 obtain⟨cu0,cu1,cu2,cu3,cu4,cu5,cu6,cu7⟩:=cl8 Ru.out
 obtain⟨cx0,cx1,cx2,cx3,cx4,cx5,cx6,cx7⟩:=cl8 Rx.out
 clear hb
 go_wp2
 go_ret
 exact⟨rfl,B.out⟩
set_option maxHeartbeats 4000000 in
theorem back_00 {p b:ByteArray}{q N:Nat}(hI:ItA w A n L) (hc:n≤c) (hcm:c≤maxLen) (hn:n≤1048576) (hp:p.size≤1048576) (hb:b.size≤1048576) (hq:q<4294967296) (hN:N<4294967296) (h0:dX L (oW p q b)≠0) (h1:dX L (oC p N)≠0):Calls Tryz.prog 4 #[.slice A n c,.string p,.int .u32 q,.string b,.int .u32 N] w fun e w'=>e=.returned (.bool true)∧Below w.heap.size w w':=by
 have hlL:L.length≤1048576:=by have:=hI.1;omega
 have C1:=hid (fun (w:World) (A:Option Addr) (n c:Nat) (hI:ItA w A n (L)) (hc:n≤c) (hcm:c≤maxLen)=>af0 (o:=oW p q b) (L:=L) (L':=L) (d:=zTd) (x:=dX L (oW p q b)) hI hc hcm ⟨show (6:Nat)<256 by decide,show (0:Nat)<65536 by decide,hq,show (0:Nat)<4294967296 by decide,hp,show (0:Nat)≤1048576 by decide,hb⟩ rfl (aft_no h0) (dT_ch oW_t) (by omega) rfl)
 rw [show vOp (oW p q b)=.agg #[.int .u8 6,.string p,.string ⟨#[]⟩,.int .u16 0,.int .u32 q,.int .u32 0,.string b] from rfl] at C1
 have e0:=ne0 h0
 generalize dX L (oW p q b)=x0 at *
 have C3:=hid (fun (w:World) (A:Option Addr) (n c:Nat) (hI:ItA w A n (L)) (hc:n≤c) (hcm:c≤maxLen)=>af0 (o:=oC p N) (L:=L) (L':=L) (d:=zTd) (x:=dX L (oC p N)) hI hc hcm ⟨show (7:Nat)<256 by decide,show (0:Nat)<65536 by decide,show (0:Nat)<4294967296 by decide,hN,hp,show (0:Nat)≤1048576 by decide,show (0:Nat)≤1048576 by decide⟩ rfl (aft_no h1) (dT_ch oC_t) (by omega) rfl)
 rw [show vOp (oC p N)=.agg #[.int .u8 7,.string p,.string ⟨#[]⟩,.int .u16 0,.int .u32 0,.int .u32 N,.string ⟨#[]⟩] from rfl] at C3
 have e1:=ne0 h1
 generalize dX L (oC p N)=x1 at *
 have HI:=hid hI
 have HN:=hid (And.intro hc hcm)
 clear hI hc hcm hn hp hb hq hN hlL h0 h1
 go_enter Tryz.func4,Tryz.ntmps4
 go_wp2_with fail
 have B:=hid (Below.refl w.heap.size w)
 refine (lives_any w).mono ?_
 rintro e w1 ⟨rfl,hb⟩
 replace HI:=hid (HI.out.go hb)
 replace B:=gb B hb
 clear hb
 go_wp2_with (first
  | (go_at_call 14;refine (C1.out w1 A n c HI.out HN.out.1 HN.out.2).mono ?_;rintro e w2 ⟨A1,n1,c1,E1,e1,rfl,hn9,hc9,hI9,hb⟩;have HIM:=hid hI9;have HNM:=hid (And.intro hn9 hc9);replace HI:=hid (HI.out.go hb);replace B:=gb B hb;clear hI9 hn9 hc9;clear hb)
  | (refine new_row rfl 38 (.tmp 12) (.tmp 36) rfl rfl #[.string ⟨#[]⟩,.int .u32 0,.int .u8 0,.int .u16 0,.int .u32 0,.int .u32 0,.string ⟨#[]⟩,.slice E1 0 e1] rfl rfl (by kernel_rfl) rfl (row8 _ _ _ _ _ _ _ _ _ _) ?_;intro w3 M;replace HI:=hid (HI.out.go M.2.1);replace HIM:=hid (HIM.out.go M.2.1);replace B:=gb B M.2.1;have Ra:=hid M.1;obtain⟨ca0,ca1,ca2,ca3,ca4,ca5,ca6,ca7⟩:=cl8 Ra.out;clear M)
  | (go_at_call 14;refine (C3.out w3 A n c HI.out HN.out.1 HN.out.2).mono ?_;rintro e w4 ⟨A3,n3,c3,E3,e3,rfl,hn9,hc9,hI9,hb⟩;have HIK:=hid hI9;have HNK:=hid (And.intro hn9 hc9);clear ca0 ca1 ca2 ca3 ca4 ca5 ca6 ca7;replace Ra:=gg Ra hb;replace HI:=hid (HI.out.go hb);replace HIM:=hid (HIM.out.go hb);replace B:=gb B hb;clear hI9 hn9 hc9;obtain⟨ca0,ca1,ca2,ca3,ca4,ca5,ca6,ca7⟩:=cl8 Ra.out;clear hb))
 go_ret
 exact⟨rfl,B.out⟩
theorem filesBack_walk {p b:ByteArray}{q N:Nat}(hI:ItA w A n L) (hc:n≤c) (hcm:c≤maxLen) (hn:n≤1048576) (hp:p.size≤1048576) (hb:b.size≤1048576) (hq:q<4294967296) (hN:N<4294967296):Calls Tryz.prog 4 #[.slice A n c,.string p,.int .u32 q,.string b,.int .u32 N] w fun e w'=>e=.returned (.bool true)∧Below w.heap.size w w':=by
 by_cases h0:dX L (oW p q b)=0
 ·by_cases h1:dX L (oC p N)=0
  ·exact back_11 hI hc hcm hn hp hb hq hN h0 h1
  ·exact back_10 hI hc hcm hn hp hb hq hN h0 h1
 ·by_cases h1:dX L (oC p N)=0
  ·exact back_01 hI hc hcm hn hp hb hq hN h0 h1
  ·exact back_00 hI hc hcm hn hp hb hq hN h0 h1
end Go.Proofs.YtopepebcnaikiaaGreatDoor.Fi
