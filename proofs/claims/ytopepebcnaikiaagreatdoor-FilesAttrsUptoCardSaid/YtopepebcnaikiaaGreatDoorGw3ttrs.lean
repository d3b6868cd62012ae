import Derived.Test.YtopepebcnaikiaaGreatDoorGb3
import Derived.Test.YtopepebcnaikiaaGreatDoorGb5
import Derived.Test.YtopepebcnaikiaaGreatDoorGw1ttrs
import Derived.Test.YtopepebcnaikiaaGreatDoorGw2ttrs
set_option maxRecDepth 100000
namespace Go.Proofs.YtopepebcnaikiaaGreatDoor.Fi
open Lib (hid)
set_option linter.unusedVariables false
set_option linter.unusedSimpArgs false
set_option maxRecDepth 100000
open Go.ChangeShapes Go.WideShapes Go.ChangeAt Go.RowKit
open BigFrame
open Ar Rg
open Ino
open It (Itm Ch get und app dif rt rc enc er getV get_any under_any apply_any diff_any MkI MkC)
open Di (ItA wlk rgt rgt_iff numOf Vo vo pts lsX lsL up En NmA Walk_any Up MkE List_any)
open Ph (nb spX spB laX laD laN)
open Pk (nB nE tN tR tE number_any take_any)
variable {w w' wr:World}{A:Option Addr}{n c:Nat}{L:List Itm}
theorem dX_rgt {o:Op}(h:dX L o=0):rgt L=true:=by
 unfold dX at h
 cases hr:rgt L
 ·rw [hr] at h;cases h
 ·rfl
theorem apC_rt (h:rt L=true) (C:List Ch):rt (if rc C=true then app L C else [])=true:=by
 split
 ·exact It.rt_app h (by assumption)
 ·rfl
theorem dC_rc {o:Op}(h:rt L=true):rc (dC L o)=true:=by
 unfold dC
 split
 ·split
  ·exact It.rc_dif h (apC_rt h _)
  ·exact It.rc_dif h (apC_rt h _)
 ·rfl
theorem dT_no {o:Op}(h:dX L o≠0):dT L o=zTd:=by unfold dT;rw [if_neg h]
theorem dC_no {o:Op}(h:dX L o≠0):dC L o=[]:=by unfold dC;rw [if_neg h]
theorem apC_len (C:List Ch):(apC L C).length≤L.length+(L.length+C.length):=by
 unfold apC
 refine Nat.le_trans (It.dif_len L _) (Nat.add_le_add_left ?_ _)
 split
 ·exact It.app_len _ _
 ·exact Nat.zero_le _
theorem dC_len (o:Op):(dC L o).length≤L.length+(L.length+(chC L o).length):=by
 unfold dC
 split
 ·split
  ·have:=apC_len (L:=L) []
   rw [List.length_nil] at this
   omega
  ·exact apC_len _
 ·exact Nat.zero_le _
def AfPost (w:World) (L:List Itm) (o:Op) (e:Ending) (w':World):Prop:=∃ (A':Option Addr) (n' c':Nat) (ev:Value),e=.returned (.tuple #[.slice A' n' c',vTd (dT L o) ev,.int .i64 (dX L o)])∧n'=(aft L o).length∧n'≤c'∧c'≤maxLen∧Ls It.enc 2 w' w'.heap.size A' (aft L o)∧MkE w w' ev (dT L o).e∧Below w.heap.size w w'
set_option maxHeartbeats 2000000 in
theorem after_any (hI:ItA w A n L) (hc:n≤c) (hcm:c≤maxLen) (o:Op) (ho:o.lim):Calls Tryz.prog 14 #[.slice A n c,vOp o] w (AfPost w L o):=by
 by_cases h0:dX L o=0
 ·
  have HF:=hid (fun (w1:World) (hb:Below w.heap.size w w1)=>Do_any (hI.go hb) hc hcm o ho)
  unfold DPost at HF
  unfold AfPost
  have hr:=dX_rgt h0
  have hV:VA w A n c L:=⟨hI,hc,hcm,hr⟩
  have hrt:=hV.rt
  have hrc:=dC_rc (o:=o) hrt
  have hDL:(dC L o).length≤1099511627776:=by
   have h1:=dC_len (L:=L) o
   have h2:=chC_len hV ho
   have h3:=hI.1
   have h4:=hI.2.1
   omega
  have e1:aft L o=app L (dC L o):=by unfold aft;rw [if_pos h0]
  have HAP:=hid (fun (w1:World) (hb:Below w.heap.size w w1) (A8:Option Addr) (m8 c8:Nat) (h8:m8=(dC L o).length) (hL8:Ls Sc.enc 3 w1 w1.heap.size A8 (dC L o))=>apply_any L (dC L o) A A8 n c m8 c8 w1.heap.size w1.heap.size (hI.go hb).1 hc hcm h8 (by have:=hI.2.1;omega) (by omega) w1 (Nat.le_refl _) (Nat.le_refl _) (hI.go hb).2.2 hL8)
  rw [hrt,hrc] at HAP
  rw [h0] at HF ⊢
  rw [if_pos rfl,if_pos rfl,if_pos rfl] at HF
  rw [e1]
  generalize app L (dC L o)=Y at *
  generalize dC L o=C at *
  generalize dT L o=d at *
  obtain⟨ds,di,⟨nK,nM,nL,nS,nT⟩,de⟩:=d
  obtain⟨oK,oP,oT,oM,oO,oN,oD⟩:=o
  try dsimp only at *
  clear ho hI hr hV h0 e1 hc hcm hDL hrt hrc
  have HN:=hid (two_new w #[.int .u8 oK,.string oP,.string oT,.int .u16 oM,.int .u32 oO,.int .u32 oN,.string oD] #[.string ⟨#[]⟩,.int .u32 0,.int .u8 0,.int .u16 0,.int .u32 0,.int .u32 0,.string ⟨#[]⟩,.slice none 0 0] 31 38)
  go_enter Tryz.func14,Tryz.ntmps14
  go_wp2_with fail
  try generalize ((w.alloc (.cells #[.int .u8 oK,.string oP,.string oT,.int .u16 oM,.int .u32 oO,.int .u32 oN,.string oD] 31)).alloc (.cells #[.string ⟨#[]⟩,.int .u32 0,.int .u8 0,.int .u16 0,.int .u32 0,.int .u32 0,.string ⟨#[]⟩,.slice none 0 0] 38))=w0 at *
  have Ro:=hid HN.out.1
  have Rz:=hid HN.out.2.1
  have B:=hid HN.out.2.2.1
  clear HN
  obtain⟨co0,co1,co2,co3,co4,co5,co6⟩:=cl7 Ro.out
  obtain⟨cz0,cz1,cz2,cz3,cz4,cz5,cz6,cz7⟩:=cl8 Rz.out
  refine (HF.out _ B.out).mono ?_
  rintro e w1 ⟨v,ev,rfl,hm0,hm⟩
  have hb:=hm.2
  have HM:=hid hm
  have HC:=hid hm0
  have BK:=hid B.out
  have GK:=hid Rz.out.lt
  obtain⟨A9,c9,hv9,_⟩:=hm.ls Di.encEn_len
  generalize de.length=m9 at hv9
  subst hv9
  obtain⟨A8,c8,hv8,_⟩:=hm0.ls Sc.enc_len
  generalize C.length=m8 at hv8
  subst hv8
  clear co0 co1 co2 co3 co4 co5 co6 cz0 cz1 cz2 cz3 cz4 cz5 cz6 cz7
  replace Ro:=gg Ro hb
  replace Rz:=gg Rz hb
  replace B:=gb B hb
  clear hm hm0
  obtain⟨co0,co1,co2,co3,co4,co5,co6⟩:=cl7 Ro.out
  obtain⟨cz0,cz1,cz2,cz3,cz4,cz5,cz6,cz7⟩:=cl8 Rz.out
  clear hb
  go_wp2_with (first
   | (refine new_row rfl 38 (.tmp 8) (.tmp 17) rfl rfl #[.string ds,.int .u32 di,.int .u8 nK,.int .u16 nM,.int .u32 nL,.int .u32 nS,.string nT,.slice A9 m9 c9] rfl rfl (by kernel_rfl) rfl (row8 _ _ _ _ _ _ _ _ _ _) ?_;intro w2 M;have Dd_z:=hid Rz.out.lt;clear co0 co1 co2 co3 co4 co5 co6 cz0 cz1 cz2 cz3 cz4 cz5 cz6 cz7;replace Ro:=gg Ro M.2.1;replace Rz:=gg Rz M.2.1;replace HM:=hid (HM.out.go M.2.1);replace HC:=hid (HC.out.go M.2.1);replace B:=gb B M.2.1;have Rd:=hid M.1;obtain⟨co0,co1,co2,co3,co4,co5,co6⟩:=cl7 Ro.out;obtain⟨cz0,cz1,cz2,cz3,cz4,cz5,cz6,cz7⟩:=cl8 Rz.out;obtain⟨cd0,cd1,cd2,cd3,cd4,cd5,cd6,cd7⟩:=cl8 Rd.out;clear M)
   | (go_at_call 25;refine (HAP.out _ B.out A8 m8 c8 (mk_sl Sc.enc_len HC.out).1 (mk_sl Sc.enc_len HC.out).2.2.2).mono ?_;rintro e w3 ⟨v2,rfl,hm⟩;have hb:=hm.2;have HY:=hid hm;have BY:=hid B.out;have GY:=hid Rz.out.lt;obtain⟨A7,c7,hv7,_⟩:=hm.ls It.enc_len;generalize hm7:List.length _=m7 at hv7;subst hv7;clear co0 co1 co2 co3 co4 co5 co6 cz0 cz1 cz2 cz3 cz4 cz5 cz6 cz7 cd0 cd1 cd2 cd3 cd4 cd5 cd6 cd7;replace Ro:=gg Ro hb;replace Rz:=gg Rz hb;replace Rd:=gg Rd hb;replace HM:=hid (HM.out.go hb);replace HC:=hid (HC.out.go hb);replace B:=gb B hb;clear hm hm7;have HY2:=hid HY.out;obtain⟨co0,co1,co2,co3,co4,co5,co6⟩:=cl7 Ro.out;obtain⟨cz0,cz1,cz2,cz3,cz4,cz5,cz6,cz7⟩:=cl8 Rz.out;obtain⟨cd0,cd1,cd2,cd3,cd4,cd5,cd6,cd7⟩:=cl8 Rd.out;clear hb))
  refine wp_region_X (Till 3 (fun (w':World)=>Below w3.heap.size w3 w')) (by kernel_rfl) ?_
  have hd:Below w3.heap.size w3 w3.drew:=(Below.refl _ _).drew
  generalize hW1:w3.drew=w4 at *
  have hS:=hd
  clear hW1
  have Qo:=hid (Ro.out)
  have Qz:=hid (Rz.out)
  have Qd:=hid (Rd.out)
  clear co0 co1 co2 co3 co4 co5 co6 cz0 cz1 cz2 cz3 cz4 cz5 cz6 cz7 cd0 cd1 cd2 cd3 cd4 cd5 cd6 cd7
  replace Ro:=gg Ro hd
  replace Rz:=gg Rz hd
  replace Rd:=gg Rd hd
  replace HM:=hid (HM.out.go hd)
  replace HY2:=hid (HY2.out.go hd)
  replace B:=gb B hd
  obtain⟨co0,co1,co2,co3,co4,co5,co6⟩:=cl7 Ro.out
  obtain⟨cz0,cz1,cz2,cz3,cz4,cz5,cz6,cz7⟩:=cl8 Rz.out
  obtain⟨cd0,cd1,cd2,cd3,cd4,cd5,cd6,cd7⟩:=cl8 Rd.out
  clear hd
  refine take_X 0 36 (.slice A7 m7 c7) rfl (by rfl) (by kernel_rfl) (by kernel_rfl) (by kernel_rfl) (by kernel_rfl) (fun _ _ _ h=>h) (Till.mono (by decide)) (Or.inl ⟨by rfl,fun w' hB=>by go_simp⟩) (fun _=>hS) ?_
  simp only [List.setIfInBounds_toArray,List.set_cons_zero,List.set_cons_succ]
  refine take_X 1 37 (.agg #[.string ds,.int .u32 di,.int .u8 nK,.int .u16 nM,.int .u32 nL,.int .u32 nS,.string nT,.slice A9 m9 c9]) rfl (by rfl) (by kernel_rfl) (by kernel_rfl) (by kernel_rfl) (by kernel_rfl) (fun _ _ _ h=>h) (Till.mono (by decide)) (Or.inl ⟨by rfl,fun w' hB=>by have hSw:=Till.bef hB (by kernel_rfl);exact load_all 38 (.tmp 8) rfl (w1.heap.size) rfl (Qd.out.go hSw) Tryz.underlying38 rfl (by kernel_rfl)⟩) (fun _=>hS) ?_
  simp only [List.setIfInBounds_toArray,List.set_cons_zero,List.set_cons_succ]
  refine take_X 2 4 (.slice A7 m7 c7) rfl (by rfl) (by kernel_rfl) (by kernel_rfl) (by kernel_rfl) (by kernel_rfl) (fun _ _ _ h=>h) (Till.mono (by decide)) (Or.inl ⟨by rfl,fun w' hB=>by go_simp⟩) (fun _=>hS) ?_
  simp only [List.setIfInBounds_toArray,List.set_cons_zero,List.set_cons_succ]
  refine only_X 3 rfl (by kernel_rfl) (by rfl) (fun K hK=>?_)
  refine wp_store_row 38 (.tmp 5) (.tmp 37) rfl (w.heap.size+1) #[.string ds,.int .u32 di,.int .u8 nK,.int .u16 nM,.int .u32 nL,.int .u32 nS,.string nT,.slice A9 m9 c9] rfl rfl 38 #[.string ⟨#[]⟩,.int .u32 0,.int .u8 0,.int .u16 0,.int .u32 0,.int .u32 0,.string ⟨#[]⟩,.slice none 0 0] Rz.out (by kernel_rfl) rfl (row8 _ _ _ _ _ _ _ _ _ _) ?_
  clear co0 co1 co2 co3 co4 co5 co6 cz0 cz1 cz2 cz3 cz4 cz5 cz6 cz7 cd0 cd1 cd2 cd3 cd4 cd5 cd6 cd7
  replace HM:=hid (mk_row (g:=w.heap.size+1) (cs:=#[.string ds,.int .u32 di,.int .u8 nK,.int .u16 nM,.int .u32 nL,.int .u32 nS,.string nT,.slice A9 m9 c9]) HM.out BK.out (by omega) GK.out)
  replace HY2:=hid (mk_row (g:=w.heap.size+1) (cs:=#[.string ds,.int .u32 di,.int .u8 nK,.int .u16 nM,.int .u32 nL,.int .u32 nS,.string nT,.slice A9 m9 c9]) HY2.out BY.out (by omega) GY.out)
  replace B:=hid (below_setRow B.out (g:=w.heap.size+1) (by omega) #[.string ds,.int .u32 di,.int .u8 nK,.int .u16 nM,.int .u32 nL,.int .u32 nS,.string nT,.slice A9 m9 c9])
  replace Ro:=hid (Ro.out.keep (g':=w.heap.size+1) (old:=#[.string ds,.int .u32 di,.int .u8 nK,.int .u16 nM,.int .u32 nL,.int .u32 nS,.string nT,.slice A9 m9 c9]) (by omega))
  replace Rd:=hid (Rd.out.keep (g':=w.heap.size+1) (old:=#[.string ds,.int .u32 di,.int .u8 nK,.int .u16 nM,.int .u32 nL,.int .u32 nS,.string nT,.slice A9 m9 c9]) (Nat.ne_of_gt Dd_z.out))
  replace Rz:=hid (Rz.out.set (cs:=#[.string ds,.int .u32 di,.int .u8 nK,.int .u16 nM,.int .u32 nL,.int .u32 nS,.string nT,.slice A9 m9 c9]))
  refine hK.out _ _ (fun h=>absurd h (by decide)) ?_
  clear hK K
  try simp only [Act.put,List.setIfInBounds_toArray,List.set_cons_zero,List.set_cons_succ]
  generalize w4.setRow (w.heap.size+1) #[.string ds,.int .u32 di,.int .u8 nK,.int .u16 nM,.int .u32 nL,.int .u32 nS,.string nT,.slice A9 m9 c9]=w5 at *
  obtain⟨co0,co1,co2,co3,co4,co5,co6⟩:=cl7 Ro.out
  obtain⟨cz0,cz1,cz2,cz3,cz4,cz5,cz6,cz7⟩:=cl8 Rz.out
  obtain⟨cd0,cd1,cd2,cd3,cd4,cd5,cd6,cd7⟩:=cl8 Rd.out
  refine take_X 4 6 (.int .i64 0) rfl (by rfl) (by kernel_rfl) (by kernel_rfl) (by kernel_rfl) (by kernel_rfl) (fun _ _ _ h=>h) (Till.mono (by decide)) (Or.inl ⟨by rfl,fun w' hB=>by go_simp⟩) (fun h=>absurd h (by decide)) ?_
  simp only [List.setIfInBounds_toArray,List.set_cons_zero,List.set_cons_succ]
  refine done_X (by kernel_rfl) ?_ _
  clear hS Qo Qz Qd
  go_wp2
  refine bodyPost_ret (v:=.tuple #[.slice A7 m7 c7,.agg #[.string ds,.int .u32 di,.int .u8 nK,.int .u16 nM,.int .u32 nL,.int .u32 nS,.string nT,.slice A9 m9 c9],.int .i64 0]) (results_row3 rfl _ _ (w.heap.size+1) 38 #[.string ds,.int .u32 di,.int .u8 nK,.int .u16 nM,.int .u32 nL,.int .u32 nS,.string nT,.slice A9 m9 c9] (0,0) _ _ _ rfl rfl rfl Rz.out Tryz.underlying38 rfl (by kernel_rfl)) rfl ?_
  exact⟨A7,m7,c7,.slice A9 m9 c9,rfl,(mk_sl It.enc_len HY2.out).1,(mk_sl It.enc_len HY2.out).2.1,(mk_sl It.enc_len HY2.out).2.2.1,(mk_sl It.enc_len HY2.out).2.2.2,HM.out,B.out⟩
 ·
  have HF:=hid (fun (w1:World) (hb:Below w.heap.size w w1)=>Do_any (hI.go hb) hc hcm o ho)
  unfold DPost at HF
  unfold AfPost
  have e1:aft L o=L:=by unfold aft;rw [if_neg h0]
  have e2:=dT_no h0
  have e3:=dC_no h0
  have HAP:=hid (fun (w1:World) (hb:Below w.heap.size w w1) (A8:Option Addr) (c8:Nat)=>apply_any L [] A A8 n c 0 c8 w1.heap.size w1.heap.size (hI.go hb).1 hc hcm rfl (by have:=hI.2.1;omega) (by omega) w1 (Nat.le_refl _) (Nat.le_refl _) (hI.go hb).2.2 Ls.nil)
  have HI:=hid (fun (w1:World) (hb:Below w.heap.size w w1)=>(hI.go hb))
  have HCC:=hid (show n≤c∧c≤maxLen from⟨hc,hcm⟩)
  rw [if_neg h0,if_neg h0,if_neg h0] at HF
  rw [e1,e2]
  generalize er (rt L&&rc [])=y at *
  have HE:=hid h0
  have e5:=ne0 h0
  generalize dX L o=x at *
  obtain⟨oK,oP,oT,oM,oO,oN,oD⟩:=o
  try dsimp only at *
  clear ho hI hc hcm h0 e1 e2 e3
  have HN:=hid (two_new w #[.int .u8 oK,.string oP,.string oT,.int .u16 oM,.int .u32 oO,.int .u32 oN,.string oD] #[.string ⟨#[]⟩,.int .u32 0,.int .u8 0,.int .u16 0,.int .u32 0,.int .u32 0,.string ⟨#[]⟩,.slice none 0 0] 31 38)
  go_enter Tryz.func14,Tryz.ntmps14
  go_wp2_with fail
  try generalize ((w.alloc (.cells #[.int .u8 oK,.string oP,.string oT,.int .u16 oM,.int .u32 oO,.int .u32 oN,.string oD] 31)).alloc (.cells #[.string ⟨#[]⟩,.int .u32 0,.int .u8 0,.int .u16 0,.int .u32 0,.int .u32 0,.string ⟨#[]⟩,.slice none 0 0] 38))=w0 at *
  have Ro:=hid HN.out.1
  have Rz:=hid HN.out.2.1
  have B:=hid HN.out.2.2.1
  clear HN
  obtain⟨co0,co1,co2,co3,co4,co5,co6⟩:=cl7 Ro.out
  obtain⟨cz0,cz1,cz2,cz3,cz4,cz5,cz6,cz7⟩:=cl8 Rz.out
  refine (HF.out _ B.out).mono ?_
  rintro e w1 ⟨v,ev,rfl,hm0,hm⟩
  have hb:=hm.2
  have HM:=hid hm
  have HC:=hid hm0
  have BK:=hid B.out
  have GK:=hid Rz.out.lt
  obtain⟨A9,c9,hv9,_⟩:=hm.ls Di.encEn_len
  subst hv9
  obtain⟨A8,c8,hv8,_⟩:=hm0.ls Sc.enc_len
  subst hv8
  clear co0 co1 co2 co3 co4 co5 co6 cz0 cz1 cz2 cz3 cz4 cz5 cz6 cz7
  replace Ro:=gg Ro hb
  replace Rz:=gg Rz hb
  replace B:=gb B hb
  clear hm hm0
  obtain⟨co0,co1,co2,co3,co4,co5,co6⟩:=cl7 Ro.out
  obtain⟨cz0,cz1,cz2,cz3,cz4,cz5,cz6,cz7⟩:=cl8 Rz.out
  clear hb
  go_wp2_with (first
   | (refine new_row rfl 38 (.tmp 8) (.tmp 17) rfl rfl #[.string ⟨#[]⟩,.int .u32 0,.int .u8 0,.int .u16 0,.int .u32 0,.int .u32 0,.string ⟨#[]⟩,.slice A9 0 c9] rfl rfl (by kernel_rfl) rfl (row8 _ _ _ _ _ _ _ _ _ _) ?_;intro w2 M;have Dd_z:=hid Rz.out.lt;clear co0 co1 co2 co3 co4 co5 co6 cz0 cz1 cz2 cz3 cz4 cz5 cz6 cz7;replace Ro:=gg Ro M.2.1;replace Rz:=gg Rz M.2.1;replace HM:=hid (HM.out.go M.2.1);replace B:=gb B M.2.1;have Rd:=hid M.1;obtain⟨co0,co1,co2,co3,co4,co5,co6⟩:=cl7 Ro.out;obtain⟨cz0,cz1,cz2,cz3,cz4,cz5,cz6,cz7⟩:=cl8 Rz.out;obtain⟨cd0,cd1,cd2,cd3,cd4,cd5,cd6,cd7⟩:=cl8 Rd.out;clear M)
   | (go_at_call 25;refine (HAP.out _ B.out A8 c8).mono ?_;rintro e w3 ⟨v2,rfl,hm⟩;have hb:=hm.2;clear co0 co1 co2 co3 co4 co5 co6 cz0 cz1 cz2 cz3 cz4 cz5 cz6 cz7 cd0 cd1 cd2 cd3 cd4 cd5 cd6 cd7;replace Ro:=gg Ro hb;replace Rz:=gg Rz hb;replace Rd:=gg Rd hb;replace HM:=hid (HM.out.go hb);replace B:=gb B hb;clear hm;obtain⟨co0,co1,co2,co3,co4,co5,co6⟩:=cl7 Ro.out;obtain⟨cz0,cz1,cz2,cz3,cz4,cz5,cz6,cz7⟩:=cl8 Rz.out;obtain⟨cd0,cd1,cd2,cd3,cd4,cd5,cd6,cd7⟩:=cl8 Rd.out;clear hb))
  refine wp_region_X (Till 4 (fun (w':World)=>Below w3.heap.size w3 w')) (by kernel_rfl) ?_
  have hd:Below w3.heap.size w3 w3.drew:=(Below.refl _ _).drew
  generalize hW1:w3.drew=w4 at *
  have hS:=hd
  clear hW1
  have Qo:=hid (Ro.out)
  have Qz:=hid (Rz.out)
  have Qd:=hid (Rd.out)
  clear co0 co1 co2 co3 co4 co5 co6 cz0 cz1 cz2 cz3 cz4 cz5 cz6 cz7 cd0 cd1 cd2 cd3 cd4 cd5 cd6 cd7
  replace Ro:=gg Ro hd
  replace Rz:=gg Rz hd
  replace Rd:=gg Rd hd
  replace HM:=hid (HM.out.go hd)
  replace B:=gb B hd
  obtain⟨co0,co1,co2,co3,co4,co5,co6⟩:=cl7 Ro.out
  obtain⟨cz0,cz1,cz2,cz3,cz4,cz5,cz6,cz7⟩:=cl8 Rz.out
  obtain⟨cd0,cd1,cd2,cd3,cd4,cd5,cd6,cd7⟩:=cl8 Rd.out
  clear hd
  refine take_X 0 33 (.slice A n c) rfl (by rfl) (by kernel_rfl) (by kernel_rfl) (by kernel_rfl) (by kernel_rfl) (fun _ _ _ h=>h) (Till.mono (by decide)) (Or.inl ⟨by rfl,fun w' hB=>by go_simp⟩) (fun _=>hS) ?_
  simp only [List.setIfInBounds_toArray,List.set_cons_zero,List.set_cons_succ]
  refine take_X 1 34 (.agg #[.string ⟨#[]⟩,.int .u32 0,.int .u8 0,.int .u16 0,.int .u32 0,.int .u32 0,.string ⟨#[]⟩,.slice A9 0 c9]) rfl (by rfl) (by kernel_rfl) (by kernel_rfl) (by kernel_rfl) (by kernel_rfl) (fun _ _ _ h=>h) (Till.mono (by decide)) (Or.inl ⟨by rfl,fun w' hB=>by have hSw:=Till.bef hB (by kernel_rfl);exact load_all 38 (.tmp 8) rfl (w1.heap.size) rfl (Qd.out.go hSw) Tryz.underlying38 rfl (by kernel_rfl)⟩) (fun _=>hS) ?_
  simp only [List.setIfInBounds_toArray,List.set_cons_zero,List.set_cons_succ]
  refine take_X 2 35 (.int .i64 x) rfl (by rfl) (by kernel_rfl) (by kernel_rfl) (by kernel_rfl) (by kernel_rfl) (fun _ _ _ h=>h) (Till.mono (by decide)) (Or.inl ⟨by rfl,fun w' hB=>by go_simp⟩) (fun _=>hS) ?_
  simp only [List.setIfInBounds_toArray,List.set_cons_zero,List.set_cons_succ]
  refine take_X 3 4 (.slice A n c) rfl (by rfl) (by kernel_rfl) (by kernel_rfl) (by kernel_rfl) (by kernel_rfl) (fun _ _ _ h=>h) (Till.mono (by decide)) (Or.inl ⟨by rfl,fun w' hB=>by go_simp⟩) (fun _=>hS) ?_
  simp only [List.setIfInBounds_toArray,List.set_cons_zero,List.set_cons_succ]
  refine only_X 4 rfl (by kernel_rfl) (by rfl) (fun K hK=>?_)
  refine wp_store_row 38 (.tmp 5) (.tmp 34) rfl (w.heap.size+1) #[.string ⟨#[]⟩,.int .u32 0,.int .u8 0,.int .u16 0,.int .u32 0,.int .u32 0,.string ⟨#[]⟩,.slice A9 0 c9] rfl rfl 38 #[.string ⟨#[]⟩,.int .u32 0,.int .u8 0,.int .u16 0,.int .u32 0,.int .u32 0,.string ⟨#[]⟩,.slice none 0 0] Rz.out (by kernel_rfl) rfl (row8 _ _ _ _ _ _ _ _ _ _) ?_
  clear co0 co1 co2 co3 co4 co5 co6 cz0 cz1 cz2 cz3 cz4 cz5 cz6 cz7 cd0 cd1 cd2 cd3 cd4 cd5 cd6 cd7
  replace HM:=hid (mk_row (g:=w.heap.size+1) (cs:=#[.string ⟨#[]⟩,.int .u32 0,.int .u8 0,.int .u16 0,.int .u32 0,.int .u32 0,.string ⟨#[]⟩,.slice A9 0 c9]) HM.out BK.out (by omega) GK.out)
  replace B:=hid (below_setRow B.out (g:=w.heap.size+1) (by omega) #[.string ⟨#[]⟩,.int .u32 0,.int .u8 0,.int .u16 0,.int .u32 0,.int .u32 0,.string ⟨#[]⟩,.slice A9 0 c9])
  replace Ro:=hid (Ro.out.keep (g':=w.heap.size+1) (old:=#[.string ⟨#[]⟩,.int .u32 0,.int .u8 0,.int .u16 0,.int .u32 0,.int .u32 0,.string ⟨#[]⟩,.slice A9 0 c9]) (by omega))
  replace Rd:=hid (Rd.out.keep (g':=w.heap.size+1) (old:=#[.string ⟨#[]⟩,.int .u32 0,.int .u8 0,.int .u16 0,.int .u32 0,.int .u32 0,.string ⟨#[]⟩,.slice A9 0 c9]) (Nat.ne_of_gt Dd_z.out))
  replace Rz:=hid (Rz.out.set (cs:=#[.string ⟨#[]⟩,.int .u32 0,.int .u8 0,.int .u16 0,.int .u32 0,.int .u32 0,.string ⟨#[]⟩,.slice A9 0 c9]))
  refine hK.out _ _ (fun h=>absurd h (by decide)) ?_
  clear hK K
  try simp only [Act.put,List.setIfInBounds_toArray,List.set_cons_zero,List.set_cons_succ]
  generalize w4.setRow (w.heap.size+1) #[.string ⟨#[]⟩,.int .u32 0,.int .u8 0,.int .u16 0,.int .u32 0,.int .u32 0,.string ⟨#[]⟩,.slice A9 0 c9]=w5 at *
  obtain⟨co0,co1,co2,co3,co4,co5,co6⟩:=cl7 Ro.out
  obtain⟨cz0,cz1,cz2,cz3,cz4,cz5,cz6,cz7⟩:=cl8 Rz.out
  obtain⟨cd0,cd1,cd2,cd3,cd4,cd5,cd6,cd7⟩:=cl8 Rd.out
  refine take_X 5 6 (.int .i64 x) rfl (by rfl) (by kernel_rfl) (by kernel_rfl) (by kernel_rfl) (by kernel_rfl) (fun _ _ _ h=>h) (Till.mono (by decide)) (Or.inl ⟨by rfl,fun w' hB=>by go_simp⟩) (fun h=>absurd h (by decide)) ?_
  simp only [List.setIfInBounds_toArray,List.set_cons_zero,List.set_cons_succ]
  refine done_X (by kernel_rfl) ?_ _
  clear hS Qo Qz Qd
  go_wp2
  refine bodyPost_ret (v:=.tuple #[.slice A n c,.agg #[.string ⟨#[]⟩,.int .u32 0,.int .u8 0,.int .u16 0,.int .u32 0,.int .u32 0,.string ⟨#[]⟩,.slice A9 0 c9],.int .i64 x]) (results_row3 rfl _ _ (w.heap.size+1) 38 #[.string ⟨#[]⟩,.int .u32 0,.int .u8 0,.int .u16 0,.int .u32 0,.int .u32 0,.string ⟨#[]⟩,.slice A9 0 c9] (0,0) _ _ _ rfl rfl rfl Rz.out Tryz.underlying38 rfl (by kernel_rfl)) rfl ?_
  exact⟨A,n,c,.slice A9 0 c9,rfl,(HI.out _ B.out).1,HCC.out.1,HCC.out.2,(HI.out _ B.out).2.2,HM.out,B.out⟩
end Go.Proofs.YtopepebcnaikiaaGreatDoor.Fi
namespace Go.Proofs.YtopepebcnaikiaaGreatDoor.Di
open Lib (hid)
set_option linter.unusedVariables false
set_option linter.unusedSimpArgs false
set_option maxRecDepth 100000
open Go.ChangeShapes Go.WideShapes Go.ChangeAt Go.RowKit
open BigFrame
open Ar Rg
open Ino
open It (Itm)
open Ph (en1 en1_len spX spB)
variable {w w' wr:World}{g bi be bn ba bu N M bb:Nat}{s:Vo}
theorem root_pt:ptOf rootI=⟨kR,wrI nR⟩:=by
 unfold ptOf rootI
 dsimp only
 rw [(deK_back kR_lim kR_ok).1]
def L0:List Itm:=[rootI]
theorem pts0:pts L0=[⟨kR,wrI nR⟩]:=by
 unfold pts L0
 rw [List.map_cons,List.map_nil,root_pt]
theorem vo_0:vo (pts L0)=takeI vo0 ⟨kR,wrI nR⟩:=by
 rw [pts0]
 show takeP vo0 ⟨kR,wrI nR⟩=_
 exact if_pos (show (⟨kR,wrI nR⟩:Pt).k.K=1 from rfl)
theorem ino_0 (i:Nat):(vo (pts L0)).ino i=if i=1 then some nR else none:=by
 rw [vo_0]
 show (if i=kR.I then some (deI (wrI nR)) else none)=_
 rw [(deI_back nR_lim nR_ok).1]
 rfl
theorem kind_0:kind (vo (pts L0)) 1=1:=by
 unfold kind
 rw [ino_0,if_pos rfl]
 rfl
theorem rgt_0:rgt L0=true:=by
 have hs:(wrK kR).size=5:=by
  have h:=wrK_pfx kR_ok
  rw [h.1,ByteArray.size_append,(pfx_ok kR_ok).2]
  rfl
 have hv:(wrI nR).size=13:=by rw [wrI_size nR (by decide)];rfl
 refine rgt_iff.2 ⟨?_,?_,kind_0,?_,?_⟩
 ·show It.rtFrom none [rootI]=true
  simp only [It.rtFrom,Bool.and_true]
  unfold It.okI It.okKey rootI
  dsimp only
  rw [hs,hv]
  decide
 ·intro x hx
  obtain rfl:x=rootI:=by simpa [L0] using hx
  unfold okX
  rw [root_pt]
  have h1:deKE rootI.k=0:=(deK_back kR_lim kR_ok).2
  rw [h1]
  unfold okP
  rw [if_pos (show (⟨kR,wrI nR⟩:Pt).k.K=1 from rfl)]
  dsimp only
  rw [(deI_back nR_lim nR_ok).2]
  rfl
 ·intro p hp
  rw [pts0] at hp
  obtain rfl:p=⟨kR,wrI nR⟩:=by simpa using hp
  unfold stray
  dsimp only
  rw [ino_0,if_pos (show kR.I=1 from rfl)]
  rfl
 ·intro i n hn hk
  rw [ino_0] at hn
  split at hn
  ·rename_i h;rw [h];exact Up.one _
  ·cases hn
end Go.Proofs.YtopepebcnaikiaaGreatDoor.Di
namespace Go.Proofs.YtopepebcnaikiaaGreatDoor.Fi
open Lib (hid)
set_option linter.unusedVariables false
set_option linter.unusedSimpArgs false
set_option maxRecDepth 100000
open Ino
open It (Itm Ch get und app dif rt rc rt_up)
open Di (wlk wkL rgt rgt_iff numOf Vo vo pts lsX lsL up En Up AllUp Nx okX stray kind L0 rgt_0 gtE gtI lsE snocRec ptOf)
open Ph (nb spX spB laX laD laN)
variable {L:List Itm}
def upsB (L:List Itm):Bool:=(pts L).all fun p=>!decide (p.k.K=1)||(!decide ((deI p.v).K=1)||(List.range 4).any fun k=>decide (up (vo (pts L)) k p.k.I=1))
theorem ups_of (h:upsB L=true):AllUp (vo (pts L)):=by
 intro i n hn hk
 obtain⟨p,hp,h1,h2,h3⟩:=Di.ino_of _ hn
 have:=List.all_eq_true.1 h p hp
 rw [← h3,decide_eq_true h1,decide_eq_true hk] at this
 simp only [Bool.not_true,Bool.false_or] at this
 obtain⟨k,_,h4⟩:=List.any_eq_true.1 this
 rw [h2] at h4
 exact⟨k,of_decide_eq_true h4⟩
theorem rgt_of (h:rt L=true) (h1:L.all okX=true) (h2:kind (vo (pts L)) 1=1) (h3:(pts L).any (stray (vo (pts L)))=false) (h4:upsB L=true):rgt L=true :=
 rgt_iff.2 ⟨h,fun x hx=>List.all_eq_true.1 h1 x hx,h2,fun p hp=>(by
  cases e:stray (vo (pts L)) p with
  | false=>rfl
  | true=>exact absurd (List.any_eq_true.2 ⟨p,hp,e⟩) (by rw [h3];decide)),ups_of h4⟩
theorem wlk_C (h:rgt L=true) (fo:Bool) (D:List ByteArray):wlk L fo D=wkL (vo (pts L)) fo 8 1 D:=by unfold wlk;rw [h,if_pos rfl]
theorem dX_ch (h:rgt L=true){o:Op}(ht:¬ tells o):dX L o=chX L o:=by unfold dX;rw [h,if_pos rfl,if_neg ht]
theorem dX_td (h:rgt L=true){o:Op}(ht:tells o):dX L o=tdX L o:=by unfold dX;rw [h,if_pos rfl,if_pos ht]
theorem dT_td {o:Op}(ht:tells o) (h0:dX L o=0):dT L o=tdT L o:=by unfold dT;rw [if_pos h0,if_pos ht]
theorem app_apC (h:rt L=true) (C:List Ch) (hc:rc C=true):app L (apC L C)=app L C:=by
 unfold apC
 rw [if_pos hc]
 exact It.app_dif (rt_up h).1 (rt_up (It.rt_app h hc)).1
theorem aft_ch (h:rgt L=true){o:Op}(ht:¬ tells o) (h0:dX L o=0) (hc:rc (chC L o)=true):aft L o=app L (chC L o):=by
 unfold aft dC
 rw [if_pos h0,if_pos h0,if_neg ht,app_apC (rgt_iff.1 h).rt _ hc]
theorem aft_td (h:rgt L=true){o:Op}(ht:tells o):aft L o=L:=by
 unfold aft dC
 split
 ·first
   | (rw [if_pos ht,app_apC (rgt_iff.1 h).rt [] rfl];rfl)
   | (rw [app_apC (rgt_iff.1 h).rt [] rfl];rfl)
 ·rfl
theorem aft_no {o:Op}(h0:dX L o≠0):aft L o=L:=by unfold aft;rw [if_neg h0]
def pA:ByteArray:=⟨#[47,97]⟩
def pAB:ByteArray:=⟨#[47,97,47,98]⟩
def pC:ByteArray:=⟨#[47,99]⟩
def pCB:ByteArray:=⟨#[47,99,47,98]⟩
def pR:ByteArray:=⟨#[47]⟩
def nE:ByteArray:=⟨#[]⟩
def o1:Op:=⟨2,pA,nE,0,0,0,nE⟩
def o2:Op:=⟨1,pAB,nE,5,0,0,nE⟩
def o3:Op:=⟨6,pAB,nE,0,2,0,⟨#[120]⟩⟩
def o4:Op:=⟨8,pA,pC,0,0,0,nE⟩
def q1:Op:=⟨5,pCB,nE,0,0,9,nE⟩
def q2:Op:=⟨11,pCB,nE,0,0,0,nE⟩
def q3:Op:=⟨10,pC,nE,0,0,0,nE⟩
def q4:Op:=⟨12,pR,nE,0,0,0,nE⟩
def iD:ByteArray:=⟨#[1,0,0,0,0,0,1,0,0,0,0,0,0]⟩
def kN (i:UInt8):ByteArray:=⟨#[105,0,0,0,i]⟩
def T1:List Itm:=[⟨⟨#[100,0,0,0,1,97]⟩,⟨#[0,0,0,2]⟩⟩,⟨kN 1,iD⟩,⟨kN 2,iD⟩]
def T2:List Itm:=[⟨⟨#[100,0,0,0,1,97]⟩,⟨#[0,0,0,2]⟩⟩,⟨⟨#[100,0,0,0,2,98]⟩,⟨#[0,0,0,3]⟩⟩,⟨kN 1,iD⟩,⟨kN 2,iD⟩,⟨kN 3,⟨#[2,0,5,0,0,0,1,0,0,0,0,0,0]⟩⟩]
def T3:List Itm:=[⟨⟨#[99,0,0,0,3,0,0,0,0]⟩,⟨#[0,0,120]⟩⟩,⟨⟨#[100,0,0,0,1,97]⟩,⟨#[0,0,0,2]⟩⟩,⟨⟨#[100,0,0,0,2,98]⟩,⟨#[0,0,0,3]⟩⟩,⟨kN 1,iD⟩,⟨kN 2,iD⟩,⟨kN 3,⟨#[2,0,5,0,0,0,1,0,0,0,3,0,0]⟩⟩]
def T4:List Itm:=[⟨⟨#[99,0,0,0,3,0,0,0,0]⟩,⟨#[0,0,120]⟩⟩,⟨⟨#[100,0,0,0,1,99]⟩,⟨#[0,0,0,2]⟩⟩,⟨⟨#[100,0,0,0,2,98]⟩,⟨#[0,0,0,3]⟩⟩,⟨kN 1,iD⟩,⟨kN 2,iD⟩,⟨kN 3,⟨#[2,0,5,0,0,0,1,0,0,0,3,0,0]⟩⟩]
theorem r1:rgt T1=true:=rgt_of (by kernel_rfl) (by kernel_rfl) (by kernel_rfl) (by kernel_rfl) (by kernel_rfl)
theorem r2:rgt T2=true:=rgt_of (by kernel_rfl) (by kernel_rfl) (by kernel_rfl) (by kernel_rfl) (by kernel_rfl)
theorem r3:rgt T3=true:=rgt_of (by kernel_rfl) (by kernel_rfl) (by kernel_rfl) (by kernel_rfl) (by kernel_rfl)
theorem r4:rgt T4=true:=rgt_of (by kernel_rfl) (by kernel_rfl) (by kernel_rfl) (by kernel_rfl) (by kernel_rfl)
theorem x0:nxt L0=2:=nxt_of ⟨by decide,by decide,by kernel_rfl,fun k h1 h2=>absurd h2 (by omega)⟩
theorem x1:nxt T1=3:=nxt_of ⟨by decide,by decide,by kernel_rfl,fun k h1 h2=>by
 obtain rfl:k=2:=by omega
 kernel_rfl⟩
theorem n1:¬ tells o1:=by decide
theorem n2:¬ tells o2:=by decide
theorem n3:¬ tells o3:=by decide
theorem n4:¬ tells o4:=by decide
theorem c1:chX L0 o1=0:=by
 show crX L0 pA ⟨1,0,1,0,ByteArray.empty⟩=0
 unfold crX frX plX pl pl0
 unfold plX
 simp only [wlk_C rgt_0]
 kernel_rfl
theorem a1:chC L0 o1=[⟨kN 2,true,iD⟩,⟨⟨#[100,0,0,0,1,97]⟩,true,⟨#[0,0,0,2]⟩⟩]:=by
 show crC L0 pA ⟨1,0,1,0,ByteArray.empty⟩=_
 unfold crC pl pl0 plX
 rw [x0]
 simp only [wlk_C rgt_0]
 kernel_rfl
theorem f1:dX L0 o1=0∧aft L0 o1=T1:=by
 have h:=(dX_ch rgt_0 n1).trans c1
 refine⟨h,?_⟩
 rw [aft_ch rgt_0 n1 h (by rw [a1];kernel_rfl),a1]
 kernel_rfl
theorem c2:chX T1 o2=0:=by
 show crX T1 pAB ⟨2,5,1,0,ByteArray.empty⟩=0
 unfold crX frX plX pl pl0
 unfold plX
 simp only [wlk_C r1]
 kernel_rfl
theorem a2:chC T1 o2=[⟨kN 3,true,⟨#[2,0,5,0,0,0,1,0,0,0,0,0,0]⟩⟩,⟨⟨#[100,0,0,0,2,98]⟩,true,⟨#[0,0,0,3]⟩⟩]:=by
 show crC T1 pAB ⟨2,5,1,0,ByteArray.empty⟩=_
 unfold crC pl pl0 plX
 rw [x1]
 simp only [wlk_C r1]
 kernel_rfl
theorem f2:dX T1 o2=0∧aft T1 o2=T2:=by
 have h:=(dX_ch r1 n2).trans c2
 refine⟨h,?_⟩
 rw [aft_ch r1 n2 h (by rw [a2];kernel_rfl),a2]
 kernel_rfl
theorem c3:chX T2 o3=0:=by
 show wtX T2 o3=0
 unfold wtX fnX ldI ldN ldX
 unfold ldI ldX
 simp only [wlk_C r2]
 kernel_rfl
theorem a3:chC T2 o3=[⟨⟨#[99,0,0,0,3,0,0,0,0]⟩,true,⟨#[0,0,120]⟩⟩,⟨kN 3,true,⟨#[2,0,5,0,0,0,1,0,0,0,3,0,0]⟩⟩]:=by
 show wtC T2 o3=_
 unfold wtC wtS ldI ldN ldX
 unfold ldI ldX
 simp only [wlk_C r2]
 kernel_rfl
theorem f3:dX T2 o3=0∧aft T2 o3=T3:=by
 have h:=(dX_ch r2 n3).trans c3
 refine⟨h,?_⟩
 rw [aft_ch r2 n3 h (by rw [a3];kernel_rfl),a3]
 kernel_rfl
theorem u3:undr T3 1 2=false:=undr_no (k:=0) rfl (by decide) (fun j hj=>absurd hj (by omega))
theorem p3:pl T3 pA=⟨1,⟨#[100,0,0,0,1,97]⟩,2⟩∧pl T3 pC=⟨1,⟨#[100,0,0,0,1,99]⟩,0⟩:=by
 unfold pl pl0 plX
 simp only [wlk_C r3]
 exact⟨by kernel_rfl,by kernel_rfl⟩
theorem p3x:nmX T3 pA=0∧plX T3 pC=0:=by
 unfold nmX
 rw [p3.1]
 unfold plX
 simp only [wlk_C r3]
 exact⟨by kernel_rfl,by kernel_rfl⟩
theorem c4:chX T3 o4=0:=by
 show rnX T3 o4=0
 unfold rnX
 show (if nmX T3 pA≠0 then nmX T3 pA else if plX T3 pC≠0 then plX T3 pC else if undr T3 (pl T3 pC).d (pl T3 pA).i=true then 7 else if (pl T3 pC).i=(pl T3 pA).i then 0 else if (pl T3 pC).i=0 then 0 else rpX T3 (pl T3 pA).i (pl T3 pC).i)=0
 rw [p3x.1,p3x.2,p3.1,p3.2]
 show (if (0:Int)≠0 then _ else if (0:Int)≠0 then _ else if undr T3 1 2=true then 7 else _)=(0:Int)
 rw [u3]
 kernel_rfl
theorem a4:chC T3 o4=[⟨⟨#[100,0,0,0,1,97]⟩,false,nE⟩,⟨⟨#[100,0,0,0,1,99]⟩,true,⟨#[0,0,0,2]⟩⟩]:=by
 show rnC T3 o4=_
 unfold rnC
 show (if (pl T3 pC).i=(pl T3 pA).i then [] else (if (pl T3 pC).i=0 then [] else letGo T3 (pl T3 pC))++[isFree (pl T3 pA),names (pl T3 pC) (pl T3 pA).i])=_
 rw [p3.1,p3.2]
 kernel_rfl
theorem f4:dX T3 o4=0∧aft T3 o4=T4:=by
 have h:=(dX_ch r3 n4).trans c4
 refine⟨h,?_⟩
 rw [aft_ch r3 n4 h (by rw [a4];kernel_rfl),a4]
 kernel_rfl
theorem m1:tells q1:=by decide
theorem m2:tells q2:=by decide
theorem m3:¬ tells q3:=by decide
theorem m4:tells q4:=by decide
theorem g1:dX T4 q1=0∧dT T4 q1={ zTd with s:=⟨#[0,0,120]⟩ }:=by
 have h:dX T4 q1=0:=by
  rw [dX_td r4 m1]
  show reX T4 q1=0
  unfold reX fnX ldI ldN ldX
  unfold ldI ldX
  simp only [wlk_C r4]
  kernel_rfl
 refine⟨h,?_⟩
 rw [dT_td m1 h]
 show reT T4 q1=_
 unfold reT ldI ldN ldX
 unfold ldI ldX
 simp only [wlk_C r4]
 kernel_rfl
theorem g2:dX T4 q2=0∧dT T4 q2={ zTd with i:=3,n:=⟨2,5,1,3,ByteArray.empty⟩ }:=by
 have h:dX T4 q2=0:=by
  rw [dX_td r4 m2]
  show ldX T4 pCB true=0
  unfold ldX
  simp only [wlk_C r4]
  kernel_rfl
 refine⟨h,?_⟩
 rw [dT_td m2 h]
 show stT T4 q2=_
 unfold stT ldI ldN ldX
 unfold ldI ldX
 simp only [wlk_C r4]
 kernel_rfl
theorem g3:dX T4 q3=13:=by
 rw [dX_ch r4 m3]
 show rmX T4 q3=13
 unfold rmX nmX pl pl0 plX
 simp only [wlk_C r4]
 kernel_rfl
theorem ls4:lsX T4 1=0∧lsL T4 1=[⟨⟨#[99]⟩,2,1⟩]:=by
 have h:lsX T4 1=0:=by
  unfold lsX gtE gtI
  rw [r4]
  kernel_rfl
 refine⟨h,?_⟩
 unfold lsL
 rw [h,if_pos rfl]
 kernel_rfl
theorem l4:ldX T4 pR true=0∧ldI T4 pR true=1:=by
 unfold ldI ldX
 simp only [wlk_C r4]
 exact⟨by kernel_rfl,by kernel_rfl⟩
theorem g4:dX T4 q4=0∧dT T4 q4={ zTd with e:=[⟨⟨#[99]⟩,2,1⟩] }:=by
 have h:dX T4 q4=0:=by
  rw [dX_td r4 m4]
  show liX T4 q4=0
  unfold liX
  show (if ldX T4 pR true≠0 then ldX T4 pR true else lsX T4 (ldI T4 pR true))=0
  rw [l4.1,l4.2,ls4.1]
  rfl
 refine⟨h,?_⟩
 rw [dT_td m4 h]
 show liT T4 q4=_
 unfold liT
 show ({ zTd with e:=lsL T4 (ldI T4 pR true) }:Td)=_
 rw [l4.2,ls4.2]
end Go.Proofs.YtopepebcnaikiaaGreatDoor.Fi
namespace Go.Proofs.YtopepebcnaikiaaGreatDoor.Fi
open Lib (hid)
set_option linter.unusedVariables false
set_option linter.unusedSimpArgs false
set_option maxRecDepth 100000
open Go.ChangeShapes Go.WideShapes Go.ChangeAt Go.RowKit
open BigFrame
open Ar Rg
open Ino
open It (Itm Ch get und app dif rt rc enc er getV get_any under_any apply_any diff_any MkI MkC)
open Di (ItA wlk rgt rgt_iff numOf Vo vo pts lsX lsL up En NmA Walk_any Up MkE List_any New_any L0 encEn encEn_len)
open Ph (nb spX spB laX laD laN)
open Pk (nB nE tN tR tE number_any take_any)
variable {w w' wr:World}{A:Option Addr}{n c:Nat}{L:List Itm}
theorem af {o:Op}{L':List Itm}{d:Td}{x:Int}(hI:ItA w A n L) (hc:n≤c) (hcm:c≤maxLen) (ho:o.lim) (hx:dX L o=x) (ha:aft L o=L') (hd:dT L o=d) (hl:L'.length≤1390000):Calls Tryz.prog 14 #[.slice A n c,vOp o] w fun e w' =>
  ∃ (A':Option Addr) (n' c':Nat) (A9:Option Addr) (m9 c9:Nat),e=.returned (.tuple #[.slice A' n' c',vTd d (.slice A9 m9 c9),.int .i64 x])∧m9=d.e.length∧n'≤c'∧c'≤maxLen∧ItA w' A' n' L'∧Ls encEn 3 w' w'.heap.size A9 d.e∧Below w.heap.size w w':=by
 refine (after_any hI hc hcm o ho).mono ?_
 rintro e w' ⟨A',n',c',ev,rfl,h1,h2,h3,h4,h5,h6⟩
 rw [ha] at h1 h4
 rw [hd] at h5 ⊢
 rw [hx]
 obtain⟨A9,c9,rfl,_,_,hl9⟩:=h5.ls encEn_len
 exact⟨A',n',c',A9,_,c9,rfl,rfl,h2,h3,⟨h1,by omega,h4⟩,hl9,h6⟩
def tl:Nat→List Itm
 | 0=>L0
 | 1=>T1
 | 2=>T2
 | 3=>T3
 | _=>T4
def ol:Nat→Op
 | 0=>o1
 | 1=>o2
 | 2=>o3
 | _=>o4
theorem tl_len (i:Nat):(tl i).length≤1390000:=by
 unfold tl
 split<;>decide
theorem tl_next {i:Nat}(h:i<4):dX (tl i) (ol i)=0∧aft (tl i) (ol i)=tl (i+1)∧dT (tl i) (ol i)=zTd:=by
 have key:∀ (L:List Itm) (o:Op),¬ tells o→dT L o=zTd:=fun L o ht=>by unfold dT;split;all_goals first | rfl | (rw [if_neg ht])
 obtain rfl | rfl | rfl | rfl:i=0∨i=1∨i=2∨i=3:=by omega
 ·exact⟨f1.1,f1.2,key _ _ n1⟩
 ·exact⟨f2.1,f2.2,key _ _ n2⟩
 ·exact⟨f3.1,f3.2,key _ _ n3⟩
 ·exact⟨f4.1,f4.2,key _ _ n4⟩
theorem ol_lim (i:Nat):(ol i).lim:=by
 unfold ol
 split<;>exact⟨by decide,by decide,by decide,by decide,by decide,by decide,by decide⟩
set_option maxHeartbeats 4000000 in
theorem lives_any (w:World):Calls Tryz.prog 11 #[] w fun e w'=>e=.returned (.bool true)∧Below w.heap.size w w':=by
 have CN:=hid (New_any w)
 have CA0:=hid (fun (w:World) (A:Option Addr) (n c:Nat) (hI:ItA w A n (tl 0)) (hc:n≤c) (hcm:c≤maxLen)=>af (o:=ol 0) (L:=tl 0) (L':=tl 1) (d:=zTd) (x:=0) hI hc hcm (ol_lim 0) (tl_next (i:=0) (by decide)).1 (tl_next (i:=0) (by decide)).2.1 (tl_next (i:=0) (by decide)).2.2 (tl_len 1))
 rw [show vOp (ol 0)=.agg #[.int .u8 2,.string ⟨#[47,97]⟩,.string ⟨#[]⟩,.int .u16 0,.int .u32 0,.int .u32 0,.string ⟨#[]⟩] from rfl] at CA0
 have CA1:=hid (fun (w:World) (A:Option Addr) (n c:Nat) (hI:ItA w A n (tl 1)) (hc:n≤c) (hcm:c≤maxLen)=>af (o:=ol 1) (L:=tl 1) (L':=tl 2) (d:=zTd) (x:=0) hI hc hcm (ol_lim 1) (tl_next (i:=1) (by decide)).1 (tl_next (i:=1) (by decide)).2.1 (tl_next (i:=1) (by decide)).2.2 (tl_len 2))
 rw [show vOp (ol 1)=.agg #[.int .u8 1,.string ⟨#[47,97,47,98]⟩,.string ⟨#[]⟩,.int .u16 5,.int .u32 0,.int .u32 0,.string ⟨#[]⟩] from rfl] at CA1
 have CA2:=hid (fun (w:World) (A:Option Addr) (n c:Nat) (hI:ItA w A n (tl 2)) (hc:n≤c) (hcm:c≤maxLen)=>af (o:=ol 2) (L:=tl 2) (L':=tl 3) (d:=zTd) (x:=0) hI hc hcm (ol_lim 2) (tl_next (i:=2) (by decide)).1 (tl_next (i:=2) (by decide)).2.1 (tl_next (i:=2) (by decide)).2.2 (tl_len 3))
 rw [show vOp (ol 2)=.agg #[.int .u8 6,.string ⟨#[47,97,47,98]⟩,.string ⟨#[]⟩,.int .u16 0,.int .u32 2,.int .u32 0,.string ⟨#[120]⟩] from rfl] at CA2
 have CA3:=hid (fun (w:World) (A:Option Addr) (n c:Nat) (hI:ItA w A n (tl 3)) (hc:n≤c) (hcm:c≤maxLen)=>af (o:=ol 3) (L:=tl 3) (L':=tl 4) (d:=zTd) (x:=0) hI hc hcm (ol_lim 3) (tl_next (i:=3) (by decide)).1 (tl_next (i:=3) (by decide)).2.1 (tl_next (i:=3) (by decide)).2.2 (tl_len 4))
 rw [show vOp (ol 3)=.agg #[.int .u8 8,.string ⟨#[47,97]⟩,.string ⟨#[47,99]⟩,.int .u16 0,.int .u32 0,.int .u32 0,.string ⟨#[]⟩] from rfl] at CA3
 have CQ1:=hid (fun (w:World) (A:Option Addr) (n c:Nat) (hI:ItA w A n T4) (hc:n≤c) (hcm:c≤maxLen)=>af (o:=q1) (L:=T4) (L':=T4) (d:={ zTd with s:=⟨#[0,0,120]⟩ }) (x:=0) hI hc hcm ⟨by decide,by decide,by decide,by decide,by decide,by decide,by decide⟩ g1.1 (aft_td r4 m1) (g1.2) (tl_len 4))
 rw [show vOp q1=.agg #[.int .u8 5,.string ⟨#[47,99,47,98]⟩,.string ⟨#[]⟩,.int .u16 0,.int .u32 0,.int .u32 9,.string ⟨#[]⟩] from rfl] at CQ1
 have CQ2:=hid (fun (w:World) (A:Option Addr) (n c:Nat) (hI:ItA w A n T4) (hc:n≤c) (hcm:c≤maxLen)=>af (o:=q2) (L:=T4) (L':=T4) (d:={ zTd with i:=3,n:=⟨2,5,1,3,ByteArray.empty⟩ }) (x:=0) hI hc hcm ⟨by decide,by decide,by decide,by decide,by decide,by decide,by decide⟩ g2.1 (aft_td r4 m2) (g2.2) (tl_len 4))
 rw [show vOp q2=.agg #[.int .u8 11,.string ⟨#[47,99,47,98]⟩,.string ⟨#[]⟩,.int .u16 0,.int .u32 0,.int .u32 0,.string ⟨#[]⟩] from rfl] at CQ2
 have CQ3:=hid (fun (w:World) (A:Option Addr) (n c:Nat) (hI:ItA w A n T4) (hc:n≤c) (hcm:c≤maxLen)=>af (o:=q3) (L:=T4) (L':=T4) (d:=zTd) (x:=13) hI hc hcm ⟨by decide,by decide,by decide,by decide,by decide,by decide,by decide⟩ g3 (aft_no (by rw [g3];decide)) (dT_no (by rw [g3];decide)) (tl_len 4))
 rw [show vOp q3=.agg #[.int .u8 10,.string ⟨#[47,99]⟩,.string ⟨#[]⟩,.int .u16 0,.int .u32 0,.int .u32 0,.string ⟨#[]⟩] from rfl] at CQ3
 have CQ4:=hid (fun (w:World) (A:Option Addr) (n c:Nat) (hI:ItA w A n T4) (hc:n≤c) (hcm:c≤maxLen)=>af (o:=q4) (L:=T4) (L':=T4) (d:={ zTd with e:=[⟨⟨#[99]⟩,2,1⟩] }) (x:=0) hI hc hcm ⟨by decide,by decide,by decide,by decide,by decide,by decide,by decide⟩ g4.1 (aft_td r4 m4) (g4.2) (tl_len 4))
 rw [show vOp q4=.agg #[.int .u8 12,.string ⟨#[47]⟩,.string ⟨#[]⟩,.int .u16 0,.int .u32 0,.int .u32 0,.string ⟨#[]⟩] from rfl] at CQ4
 go_enter Tryz.func11,Tryz.ntmps11
 go_wp2_with fail
 refine CN.out.mono ?_
 rintro e w1 ⟨A,rfl,hA,hb1⟩
 have H1:=hid (show ItA w1 A 1 (tl 0) from hA)
 have B1:=hid hb1
 have hal:Below w1.heap.size w1 (w1.alloc (.cells #[.int .u8 2,.string ⟨#[47,97]⟩,.string ⟨#[]⟩,.int .u16 0,.int .u32 0,.int .u32 0,.string ⟨#[]⟩,.int .u8 1,.string ⟨#[47,97,47,98]⟩,.string ⟨#[]⟩,.int .u16 5,.int .u32 0,.int .u32 0,.string ⟨#[]⟩,.int .u8 6,.string ⟨#[47,97,47,98]⟩,.string ⟨#[]⟩,.int .u16 0,.int .u32 2,.int .u32 0,.string ⟨#[120]⟩,.int .u8 8,.string ⟨#[47,97]⟩,.string ⟨#[47,99]⟩,.int .u16 0,.int .u32 0,.int .u32 0,.string ⟨#[]⟩] 31)):=(Below.refl _ _).alloc (Nat.le_refl _) _
 have R0:=hid (Rw.new w1 #[.int .u8 2,.string ⟨#[47,97]⟩,.string ⟨#[]⟩,.int .u16 0,.int .u32 0,.int .u32 0,.string ⟨#[]⟩,.int .u8 1,.string ⟨#[47,97,47,98]⟩,.string ⟨#[]⟩,.int .u16 5,.int .u32 0,.int .u32 0,.string ⟨#[]⟩,.int .u8 6,.string ⟨#[47,97,47,98]⟩,.string ⟨#[]⟩,.int .u16 0,.int .u32 2,.int .u32 0,.string ⟨#[120]⟩,.int .u8 8,.string ⟨#[47,97]⟩,.string ⟨#[47,99]⟩,.int .u16 0,.int .u32 0,.int .u32 0,.string ⟨#[]⟩] 31)
 have H0:=hid (H1.out.go hal)
 have B0:=hid (B1.out.trans (hal.mono B1.out.size))
 clear hA hb1 CN H1 hal
 go_wp2_with fail
 go_loopw [1,26] (fun v1 v26 wr=>∃ (i:Nat) (A':Option Addr) (n' c':Nat),i≤4∧v26=.int .i64 i∧v1=.slice A' n' c'∧n'≤c'∧c'≤maxLen∧Hid (ItA wr A' n' (tl i))∧Hid (Below w.heap.size w wr)∧Hid (Rw wr w1.heap.size #[.int .u8 2,.string ⟨#[47,97]⟩,.string ⟨#[]⟩,.int .u16 0,.int .u32 0,.int .u32 0,.string ⟨#[]⟩,.int .u8 1,.string ⟨#[47,97,47,98]⟩,.string ⟨#[]⟩,.int .u16 5,.int .u32 0,.int .u32 0,.string ⟨#[]⟩,.int .u8 6,.string ⟨#[47,97,47,98]⟩,.string ⟨#[]⟩,.int .u16 0,.int .u32 2,.int .u32 0,.string ⟨#[120]⟩,.int .u8 8,.string ⟨#[47,97]⟩,.string ⟨#[47,99]⟩,.int .u16 0,.int .u32 0,.int .u32 0,.string ⟨#[]⟩] 31)) (fun _ v26 _=>4-(intOf v26).toNat)
 case atStart=>exact⟨0,A,1,1,by decide,by go_num,rfl,Nat.le_refl _,by unfold maxLen;omega,H0.out,B0.out,R0.out⟩
 case round =>
  obtain⟨i,A',n',c',hi,rfl,rfl,hn',hc',hI,hB,hR⟩:=hrel
  have HI:=hid (Hid.out hI)
  have B:=hid (Hid.out hB)
  have Rg:=hid (Hid.out hR)
  have HN:=hid (show n'≤c'∧c'≤maxLen from⟨hn',hc'⟩)
  clear hI hB hR hn' hc' H0 B0 R0
  obtain rfl | rfl | rfl | rfl | rfl:i=0∨i=1∨i=2∨i=3∨i=4:=by omega
  ·have k0:=Rg.out.cell 0 _ rfl
   have k1:=Rg.out.cell 1 _ rfl
   have k2:=Rg.out.cell 2 _ rfl
   have k3:=Rg.out.cell 3 _ rfl
   have k4:=Rg.out.cell 4 _ rfl
   have k5:=Rg.out.cell 5 _ rfl
   have k6:=Rg.out.cell 6 _ rfl
   have hal:Below wr.heap.size wr (wr.alloc (.cells #[.int .u8 2,.string ⟨#[47,97]⟩,.string ⟨#[]⟩,.int .u16 0,.int .u32 0,.int .u32 0,.string ⟨#[]⟩] 31)):=(Below.refl _ _).alloc (Nat.le_refl _) _
   have HIa:=hid (HI.out.go hal)
   have Ba:=hid (B.out.trans (hal.mono B.out.size))
   have Ra:=hid (Rg.out.go hal)
   clear hal HI B Rg
   go_wp2_with fail
   generalize wr.alloc (.cells #[.int .u8 2,.string ⟨#[47,97]⟩,.string ⟨#[]⟩,.int .u16 0,.int .u32 0,.int .u32 0,.string ⟨#[]⟩] 31)=W at *
   clear k0 k1 k2 k3 k4 k5 k6
   refine (CA0.out W A' n' c' HIa.out HN.out.1 HN.out.2).mono ?_
   rintro e w2 ⟨A2,n2,c2,A9,m9,c9,rfl,hm9,hn2,hc2,hI2,_,hb⟩
   replace hm9:m9=0:=hm9
   subst hm9
   have HI2:=hid hI2
   have B2:=hid (Ba.out.trans (hb.mono Ba.out.size))
   have R2:=hid (Ra.out.go hb)
   have HN2:=hid (show n2≤c2∧c2≤maxLen from⟨hn2,hc2⟩)
   clear hI2 hb hn2 hc2 HIa Ba Ra
   have M:=made w2 #[.string ⟨#[]⟩,.int .u32 0,.int .u8 0,.int .u16 0,.int .u32 0,.int .u32 0,.string ⟨#[]⟩,.slice none 0 0] #[.string ⟨#[]⟩,.int .u32 0,.int .u8 0,.int .u16 0,.int .u32 0,.int .u32 0,.string ⟨#[]⟩,.slice A9 0 c9] 38
   go_wp2_with (refine wpList_store_row rfl 38 (.tmp 5) (.tmp 35) rfl w2.heap.size #[.string ⟨#[]⟩,.int .u32 0,.int .u8 0,.int .u16 0,.int .u32 0,.int .u32 0,.string ⟨#[]⟩,.slice A9 0 c9] rfl rfl 38 #[.string ⟨#[]⟩,.int .u32 0,.int .u8 0,.int .u16 0,.int .u32 0,.int .u32 0,.string ⟨#[]⟩,.slice none 0 0] (heap_alloc_new w2 _) (by kernel_rfl) rfl (row8 _ _ _ _ _ _ _ _ _ _) ?_)
   exact⟨⟨1,A2,n2,c2,by decide,by go_num,rfl,HN2.out.1,HN2.out.2,HI2.out.go M.2.1,B2.out.trans (M.2.1.mono B2.out.size),R2.out.go M.2.1⟩,by simp [intOf]⟩
  ·have k0:=Rg.out.cell 7 _ rfl
   have k1:=Rg.out.cell 8 _ rfl
   have k2:=Rg.out.cell 9 _ rfl
   have k3:=Rg.out.cell 10 _ rfl
   have k4:=Rg.out.cell 11 _ rfl
   have k5:=Rg.out.cell 12 _ rfl
   have k6:=Rg.out.cell 13 _ rfl
   have hal:Below wr.heap.size wr (wr.alloc (.cells #[.int .u8 1,.string ⟨#[47,97,47,98]⟩,.string ⟨#[]⟩,.int .u16 5,.int .u32 0,.int .u32 0,.string ⟨#[]⟩] 31)):=(Below.refl _ _).alloc (Nat.le_refl _) _
   have HIa:=hid (HI.out.go hal)
   have Ba:=hid (B.out.trans (hal.mono B.out.size))
   have Ra:=hid (Rg.out.go hal)
   clear hal HI B Rg
   go_wp2_with fail
   generalize wr.alloc (.cells #[.int .u8 1,.string ⟨#[47,97,47,98]⟩,.string ⟨#[]⟩,.int .u16 5,.int .u32 0,.int .u32 0,.string ⟨#[]⟩] 31)=W at *
   clear k0 k1 k2 k3 k4 k5 k6
   refine (CA1.out W A' n' c' HIa.out HN.out.1 HN.out.2).mono ?_
   rintro e w2 ⟨A2,n2,c2,A9,m9,c9,rfl,hm9,hn2,hc2,hI2,_,hb⟩
   replace hm9:m9=0:=hm9
   subst hm9
   have HI2:=hid hI2
   have B2:=hid (Ba.out.trans (hb.mono Ba.out.size))
   have R2:=hid (Ra.out.go hb)
   have HN2:=hid (show n2≤c2∧c2≤maxLen from⟨hn2,hc2⟩)
   clear hI2 hb hn2 hc2 HIa Ba Ra
   have M:=made w2 #[.string ⟨#[]⟩,.int .u32 0,.int .u8 0,.int .u16 0,.int .u32 0,.int .u32 0,.string ⟨#[]⟩,.slice none 0 0] #[.string ⟨#[]⟩,.int .u32 0,.int .u8 0,.int .u16 0,.int .u32 0,.int .u32 0,.string ⟨#[]⟩,.slice A9 0 c9] 38
   go_wp2_with (refine wpList_store_row rfl 38 (.tmp 5) (.tmp 35) rfl w2.heap.size #[.string ⟨#[]⟩,.int .u32 0,.int .u8 0,.int .u16 0,.int .u32 0,.int .u32 0,.string ⟨#[]⟩,.slice A9 0 c9] rfl rfl 38 #[.string ⟨#[]⟩,.int .u32 0,.int .u8 0,.int .u16 0,.int .u32 0,.int .u32 0,.string ⟨#[]⟩,.slice none 0 0] (heap_alloc_new w2 _) (by kernel_rfl) rfl (row8 _ _ _ _ _ _ _ _ _ _) ?_)
   exact⟨⟨2,A2,n2,c2,by decide,by go_num,rfl,HN2.out.1,HN2.out.2,HI2.out.go M.2.1,B2.out.trans (M.2.1.mono B2.out.size),R2.out.go M.2.1⟩,by simp [intOf]⟩
  ·have k0:=Rg.out.cell 14 _ rfl
   have k1:=Rg.out.cell 15 _ rfl
   have k2:=Rg.out.cell 16 _ rfl
   have k3:=Rg.out.cell 17 _ rfl
   have k4:=Rg.out.cell 18 _ rfl
   have k5:=Rg.out.cell 19 _ rfl
   have k6:=Rg.out.cell 20 _ rfl
   have hal:Below wr.heap.size wr (wr.alloc (.cells #[.int .u8 6,.string ⟨#[47,97,47,98]⟩,.string ⟨#[]⟩,.int .u16 0,.int .u32 2,.int .u32 0,.string ⟨#[120]⟩] 31)):=(Below.refl _ _).alloc (Nat.le_refl _) _
   have HIa:=hid (HI.out.go hal)
   have Ba:=hid (B.out.trans (hal.mono B.out.size))
   have Ra:=hid (Rg.out.go hal)
   clear hal HI B Rg
   go_wp2_with fail
   generalize wr.alloc (.cells #[.int .u8 6,.string ⟨#[47,97,47,98]⟩,.string ⟨#[]⟩,.int .u16 0,.int .u32 2,.int .u32 0,.string ⟨#[120]⟩] 31)=W at *
   clear k0 k1 k2 k3 k4 k5 k6
   refine (CA2.out W A' n' c' HIa.out HN.out.1 HN.out.2).mono ?_
   rintro e w2 ⟨A2,n2,c2,A9,m9,c9,rfl,hm9,hn2,hc2,hI2,_,hb⟩
   replace hm9:m9=0:=hm9
   subst hm9
   have HI2:=hid hI2
   have B2:=hid (Ba.out.trans (hb.mono Ba.out.size))
   have R2:=hid (Ra.out.go hb)
   have HN2:=hid (show n2≤c2∧c2≤maxLen from⟨hn2,hc2⟩)
   clear hI2 hb hn2 hc2 HIa Ba Ra
   have M:=made w2 #[.string ⟨#[]⟩,.int .u32 0,.int .u8 0,.int .u16 0,.int .u32 0,.int .u32 0,.string ⟨#[]⟩,.slice none 0 0] #[.string ⟨#[]⟩,.int .u32 0,.int .u8 0,.int .u16 0,.int .u32 0,.int .u32 0,.string ⟨#[]⟩,.slice A9 0 c9] 38
   go_wp2_with (refine wpList_store_row rfl 38 (.tmp 5) (.tmp 35) rfl w2.heap.size #[.string ⟨#[]⟩,.int .u32 0,.int .u8 0,.int .u16 0,.int .u32 0,.int .u32 0,.string ⟨#[]⟩,.slice A9 0 c9] rfl rfl 38 #[.string ⟨#[]⟩,.int .u32 0,.int .u8 0,.int .u16 0,.int .u32 0,.int .u32 0,.string ⟨#[]⟩,.slice none 0 0] (heap_alloc_new w2 _) (by kernel_rfl) rfl (row8 _ _ _ _ _ _ _ _ _ _) ?_)
   exact⟨⟨3,A2,n2,c2,by decide,by go_num,rfl,HN2.out.1,HN2.out.2,HI2.out.go M.2.1,B2.out.trans (M.2.1.mono B2.out.size),R2.out.go M.2.1⟩,by simp [intOf]⟩
  ·have k0:=Rg.out.cell 21 _ rfl
   have k1:=Rg.out.cell 22 _ rfl
   have k2:=Rg.out.cell 23 _ rfl
   have k3:=Rg.out.cell 24 _ rfl
   have k4:=Rg.out.cell 25 _ rfl
   have k5:=Rg.out.cell 26 _ rfl
   have k6:=Rg.out.cell 27 _ rfl
   have hal:Below wr.heap.size wr (wr.alloc (.cells #[.int .u8 8,.string ⟨#[47,97]⟩,.string ⟨#[47,99]⟩,.int .u16 0,.int .u32 0,.int .u32 0,.string ⟨#[]⟩] 31)):=(Below.refl _ _).alloc (Nat.le_refl _) _
   have HIa:=hid (HI.out.go hal)
   have Ba:=hid (B.out.trans (hal.mono B.out.size))
   have Ra:=hid (Rg.out.go hal)
   clear hal HI B Rg
   go_wp2_with fail
   generalize wr.alloc (.cells #[.int .u8 8,.string ⟨#[47,97]⟩,.string ⟨#[47,99]⟩,.int .u16 0,.int .u32 0,.int .u32 0,.string ⟨#[]⟩] 31)=W at *
   clear k0 k1 k2 k3 k4 k5 k6
   refine (CA3.out W A' n' c' HIa.out HN.out.1 HN.out.2).mono ?_
   rintro e w2 ⟨A2,n2,c2,A9,m9,c9,rfl,hm9,hn2,hc2,hI2,_,hb⟩
   replace hm9:m9=0:=hm9
   subst hm9
   have HI2:=hid hI2
   have B2:=hid (Ba.out.trans (hb.mono Ba.out.size))
   have R2:=hid (Ra.out.go hb)
   have HN2:=hid (show n2≤c2∧c2≤maxLen from⟨hn2,hc2⟩)
   clear hI2 hb hn2 hc2 HIa Ba Ra
   have M:=made w2 #[.string ⟨#[]⟩,.int .u32 0,.int .u8 0,.int .u16 0,.int .u32 0,.int .u32 0,.string ⟨#[]⟩,.slice none 0 0] #[.string ⟨#[]⟩,.int .u32 0,.int .u8 0,.int .u16 0,.int .u32 0,.int .u32 0,.string ⟨#[]⟩,.slice A9 0 c9] 38
   go_wp2_with (refine wpList_store_row rfl 38 (.tmp 5) (.tmp 35) rfl w2.heap.size #[.string ⟨#[]⟩,.int .u32 0,.int .u8 0,.int .u16 0,.int .u32 0,.int .u32 0,.string ⟨#[]⟩,.slice A9 0 c9] rfl rfl 38 #[.string ⟨#[]⟩,.int .u32 0,.int .u8 0,.int .u16 0,.int .u32 0,.int .u32 0,.string ⟨#[]⟩,.slice none 0 0] (heap_alloc_new w2 _) (by kernel_rfl) rfl (row8 _ _ _ _ _ _ _ _ _ _) ?_)
   exact⟨⟨4,A2,n2,c2,by decide,by go_num,rfl,HN2.out.1,HN2.out.2,HI2.out.go M.2.1,B2.out.trans (M.2.1.mono B2.out.size),R2.out.go M.2.1⟩,by simp [intOf]⟩
  ·have HI:=hid (show ItA wr A' n' T4 from HI.out)
   go_wp2_with fail
   refine (CQ1.out wr A' n' c' HI.out HN.out.1 HN.out.2).mono ?_
   rintro e w2 ⟨A11,n11,c11,A21,m21,c21,rfl,hm9,hn9,hc9,hI9,hl9,hb⟩
   replace hm9:m21=0:=hm9
   subst hm9
   replace HI:=hid (HI.out.go hb)
   replace B:=gb B hb
   clear hI9 hn9 hc9 hl9
   clear hb
   go_wp2_with (first
    | (refine new_row rfl 38 (.tmp 8) (.tmp 46) rfl rfl #[.string ⟨#[0,0,120]⟩,.int .u32 0,.int .u8 0,.int .u16 0,.int .u32 0,.int .u32 0,.string ⟨#[]⟩,.slice A21 0 c21] rfl rfl (by kernel_rfl) rfl (row8 _ _ _ _ _ _ _ _ _ _) ?_;intro w3 M;replace HI:=hid (HI.out.go M.2.1);replace B:=gb B M.2.1;have Ra:=hid M.1;obtain⟨ca0,ca1,ca2,ca3,ca4,ca5,ca6,ca7⟩:=cl8 Ra.out;clear M)
    | (go_at_call 14;refine (CQ2.out w3 A' n' c' HI.out HN.out.1 HN.out.2).mono ?_;rintro e w4 ⟨A12,n12,c12,A22,m22,c22,rfl,hm9,hn9,hc9,hI9,hl9,hb⟩;replace hm9:m22=0:=hm9;subst hm9;clear ca0 ca1 ca2 ca3 ca4 ca5 ca6 ca7;replace Ra:=gg Ra hb;replace HI:=hid (HI.out.go hb);replace B:=gb B hb;clear hI9 hn9 hc9 hl9;obtain⟨ca0,ca1,ca2,ca3,ca4,ca5,ca6,ca7⟩:=cl8 Ra.out;clear hb)
    | (refine new_row rfl 38 (.tmp 11) (.tmp 53) rfl rfl #[.string ⟨#[]⟩,.int .u32 3,.int .u8 2,.int .u16 5,.int .u32 1,.int .u32 3,.string ⟨#[]⟩,.slice A22 0 c22] rfl rfl (by kernel_rfl) rfl (row8 _ _ _ _ _ _ _ _ _ _) ?_;intro w5 M;clear ca0 ca1 ca2 ca3 ca4 ca5 ca6 ca7;replace Ra:=gg Ra M.2.1;replace HI:=hid (HI.out.go M.2.1);replace B:=gb B M.2.1;have Rb:=hid M.1;obtain⟨ca0,ca1,ca2,ca3,ca4,ca5,ca6,ca7⟩:=cl8 Ra.out;obtain⟨cb0,cb1,cb2,cb3,cb4,cb5,cb6,cb7⟩:=cl8 Rb.out;clear M)
    | (go_at_call 14;refine (CQ3.out w5 A' n' c' HI.out HN.out.1 HN.out.2).mono ?_;rintro e w6 ⟨A13,n13,c13,A23,m23,c23,rfl,hm9,hn9,hc9,hI9,hl9,hb⟩;replace hm9:m23=0:=hm9;subst hm9;clear ca0 ca1 ca2 ca3 ca4 ca5 ca6 ca7 cb0 cb1 cb2 cb3 cb4 cb5 cb6 cb7;replace Ra:=gg Ra hb;replace Rb:=gg Rb hb;replace HI:=hid (HI.out.go hb);replace B:=gb B hb;clear hI9 hn9 hc9 hl9;obtain⟨ca0,ca1,ca2,ca3,ca4,ca5,ca6,ca7⟩:=cl8 Ra.out;obtain⟨cb0,cb1,cb2,cb3,cb4,cb5,cb6,cb7⟩:=cl8 Rb.out;clear hb)
    | (refine new_row rfl 38 (.tmp 14) (.tmp 60) rfl rfl #[.string ⟨#[]⟩,.int .u32 0,.int .u8 0,.int .u16 0,.int .u32 0,.int .u32 0,.string ⟨#[]⟩,.slice A23 0 c23] rfl rfl (by kernel_rfl) rfl (row8 _ _ _ _ _ _ _ _ _ _) ?_;intro w7 M;clear ca0 ca1 ca2 ca3 ca4 ca5 ca6 ca7 cb0 cb1 cb2 cb3 cb4 cb5 cb6 cb7;replace Ra:=gg Ra M.2.1;replace Rb:=gg Rb M.2.1;replace HI:=hid (HI.out.go M.2.1);replace B:=gb B M.2.1;have Rc:=hid M.1;obtain⟨ca0,ca1,ca2,ca3,ca4,ca5,ca6,ca7⟩:=cl8 Ra.out;obtain⟨cb0,cb1,cb2,cb3,cb4,cb5,cb6,cb7⟩:=cl8 Rb.out;obtain⟨cc0,cc1,cc2,cc3,cc4,cc5,cc6,cc7⟩:=cl8 Rc.out;clear M)
    | (go_at_call 14;refine (CQ4.out w7 A' n' c' HI.out HN.out.1 HN.out.2).mono ?_;rintro e w8 ⟨A14,n14,c14,A24,m24,c24,rfl,hm9,hn9,hc9,hI9,hl9,hb⟩;replace hm9:m24=1:=hm9;subst hm9;have HL9:=hid hl9;clear ca0 ca1 ca2 ca3 ca4 ca5 ca6 ca7 cb0 cb1 cb2 cb3 cb4 cb5 cb6 cb7 cc0 cc1 cc2 cc3 cc4 cc5 cc6 cc7;replace Ra:=gg Ra hb;replace Rb:=gg Rb hb;replace Rc:=gg Rc hb;replace HI:=hid (HI.out.go hb);replace B:=gb B hb;clear hI9 hn9 hc9 hl9;obtain⟨ca0,ca1,ca2,ca3,ca4,ca5,ca6,ca7⟩:=cl8 Ra.out;obtain⟨cb0,cb1,cb2,cb3,cb4,cb5,cb6,cb7⟩:=cl8 Rb.out;obtain⟨cc0,cc1,cc2,cc3,cc4,cc5,cc6,cc7⟩:=cl8 Rc.out;clear hb)
    | (refine new_row rfl 38 (.tmp 17) (.tmp 67) rfl rfl #[.string ⟨#[]⟩,.int .u32 0,.int .u8 0,.int .u16 0,.int .u32 0,.int .u32 0,.string ⟨#[]⟩,.slice A24 1 c24] rfl rfl (by kernel_rfl) rfl (row8 _ _ _ _ _ _ _ _ _ _) ?_;intro w9 M;clear ca0 ca1 ca2 ca3 ca4 ca5 ca6 ca7 cb0 cb1 cb2 cb3 cb4 cb5 cb6 cb7 cc0 cc1 cc2 cc3 cc4 cc5 cc6 cc7;replace Ra:=gg Ra M.2.1;replace Rb:=gg Rb M.2.1;replace Rc:=gg Rc M.2.1;replace HI:=hid (HI.out.go M.2.1);obtain⟨eb,eo,he9,hlt9,hr9⟩:=HL9.out 0 ⟨⟨#[99]⟩,2,1⟩ rfl;have e90:=hr9 0 _ rfl;have e91:World.cell? _ ⟨eb,eo,none⟩=some (Value.string ⟨#[99]⟩):=(World.cell?_of_block (a:=⟨eb,eo,none⟩) (M.2.1.block eb hlt9)).trans (by have e92:=e90;simp only [Nat.zero_mul,Nat.add_zero] at e92;exact e92);clear hr9 e90;subst he9;replace B:=gb B M.2.1;have Rd:=hid M.1;obtain⟨ca0,ca1,ca2,ca3,ca4,ca5,ca6,ca7⟩:=cl8 Ra.out;obtain⟨cb0,cb1,cb2,cb3,cb4,cb5,cb6,cb7⟩:=cl8 Rb.out;obtain⟨cc0,cc1,cc2,cc3,cc4,cc5,cc6,cc7⟩:=cl8 Rc.out;obtain⟨cd0,cd1,cd2,cd3,cd4,cd5,cd6,cd7⟩:=cl8 Rd.out;clear M))
   go_ret
   exact⟨rfl,B.out⟩
end Go.Proofs.YtopepebcnaikiaaGreatDoor.Fi
namespace Go.Proofs.YtopepebcnaikiaaGreatDoor.Fi
open Lib (hid)
set_option linter.unusedVariables false
set_option linter.unusedSimpArgs false
open Ino
open It (Itm Ch get und app dif rt rc key ckey UpK get_iff rt_iff rt_up don donL donL_true lt mem_app mem_don up_app itm get_don app_cons app_nil)
open Di
open Ph (nb spX spB laX laD laN)
variable {L M:List Itm}{p q v:ByteArray}
theorem don_len (c:Ch):∀ (D:List Itm) (put:Bool),(donL c put D).length≤D.length+1
 | [],put=>by cases put<;>simp [donL]
 | x::r,true=>by
  rw [donL_true]
  exact Nat.le_trans (List.length_filter_le _ _) (by simp)
 | x::r,false=>by
  rw [donL]
  have h2:(if key x=ckey c then [] else [x]).length≤1:=by split<;>simp
  by_cases h:lt (key x) (ckey c)=true
  ·rw [h]
   have:=don_len c r false
   simp only [Bool.not_true,Bool.and_false,Bool.false_eq_true,if_false,List.nil_append,List.length_append,Bool.or_false,List.length_cons]
   omega
  ·have h:lt (key x) (ckey c)=false:=by simpa using h
   rw [h,show (false||!false)=true from rfl,donL_true]
   have h1:=List.length_filter_le (fun x=>decide (key x≠ckey c)) r
   simp only [Bool.not_false,Bool.and_true,if_true,List.length_append,List.length_cons,List.length_nil]
   omega
theorem app_len:∀ (C:List Ch) (D:List Itm),(app D C).length≤D.length+C.length
 | [],D=>by simp [app]
 | c::C,D=>by
  rw [app_cons]
  have h1:=app_len C (don c D)
  have h2:(don c D).length≤D.length+1:=don_len c D _
  simp only [List.length_cons]
  omega
theorem aft_tl {o:Op}(ht:tells o):aft L o=L:=by
 by_cases h:dX L o=0
 ·exact aft_td (dX_rgt h) ht
 ·exact aft_no h
theorem dT_ch {o:Op}(ht:¬ tells o):dT L o=zTd:=by
 unfold dT
 split
 all_goals first | rfl | rw [if_neg ht]
theorem ldX_vo (h:rgt L=true) (h':rgt M=true) (e:vo (pts M)=vo (pts L)) (p:ByteArray) (fo:Bool):ldX M p fo=ldX L p fo:=by unfold ldX;rw [wlk_C h,wlk_C h',e]
theorem ldI_vo (h:rgt L=true) (h':rgt M=true) (e:vo (pts M)=vo (pts L)) (p:ByteArray) (fo:Bool):ldI M p fo=ldI L p fo:=by unfold ldI;rw [ldX_vo h h' e,wlk_C h,wlk_C h',e]
theorem atX_vo (h:rgt L=true) (h':rgt M=true) (e:vo (pts M)=vo (pts L)) (o:Op):atX M o=atX L o:=by unfold atX;rw [ldX_vo h h' e,ldI_vo h h' e]
theorem atK_vo (h:rgt L=true) (h':rgt M=true) (e:vo (pts M)=vo (pts L)) (o:Op):atK M o=atK L o:=by unfold atK;rw [ldX_vo h h' e,ldI_vo h h' e]
theorem ld_some (h:rgt L=true){fo:Bool}(h0:ldX L p fo=0):∃ n,(vo (pts L)).ino (ldI L p fo)=some n∧(fo=true→n.K≠3):=by
 unfold ldI
 rw [if_pos h0]
 unfold ldX at h0
 split at h0
 ·exact wlk_some h h0
 ·exact absurd h0 (by assumption)
theorem at_some (h:rgt L=true){o:Op}(h0:atX L o=0):∃ n,(vo (pts L)).ino (ldI L o.P true)=some n∧nb o.T=true∧atK L o=wrK ⟨4,ldI L o.P true,o.T,0⟩:=by
 unfold atX at h0
 by_cases h1:ldX L o.P true=0
 ·rw [if_neg (by rw [h1];decide)] at h0
  obtain⟨n,hn,_⟩:=ld_some h h1
  by_cases h2:nb o.T=true
  ·rw [if_neg (by rw [h2];decide)] at h0
   cases h3:okK ⟨4,ldI L o.P true,o.T,0⟩ with
   | false=>rw [(chK_no h3).1] at h0;cases h0
   | true =>
    refine⟨n,hn,h2,?_⟩
    unfold atK
    rw [if_pos ⟨h1,h2⟩,(chK_yes h3).2]
  ·have h2:nb o.T=false:=by simpa using h2
   rw [if_pos h2] at h0
   cases h0
 ·rw [if_pos h1] at h0
  exact absurd h0 h1
def oG (p q:ByteArray):Op:=⟨15,p,q,0,0,0,⟨#[]⟩⟩
def oS (p q v:ByteArray):Op:=⟨14,p,q,0,0,0,v⟩
def oD (p q:ByteArray):Op:=⟨16,p,q,0,0,0,⟨#[]⟩⟩
theorem oG_t:tells (oG p q):=.inr (.inr (.inr rfl))
theorem oS_t:¬ tells (oS p q v):=by rintro (h | h | h | h)<;>cases h
theorem oD_t:¬ tells (oD p q):=by rintro (h | h | h | h)<;>cases h
theorem dX_oG (h:rgt L=true):dX L (oG p q)=daX L (oG p q):=by
 rw [dX_td h oG_t]
 rfl
theorem dX_oS (h:rgt L=true):dX L (oS p q v)=saX L (oS p q v):=by
 rw [dX_ch h oS_t]
 rfl
theorem dX_oD (h:rgt L=true):dX L (oD p q)=daX L (oG p q):=by
 rw [dX_ch h oD_t]
 rfl
theorem attr_3 (hL:rgt L=true) (h0:atX L (oG p q)=0) (b:Bool) (v:ByteArray) (hv:v.size≤64) (hb:b=false→v=ByteArray.empty) :
  rgt (app L [⟨atK L (oG p q),b,v⟩])=true∧vo (pts (app L [⟨atK L (oG p q),b,v⟩]))=vo (pts L)∧rc [(⟨atK L (oG p q),b,v⟩:Ch)]=true:=by
 obtain⟨n,hn,hb',hk⟩:=at_some hL h0
 rw [hk]
 exact attr_right hL hn hb' b v hv hb
theorem get_1 (h:rgt L=true) (k k':ByteArray) (b:Bool) (v:ByteArray):get (app L [⟨k,b,v⟩]) k'=if k=k' then (if b then some v else none) else get L k':=by
 rw [app_cons,app_nil,get_don (rgt_up h)]
 have:(ckey (⟨k,b,v⟩:Ch)=k'.data.toList)↔k=k':=⟨fun e=>ByteArray.ext (Array.toList_inj.1 e),fun e=>by rw [e];rfl⟩
 simp only [this]
theorem attr_set (h0:dX L (oS p q v)=0):rgt L=true∧atX L (oG p q)=0∧v.size≤64∧aft L (oS p q v)=app L [⟨atK L (oG p q),true,v⟩]:=by
 have hL:=dX_rgt h0
 have h1:=h0
 rw [dX_oS hL] at h1
 unfold saX at h1
 have h2:atX L (oS p q v)=0:=by
  by_cases h:atX L (oS p q v)=0
  ·exact h
  ·rw [if_pos h] at h1;exact absurd h1 h
 rw [if_neg (by rw [h2];decide)] at h1
 have h3:v.size≤64:=by
  by_cases h:64<(oS p q v).D.size
  ·rw [if_pos h] at h1;cases h1
  ·exact Nat.not_lt.1 h
 have h4:atX L (oG p q)=0:=h2
 exact⟨hL,h4,h3,aft_ch hL oS_t h0 (attr_3 hL h4 true v h3 (fun h=>by cases h)).2.2⟩
theorem daX_0 (h:atX L (oG p q)=0):daX L (oG p q)=if (get L (atK L (oG p q))).isSome then 0 else 5:=by
 unfold daX
 rw [if_neg (by rw [h];decide)]
theorem get_ext (h:rgt L=true) (h':rgt M=true) (e:∀ k,get M k=get L k):M=L:=by
 refine It.up_ext (rgt_up h') (rgt_up h) fun x=>?_
 have h1:=get_some (rgt_iff.1 h).rt (k:=x.k) (v:=x.v)
 have h2:=get_some (rgt_iff.1 h').rt (k:=x.k) (v:=x.v)
 rw [e] at h2
 exact (h2.symm.trans h1)
theorem attr_all (h0:dX L (oS p q v)=0):(aft L (oS p q v)).length≤L.length+1∧dX (aft L (oS p q v)) (oG p q)=0∧dT (aft L (oS p q v)) (oG p q)={ zTd with s:=v }∧dX (aft L (oS p q v)) (oD p q)=0 ∧
  (aft (aft L (oS p q v)) (oD p q)).length≤L.length+2∧dX (aft (aft L (oS p q v)) (oD p q)) (oG p q)=5∧(dX L (oG p q)=5→aft (aft L (oS p q v)) (oD p q)=L):=by
 obtain⟨hL,hx,hv,hM⟩:=attr_set h0
 obtain⟨h1,h2,h3⟩:=attr_3 hL hx true v hv (fun h=>by cases h)
 have hl:(aft L (oS p q v)).length≤L.length+1:=by rw [hM];exact app_len _ _
 rw [← hM] at h1 h2
 have hxM:atX (aft L (oS p q v)) (oG p q)=0:=(atX_vo hL h1 h2 _).trans hx
 have hkM:atK (aft L (oS p q v)) (oG p q)=atK L (oG p q):=atK_vo hL h1 h2 _
 have hg:get (aft L (oS p q v)) (atK L (oG p q))=some v:=by rw [hM,get_1 hL,if_pos rfl];rfl
 have hG:daX (aft L (oS p q v)) (oG p q)=0:=by rw [daX_0 hxM,hkM,hg];rfl
 have hG0:dX (aft L (oS p q v)) (oG p q)=0:=(dX_oG h1).trans hG
 have hD0:dX (aft L (oS p q v)) (oD p q)=0:=(dX_oD h1).trans hG
 have hgg:∀ k,get (aft L (oS p q v)) k=if atK L (oG p q)=k then some v else get L k:=fun k=>by rw [hM,get_1 hL];rfl
 have hT:dT (aft L (oS p q v)) (oG p q)={ zTd with s:=v }:=by
  rw [dT_td oG_t hG0]
  show gaT _ _=_
  unfold gaT
  rw [hkM,hg]
  rfl
 generalize aft L (oS p q v)=M at *
 obtain⟨k1,k2,k3⟩:=attr_3 h1 hxM false ByteArray.empty (by decide) (fun _=>rfl)
 have hK:aft M (oD p q)=app M [⟨atK M (oG p q),false,ByteArray.empty⟩]:=aft_ch h1 oD_t hD0 k3
 have hlK:(aft M (oD p q)).length≤L.length+2:=by
  rw [hK]
  have:=app_len [(⟨atK M (oG p q),false,ByteArray.empty⟩:Ch)] M
  simp only [List.length_cons,List.length_nil] at this
  omega
 rw [← hK] at k1 k2
 have hxK:atX (aft M (oD p q)) (oG p q)=0:=(atX_vo h1 k1 k2 _).trans hxM
 have hkK:atK (aft M (oD p q)) (oG p q)=atK L (oG p q):=(atK_vo h1 k1 k2 _).trans hkM
 have hgK:∀ k,get (aft M (oD p q)) k=if atK L (oG p q)=k then none else get L k:=fun k=>by
  rw [hK,get_1 h1,hkM,hgg]
  split
  ·rfl
  ·rfl
 refine⟨hl,hG0,hT,hD0,hlK,?_,fun h5=>?_⟩
 ·rw [dX_oG k1,daX_0 hxK,hkK,hgK,if_pos rfl]
  rfl
 ·refine get_ext hL k1 fun k=>?_
  rw [hgK]
  split
  ·rename_i e
   subst e
   rw [dX_oG hL,daX_0 hx] at h5
   cases hh:get L (atK L (oG p q)) with
   | none=>rfl
   | some u=>rw [hh] at h5;cases h5
  ·rfl
end Go.Proofs.YtopepebcnaikiaaGreatDoor.Fi
namespace Go.Proofs.YtopepebcnaikiaaGreatDoor.Fi
open Lib (hid)
set_option linter.unusedVariables false
set_option linter.unusedSimpArgs false
set_option maxRecDepth 100000
open Go.ChangeShapes Go.WideShapes Go.ChangeAt Go.RowKit
open BigFrame
open Ar Rg
open Ino
open It (Itm Ch get und app dif rt rc enc er getV get_any under_any apply_any diff_any MkI MkC)
open Di (ItA wlk rgt rgt_iff numOf Vo vo pts lsX lsL up En NmA Walk_any Up MkE List_any New_any L0 encEn encEn_len)
open Ph (nb spX spB laX laD laN)
open Pk (nB nE tN tR tE number_any take_any)
variable {w w' wr:World}{A:Option Addr}{n c:Nat}{L:List Itm}
theorem same_T {A A':Option Addr}{n c n' c':Nat}(hI:ItA w A n L) (hJ:ItA w A' n' L):Calls Tryz.prog 15 #[.slice A n c,.slice A' n' c'] w fun e w'=>e=.returned (.bool true)∧Below w.heap.size w w':=by
 have h:=It.same_any L L A A' n c n' c' w.heap.size w.heap.size hI.1 hJ.1 (by have:=hI.2.1;omega) w (Nat.le_refl _) (Nat.le_refl _) hI.2.2 hJ.2.2
 rw [It.sm_iff.2 rfl] at h
 exact h
set_option maxHeartbeats 4000000 in
theorem attrs_A {p q v:ByteArray}(hI:ItA w A n L) (hc:n≤c) (hcm:c≤maxLen) (hn:n≤1048576) (hp:p.size≤1048576) (hq:q.size≤1048576) (hv:v.size≤1048576) (h0:dX L (oS p q v)≠0):Calls Tryz.prog 8 #[.slice A n c,.string p,.string q,.string v] w fun e w'=>e=.returned (.bool true)∧Below w.heap.size w w':=by
 have hlL:L.length≤1048576:=by have:=hI.1;omega
 have C1:=hid (fun (w:World) (A:Option Addr) (n c:Nat) (hI:ItA w A n (L)) (hc:n≤c) (hcm:c≤maxLen)=>af (o:=oG p q) (L:=L) (L':=L) (d:=dT L (oG p q)) (x:=dX L (oG p q)) hI hc hcm ⟨show (15:Nat)<256 by decide,show (0:Nat)<65536 by decide,show (0:Nat)<4294967296 by decide,show (0:Nat)<4294967296 by decide,hp,hq,(show (0:Nat)≤1048576 by decide)⟩ rfl (aft_tl oG_t) rfl (by omega))
 rw [show vOp (oG p q)=.agg #[.int .u8 15,.string p,.string q,.int .u16 0,.int .u32 0,.int .u32 0,.string ⟨#[]⟩] from rfl] at C1
 generalize dT L (oG p q)=d1 at C1
 have hl2:(aft L (oS p q v)).length≤1390000:=by rw [aft_no h0];omega
 have C2:=hid (fun (w:World) (A:Option Addr) (n c:Nat) (hI:ItA w A n (L)) (hc:n≤c) (hcm:c≤maxLen)=>af (o:=oS p q v) (L:=L) (L':=aft L (oS p q v)) (d:=zTd) (x:=dX L (oS p q v)) hI hc hcm ⟨show (14:Nat)<256 by decide,show (0:Nat)<65536 by decide,show (0:Nat)<4294967296 by decide,show (0:Nat)<4294967296 by decide,hp,hq,hv⟩ rfl rfl (dT_ch oS_t) hl2)
 rw [show vOp (oS p q v)=.agg #[.int .u8 14,.string p,.string q,.int .u16 0,.int .u32 0,.int .u32 0,.string v] from rfl] at C2
 have e5:=ne0 h0
 generalize aft L (oS p q v)=M at *
 generalize dX L (oS p q v)=x2 at *
 generalize dX L (oG p q)=x1 at *
 have HI:=hid hI
 have HN:=hid (And.intro hc hcm)
 clear hI hc hcm hn hp hq hv hlL
 go_enter Tryz.func8,Tryz.ntmps8
 go_wp2_with fail
 have B:=hid (Below.refl w.heap.size w)
 refine (lives_any w).mono ?_
 rintro e w1 ⟨rfl,hb⟩
 replace HI:=hid (HI.out.go hb)
 replace B:=gb B hb
 clear hb
 go_wp2_with (first
  | (go_at_call 14;refine (C1.out w1 A n c HI.out HN.out.1 HN.out.2).mono ?_;rintro e w2 ⟨A1,n1,c1,E1,m1,e1,rfl,hm9,hn9,hc9,hI9,hl9,hb⟩;replace HI:=hid (HI.out.go hb);replace B:=gb B hb;clear hI9 hn9 hc9;clear hm9 hl9;clear hb)
  | (refine new_row rfl 38 (.tmp 10) (.tmp 33) rfl rfl #[.string d1.s,.int .u32 d1.i,.int .u8 d1.n.K,.int .u16 d1.n.M,.int .u32 d1.n.L,.int .u32 d1.n.S,.string d1.n.T,.slice E1 m1 e1] rfl rfl (by kernel_rfl) rfl (row8 _ _ _ _ _ _ _ _ _ _) ?_;intro w3 M;replace HI:=hid (HI.out.go M.2.1);replace B:=gb B M.2.1;have Ra:=hid M.1;obtain⟨ca0,ca1,ca2,ca3,ca4,ca5,ca6,ca7⟩:=cl8 Ra.out;clear M)
  | (go_at_call 14;refine (C2.out w3 A n c HI.out HN.out.1 HN.out.2).mono ?_;rintro e w4 ⟨A2,n2,c2,E2,m2,e2,rfl,hm9,hn9,hc9,hI9,hl9,hb⟩;clear ca0 ca1 ca2 ca3 ca4 ca5 ca6 ca7;replace Ra:=gg Ra hb;replace HI:=hid (HI.out.go hb);replace B:=gb B hb;clear hI9 hn9 hc9;clear hm9 hl9;obtain⟨ca0,ca1,ca2,ca3,ca4,ca5,ca6,ca7⟩:=cl8 Ra.out;clear hb)
  | (refine new_row rfl 38 (.tmp 13) (.tmp 43) rfl rfl #[.string ⟨#[]⟩,.int .u32 0,.int .u8 0,.int .u16 0,.int .u32 0,.int .u32 0,.string ⟨#[]⟩,.slice E2 m2 e2] rfl rfl (by kernel_rfl) rfl (row8 _ _ _ _ _ _ _ _ _ _) ?_;intro w5 M;clear ca0 ca1 ca2 ca3 ca4 ca5 ca6 ca7;replace Ra:=gg Ra M.2.1;replace HI:=hid (HI.out.go M.2.1);replace B:=gb B M.2.1;have Rb:=hid M.1;obtain⟨ca0,ca1,ca2,ca3,ca4,ca5,ca6,ca7⟩:=cl8 Ra.out;obtain⟨cb0,cb1,cb2,cb3,cb4,cb5,cb6,cb7⟩:=cl8 Rb.out;clear M))
 go_ret
 exact⟨rfl,B.out⟩
set_option maxHeartbeats 4000000 in
theorem attrs_B {p q v:ByteArray}(hI:ItA w A n L) (hc:n≤c) (hcm:c≤maxLen) (hn:n≤1048576) (hp:p.size≤1048576) (hq:q.size≤1048576) (hv:v.size≤1048576) (h0:dX L (oS p q v)=0) (h5:dX L (oG p q)=5):Calls Tryz.prog 8 #[.slice A n c,.string p,.string q,.string v] w fun e w'=>e=.returned (.bool true)∧Below w.heap.size w w':=by
 have hlL:L.length≤1048576:=by have:=hI.1;omega
 have hd1:dT L (oG p q)=zTd:=dT_no (by rw [h5];decide)
 have C1:=hid (fun (w:World) (A:Option Addr) (n c:Nat) (hI:ItA w A n (L)) (hc:n≤c) (hcm:c≤maxLen)=>af (o:=oG p q) (L:=L) (L':=L) (d:=zTd) (x:=5) hI hc hcm ⟨show (15:Nat)<256 by decide,show (0:Nat)<65536 by decide,show (0:Nat)<4294967296 by decide,show (0:Nat)<4294967296 by decide,hp,hq,(show (0:Nat)≤1048576 by decide)⟩ h5 (aft_tl oG_t) hd1 (by omega))
 rw [show vOp (oG p q)=.agg #[.int .u8 15,.string p,.string q,.int .u16 0,.int .u32 0,.int .u32 0,.string ⟨#[]⟩] from rfl] at C1
 obtain⟨k1,k2,k3,k4,k5,k6,k7⟩:=attr_all h0
 replace k7:=k7 h5
 have C2:=hid (fun (w:World) (A:Option Addr) (n c:Nat) (hI:ItA w A n (L)) (hc:n≤c) (hcm:c≤maxLen)=>af (o:=oS p q v) (L:=L) (L':=aft L (oS p q v)) (d:=zTd) (x:=0) hI hc hcm ⟨show (14:Nat)<256 by decide,show (0:Nat)<65536 by decide,show (0:Nat)<4294967296 by decide,show (0:Nat)<4294967296 by decide,hp,hq,hv⟩ h0 rfl (dT_ch oS_t) (by omega))
 rw [show vOp (oS p q v)=.agg #[.int .u8 14,.string p,.string q,.int .u16 0,.int .u32 0,.int .u32 0,.string v] from rfl] at C2
 generalize aft L (oS p q v)=M at *
 have C3:=hid (fun (w:World) (A:Option Addr) (n c:Nat) (hI:ItA w A n (M)) (hc:n≤c) (hcm:c≤maxLen)=>af (o:=oG p q) (L:=M) (L':=M) (d:={ zTd with s:=v }) (x:=0) hI hc hcm ⟨show (15:Nat)<256 by decide,show (0:Nat)<65536 by decide,show (0:Nat)<4294967296 by decide,show (0:Nat)<4294967296 by decide,hp,hq,(show (0:Nat)≤1048576 by decide)⟩ k2 (aft_tl oG_t) k3 (by omega))
 rw [show vOp (oG p q)=.agg #[.int .u8 15,.string p,.string q,.int .u16 0,.int .u32 0,.int .u32 0,.string ⟨#[]⟩] from rfl] at C3
 have C4:=hid (fun (w:World) (A:Option Addr) (n c:Nat) (hI:ItA w A n (M)) (hc:n≤c) (hcm:c≤maxLen)=>af (o:=oD p q) (L:=M) (L':=L) (d:=zTd) (x:=0) hI hc hcm ⟨show (16:Nat)<256 by decide,show (0:Nat)<65536 by decide,show (0:Nat)<4294967296 by decide,show (0:Nat)<4294967296 by decide,hp,hq,(show (0:Nat)≤1048576 by decide)⟩ k4 k7 (dT_ch oD_t) (by omega))
 rw [show vOp (oD p q)=.agg #[.int .u8 16,.string p,.string q,.int .u16 0,.int .u32 0,.int .u32 0,.string ⟨#[]⟩] from rfl] at C4
 clear k1 k2 k3 k4 k5 k6 k7
 have HI:=hid hI
 have HN:=hid (And.intro hc hcm)
 clear hI hc hcm hn hp hq hv hlL
 go_enter Tryz.func8,Tryz.ntmps8
 go_wp2_with fail
 have B:=hid (Below.refl w.heap.size w)
 refine (lives_any w).mono ?_
 rintro e w1 ⟨rfl,hb⟩
 replace HI:=hid (HI.out.go hb)
 replace B:=gb B hb
 clear hb
 go_wp2_with (first
  | (go_at_call 14;refine (C1.out w1 A n c HI.out HN.out.1 HN.out.2).mono ?_;rintro e w2 ⟨A1,n1,c1,E1,m1,e1,rfl,hm9,hn9,hc9,hI9,hl9,hb⟩;replace HI:=hid (HI.out.go hb);replace B:=gb B hb;clear hI9 hn9 hc9;clear hm9 hl9;clear hb)
  | (refine new_row rfl 38 (.tmp 10) (.tmp 33) rfl rfl #[.string ⟨#[]⟩,.int .u32 0,.int .u8 0,.int .u16 0,.int .u32 0,.int .u32 0,.string ⟨#[]⟩,.slice E1 m1 e1] rfl rfl (by kernel_rfl) rfl (row8 _ _ _ _ _ _ _ _ _ _) ?_;intro w3 M;replace HI:=hid (HI.out.go M.2.1);replace B:=gb B M.2.1;have Ra:=hid M.1;obtain⟨ca0,ca1,ca2,ca3,ca4,ca5,ca6,ca7⟩:=cl8 Ra.out;clear M)
  | (go_at_call 14;refine (C2.out w3 A n c HI.out HN.out.1 HN.out.2).mono ?_;rintro e w4 ⟨A2,n2,c2,E2,m2,e2,rfl,hm9,hn9,hc9,hI9,hl9,hb⟩;have HIM:=hid hI9;have HNM:=hid (And.intro hn9 hc9);clear ca0 ca1 ca2 ca3 ca4 ca5 ca6 ca7;replace Ra:=gg Ra hb;replace HI:=hid (HI.out.go hb);replace B:=gb B hb;clear hI9 hn9 hc9;clear hm9 hl9;obtain⟨ca0,ca1,ca2,ca3,ca4,ca5,ca6,ca7⟩:=cl8 Ra.out;clear hb)
  | (refine new_row rfl 38 (.tmp 13) (.tmp 43) rfl rfl #[.string ⟨#[]⟩,.int .u32 0,.int .u8 0,.int .u16 0,.int .u32 0,.int .u32 0,.string ⟨#[]⟩,.slice E2 m2 e2] rfl rfl (by kernel_rfl) rfl (row8 _ _ _ _ _ _ _ _ _ _) ?_;intro w5 M;clear ca0 ca1 ca2 ca3 ca4 ca5 ca6 ca7;replace Ra:=gg Ra M.2.1;replace HI:=hid (HI.out.go M.2.1);replace HIM:=hid (HIM.out.go M.2.1);replace B:=gb B M.2.1;have Rb:=hid M.1;obtain⟨ca0,ca1,ca2,ca3,ca4,ca5,ca6,ca7⟩:=cl8 Ra.out;obtain⟨cb0,cb1,cb2,cb3,cb4,cb5,cb6,cb7⟩:=cl8 Rb.out;clear M)
  | (go_at_call 14;refine (C3.out w5 A2 n2 c2 HIM.out HNM.out.1 HNM.out.2).mono ?_;rintro e w6 ⟨A3,n3,c3,E3,m3,e3,rfl,hm9,hn9,hc9,hI9,hl9,hb⟩;clear ca0 ca1 ca2 ca3 ca4 ca5 ca6 ca7 cb0 cb1 cb2 cb3 cb4 cb5 cb6 cb7;replace Ra:=gg Ra hb;replace Rb:=gg Rb hb;replace HI:=hid (HI.out.go hb);replace HIM:=hid (HIM.out.go hb);replace B:=gb B hb;clear hI9 hn9 hc9;clear hm9 hl9;obtain⟨ca0,ca1,ca2,ca3,ca4,ca5,ca6,ca7⟩:=cl8 Ra.out;obtain⟨cb0,cb1,cb2,cb3,cb4,cb5,cb6,cb7⟩:=cl8 Rb.out;clear hb)
  | (refine new_row rfl 38 (.tmp 16) (.tmp 54) rfl rfl #[.string v,.int .u32 0,.int .u8 0,.int .u16 0,.int .u32 0,.int .u32 0,.string ⟨#[]⟩,.slice E3 m3 e3] rfl rfl (by kernel_rfl) rfl (row8 _ _ _ _ _ _ _ _ _ _) ?_;intro w7 M;clear ca0 ca1 ca2 ca3 ca4 ca5 ca6 ca7 cb0 cb1 cb2 cb3 cb4 cb5 cb6 cb7;replace Ra:=gg Ra M.2.1;replace Rb:=gg Rb M.2.1;replace HI:=hid (HI.out.go M.2.1);replace HIM:=hid (HIM.out.go M.2.1);replace B:=gb B M.2.1;have Rc:=hid M.1;obtain⟨ca0,ca1,ca2,ca3,ca4,ca5,ca6,ca7⟩:=cl8 Ra.out;obtain⟨cb0,cb1,cb2,cb3,cb4,cb5,cb6,cb7⟩:=cl8 Rb.out;obtain⟨cc0,cc1,cc2,cc3,cc4,cc5,cc6,cc7⟩:=cl8 Rc.out;clear M)
  | (go_at_call 14;refine (C4.out w7 A2 n2 c2 HIM.out HNM.out.1 HNM.out.2).mono ?_;rintro e w8 ⟨A4,n4,c4,E4,m4,e4,rfl,hm9,hn9,hc9,hI9,hl9,hb⟩;have HIK:=hid hI9;have HNK:=hid (And.intro hn9 hc9);clear ca0 ca1 ca2 ca3 ca4 ca5 ca6 ca7 cb0 cb1 cb2 cb3 cb4 cb5 cb6 cb7 cc0 cc1 cc2 cc3 cc4 cc5 cc6 cc7;replace Ra:=gg Ra hb;replace Rb:=gg Rb hb;replace Rc:=gg Rc hb;replace HI:=hid (HI.out.go hb);replace HIM:=hid (HIM.out.go hb);replace B:=gb B hb;clear hI9 hn9 hc9;clear hm9 hl9;obtain⟨ca0,ca1,ca2,ca3,ca4,ca5,ca6,ca7⟩:=cl8 Ra.out;obtain⟨cb0,cb1,cb2,cb3,cb4,cb5,cb6,cb7⟩:=cl8 Rb.out;obtain⟨cc0,cc1,cc2,cc3,cc4,cc5,cc6,cc7⟩:=cl8 Rc.out;clear hb)
  | (refine new_row rfl 38 (.tmp 19) (.tmp 63) rfl rfl #[.string ⟨#[]⟩,.int .u32 0,.int .u8 0,.int .u16 0,.int .u32 0,.int .u32 0,.string ⟨#[]⟩,.slice E4 m4 e4] rfl rfl (by kernel_rfl) rfl (row8 _ _ _ _ _ _ _ _ _ _) ?_;intro w9 M;clear ca0 ca1 ca2 ca3 ca4 ca5 ca6 ca7 cb0 cb1 cb2 cb3 cb4 cb5 cb6 cb7 cc0 cc1 cc2 cc3 cc4 cc5 cc6 cc7;replace Ra:=gg Ra M.2.1;replace Rb:=gg Rb M.2.1;replace Rc:=gg Rc M.2.1;replace HI:=hid (HI.out.go M.2.1);replace HIM:=hid (HIM.out.go M.2.1);replace HIK:=hid (HIK.out.go M.2.1);replace B:=gb B M.2.1;have Rd:=hid M.1;obtain⟨ca0,ca1,ca2,ca3,ca4,ca5,ca6,ca7⟩:=cl8 Ra.out;obtain⟨cb0,cb1,cb2,cb3,cb4,cb5,cb6,cb7⟩:=cl8 Rb.out;obtain⟨cc0,cc1,cc2,cc3,cc4,cc5,cc6,cc7⟩:=cl8 Rc.out;obtain⟨cd0,cd1,cd2,cd3,cd4,cd5,cd6,cd7⟩:=cl8 Rd.out;clear M)
  | (go_at_call 14;refine (C1.out w9 A4 n4 c4 HIK.out HNK.out.1 HNK.out.2).mono ?_;rintro e w10 ⟨A5,n5,c5,E5,m5,e5,rfl,hm9,hn9,hc9,hI9,hl9,hb⟩;clear ca0 ca1 ca2 ca3 ca4 ca5 ca6 ca7 cb0 cb1 cb2 cb3 cb4 cb5 cb6 cb7 cc0 cc1 cc2 cc3 cc4 cc5 cc6 cc7 cd0 cd1 cd2 cd3 cd4 cd5 cd6 cd7;replace Ra:=gg Ra hb;replace Rb:=gg Rb hb;replace Rc:=gg Rc hb;replace Rd:=gg Rd hb;replace HI:=hid (HI.out.go hb);replace HIM:=hid (HIM.out.go hb);replace HIK:=hid (HIK.out.go hb);replace B:=gb B hb;clear hI9 hn9 hc9;clear hm9 hl9;obtain⟨ca0,ca1,ca2,ca3,ca4,ca5,ca6,ca7⟩:=cl8 Ra.out;obtain⟨cb0,cb1,cb2,cb3,cb4,cb5,cb6,cb7⟩:=cl8 Rb.out;obtain⟨cc0,cc1,cc2,cc3,cc4,cc5,cc6,cc7⟩:=cl8 Rc.out;obtain⟨cd0,cd1,cd2,cd3,cd4,cd5,cd6,cd7⟩:=cl8 Rd.out;clear hb)
  | (refine new_row rfl 38 (.tmp 22) (.tmp 72) rfl rfl #[.string ⟨#[]⟩,.int .u32 0,.int .u8 0,.int .u16 0,.int .u32 0,.int .u32 0,.string ⟨#[]⟩,.slice E5 m5 e5] rfl rfl (by kernel_rfl) rfl (row8 _ _ _ _ _ _ _ _ _ _) ?_;intro w11 M;clear ca0 ca1 ca2 ca3 ca4 ca5 ca6 ca7 cb0 cb1 cb2 cb3 cb4 cb5 cb6 cb7 cc0 cc1 cc2 cc3 cc4 cc5 cc6 cc7 cd0 cd1 cd2 cd3 cd4 cd5 cd6 cd7;replace Ra:=gg Ra M.2.1;replace Rb:=gg Rb M.2.1;replace Rc:=gg Rc M.2.1;replace Rd:=gg Rd M.2.1;replace HI:=hid (HI.out.go M.2.1);replace HIM:=hid (HIM.out.go M.2.1);replace HIK:=hid (HIK.out.go M.2.1);replace B:=gb B M.2.1;have Re:=hid M.1;obtain⟨ca0,ca1,ca2,ca3,ca4,ca5,ca6,ca7⟩:=cl8 Ra.out;obtain⟨cb0,cb1,cb2,cb3,cb4,cb5,cb6,cb7⟩:=cl8 Rb.out;obtain⟨cc0,cc1,cc2,cc3,cc4,cc5,cc6,cc7⟩:=cl8 Rc.out;obtain⟨cd0,cd1,cd2,cd3,cd4,cd5,cd6,cd7⟩:=cl8 Rd.out;obtain⟨ce0,ce1,ce2,ce3,ce4,ce5,ce6,ce7⟩:=cl8 Re.out;clear M)
  | (go_at_call 15;refine (same_T HIK.out HI.out).mono ?_;rintro e w12 ⟨rfl,hb⟩;clear ca0 ca1 ca2 ca3 ca4 ca5 ca6 ca7 cb0 cb1 cb2 cb3 cb4 cb5 cb6 cb7 cc0 cc1 cc2 cc3 cc4 cc5 cc6 cc7 cd0 cd1 cd2 cd3 cd4 cd5 cd6 cd7 ce0 ce1 ce2 ce3 ce4 ce5 ce6 ce7;replace Ra:=gg Ra hb;replace Rb:=gg Rb hb;replace Rc:=gg Rc hb;replace Rd:=gg Rd hb;replace Re:=gg Re hb;replace HI:=hid (HI.out.go hb);replace HIM:=hid (HIM.out.go hb);replace HIK:=hid (HIK.out.go hb);replace B:=gb B hb;obtain⟨ca0,ca1,ca2,ca3,ca4,ca5,ca6,ca7⟩:=cl8 Ra.out;obtain⟨cb0,cb1,cb2,cb3,cb4,cb5,cb6,cb7⟩:=cl8 Rb.out;obtain⟨cc0,cc1,cc2,cc3,cc4,cc5,cc6,cc7⟩:=cl8 Rc.out;obtain⟨cd0,cd1,cd2,cd3,cd4,cd5,cd6,cd7⟩:=cl8 Rd.out;obtain⟨ce0,ce1,ce2,ce3,ce4,ce5,ce6,ce7⟩:=cl8 Re.out;clear hb))
 go_ret
 exact⟨rfl,B.out⟩
set_option maxHeartbeats 4000000 in
theorem attrs_C {p q v:ByteArray}(hI:ItA w A n L) (hc:n≤c) (hcm:c≤maxLen) (hn:n≤1048576) (hp:p.size≤1048576) (hq:q.size≤1048576) (hv:v.size≤1048576) (h0:dX L (oS p q v)=0) (h5:dX L (oG p q)≠5):Calls Tryz.prog 8 #[.slice A n c,.string p,.string q,.string v] w fun e w'=>e=.returned (.bool true)∧Below w.heap.size w w':=by
 have hlL:L.length≤1048576:=by have:=hI.1;omega
 have C1:=hid (fun (w:World) (A:Option Addr) (n c:Nat) (hI:ItA w A n (L)) (hc:n≤c) (hcm:c≤maxLen)=>af (o:=oG p q) (L:=L) (L':=L) (d:=dT L (oG p q)) (x:=dX L (oG p q)) hI hc hcm ⟨show (15:Nat)<256 by decide,show (0:Nat)<65536 by decide,show (0:Nat)<4294967296 by decide,show (0:Nat)<4294967296 by decide,hp,hq,(show (0:Nat)≤1048576 by decide)⟩ rfl (aft_tl oG_t) rfl (by omega))
 rw [show vOp (oG p q)=.agg #[.int .u8 15,.string p,.string q,.int .u16 0,.int .u32 0,.int .u32 0,.string ⟨#[]⟩] from rfl] at C1
 generalize dT L (oG p q)=d1 at C1
 obtain⟨k1,k2,k3,k4,k5,k6,k7⟩:=attr_all h0
 have C2:=hid (fun (w:World) (A:Option Addr) (n c:Nat) (hI:ItA w A n (L)) (hc:n≤c) (hcm:c≤maxLen)=>af (o:=oS p q v) (L:=L) (L':=aft L (oS p q v)) (d:=zTd) (x:=0) hI hc hcm ⟨show (14:Nat)<256 by decide,show (0:Nat)<65536 by decide,show (0:Nat)<4294967296 by decide,show (0:Nat)<4294967296 by decide,hp,hq,hv⟩ h0 rfl (dT_ch oS_t) (by omega))
 rw [show vOp (oS p q v)=.agg #[.int .u8 14,.string p,.string q,.int .u16 0,.int .u32 0,.int .u32 0,.string v] from rfl] at C2
 generalize aft L (oS p q v)=M at *
 have C3:=hid (fun (w:World) (A:Option Addr) (n c:Nat) (hI:ItA w A n (M)) (hc:n≤c) (hcm:c≤maxLen)=>af (o:=oG p q) (L:=M) (L':=M) (d:={ zTd with s:=v }) (x:=0) hI hc hcm ⟨show (15:Nat)<256 by decide,show (0:Nat)<65536 by decide,show (0:Nat)<4294967296 by decide,show (0:Nat)<4294967296 by decide,hp,hq,(show (0:Nat)≤1048576 by decide)⟩ k2 (aft_tl oG_t) k3 (by omega))
 rw [show vOp (oG p q)=.agg #[.int .u8 15,.string p,.string q,.int .u16 0,.int .u32 0,.int .u32 0,.string ⟨#[]⟩] from rfl] at C3
 have C4:=hid (fun (w:World) (A:Option Addr) (n c:Nat) (hI:ItA w A n (M)) (hc:n≤c) (hcm:c≤maxLen)=>af (o:=oD p q) (L:=M) (L':=aft M (oD p q)) (d:=zTd) (x:=0) hI hc hcm ⟨show (16:Nat)<256 by decide,show (0:Nat)<65536 by decide,show (0:Nat)<4294967296 by decide,show (0:Nat)<4294967296 by decide,hp,hq,(show (0:Nat)≤1048576 by decide)⟩ k4 rfl (dT_ch oD_t) (by omega))
 rw [show vOp (oD p q)=.agg #[.int .u8 16,.string p,.string q,.int .u16 0,.int .u32 0,.int .u32 0,.string ⟨#[]⟩] from rfl] at C4
 generalize aft M (oD p q)=K at *
 have C5:=hid (fun (w:World) (A:Option Addr) (n c:Nat) (hI:ItA w A n (K)) (hc:n≤c) (hcm:c≤maxLen)=>af (o:=oG p q) (L:=K) (L':=K) (d:=zTd) (x:=5) hI hc hcm ⟨show (15:Nat)<256 by decide,show (0:Nat)<65536 by decide,show (0:Nat)<4294967296 by decide,show (0:Nat)<4294967296 by decide,hp,hq,(show (0:Nat)≤1048576 by decide)⟩ k6 (aft_tl oG_t) (dT_no (by rw [k6];decide)) (by omega))
 rw [show vOp (oG p q)=.agg #[.int .u8 15,.string p,.string q,.int .u16 0,.int .u32 0,.int .u32 0,.string ⟨#[]⟩] from rfl] at C5
 have h5i:=h5
 generalize dX L (oG p q)=x1 at *
 clear k1 k2 k3 k4 k5 k6 k7
 have HI:=hid hI
 have HN:=hid (And.intro hc hcm)
 clear hI hc hcm hn hp hq hv hlL
 go_enter Tryz.func8,Tryz.ntmps8
 go_wp2_with fail
 have B:=hid (Below.refl w.heap.size w)
 refine (lives_any w).mono ?_
 rintro e w1 ⟨rfl,hb⟩
 replace HI:=hid (HI.out.go hb)
 replace B:=gb B hb
 clear hb
 go_wp2_with (first
  | (go_at_call 14;refine (C1.out w1 A n c HI.out HN.out.1 HN.out.2).mono ?_;rintro e w2 ⟨A1,n1,c1,E1,m1,e1,rfl,hm9,hn9,hc9,hI9,hl9,hb⟩;replace HI:=hid (HI.out.go hb);replace B:=gb B hb;clear hI9 hn9 hc9;clear hm9 hl9;clear hb)
  | (refine new_row rfl 38 (.tmp 10) (.tmp 33) rfl rfl #[.string d1.s,.int .u32 d1.i,.int .u8 d1.n.K,.int .u16 d1.n.M,.int .u32 d1.n.L,.int .u32 d1.n.S,.string d1.n.T,.slice E1 m1 e1] rfl rfl (by kernel_rfl) rfl (row8 _ _ _ _ _ _ _ _ _ _) ?_;intro w3 M;replace HI:=hid (HI.out.go M.2.1);replace B:=gb B M.2.1;have Ra:=hid M.1;obtain⟨ca0,ca1,ca2,ca3,ca4,ca5,ca6,ca7⟩:=cl8 Ra.out;clear M)
  | (go_at_call 14;refine (C2.out w3 A n c HI.out HN.out.1 HN.out.2).mono ?_;rintro e w4 ⟨A2,n2,c2,E2,m2,e2,rfl,hm9,hn9,hc9,hI9,hl9,hb⟩;have HIM:=hid hI9;have HNM:=hid (And.intro hn9 hc9);clear ca0 ca1 ca2 ca3 ca4 ca5 ca6 ca7;replace Ra:=gg Ra hb;replace HI:=hid (HI.out.go hb);replace B:=gb B hb;clear hI9 hn9 hc9;clear hm9 hl9;obtain⟨ca0,ca1,ca2,ca3,ca4,ca5,ca6,ca7⟩:=cl8 Ra.out;clear hb)
  | (refine new_row rfl 38 (.tmp 13) (.tmp 43) rfl rfl #[.string ⟨#[]⟩,.int .u32 0,.int .u8 0,.int .u16 0,.int .u32 0,.int .u32 0,.string ⟨#[]⟩,.slice E2 m2 e2] rfl rfl (by kernel_rfl) rfl (row8 _ _ _ _ _ _ _ _ _ _) ?_;intro w5 M;clear ca0 ca1 ca2 ca3 ca4 ca5 ca6 ca7;replace Ra:=gg Ra M.2.1;replace HI:=hid (HI.out.go M.2.1);replace HIM:=hid (HIM.out.go M.2.1);replace B:=gb B M.2.1;have Rb:=hid M.1;obtain⟨ca0,ca1,ca2,ca3,ca4,ca5,ca6,ca7⟩:=cl8 Ra.out;obtain⟨cb0,cb1,cb2,cb3,cb4,cb5,cb6,cb7⟩:=cl8 Rb.out;clear M)
  | (go_at_call 14;refine (C3.out w5 A2 n2 c2 HIM.out HNM.out.1 HNM.out.2).mono ?_;rintro e w6 ⟨A3,n3,c3,E3,m3,e3,rfl,hm9,hn9,hc9,hI9,hl9,hb⟩;clear ca0 ca1 ca2 ca3 ca4 ca5 ca6 ca7 cb0 cb1 cb2 cb3 cb4 cb5 cb6 cb7;replace Ra:=gg Ra hb;replace Rb:=gg Rb hb;replace HI:=hid (HI.out.go hb);replace HIM:=hid (HIM.out.go hb);replace B:=gb B hb;clear hI9 hn9 hc9;clear hm9 hl9;obtain⟨ca0,ca1,ca2,ca3,ca4,ca5,ca6,ca7⟩:=cl8 Ra.out;obtain⟨cb0,cb1,cb2,cb3,cb4,cb5,cb6,cb7⟩:=cl8 Rb.out;clear hb)
  | (refine new_row rfl 38 (.tmp 16) (.tmp 54) rfl rfl #[.string v,.int .u32 0,.int .u8 0,.int .u16 0,.int .u32 0,.int .u32 0,.string ⟨#[]⟩,.slice E3 m3 e3] rfl rfl (by kernel_rfl) rfl (row8 _ _ _ _ _ _ _ _ _ _) ?_;intro w7 M;clear ca0 ca1 ca2 ca3 ca4 ca5 ca6 ca7 cb0 cb1 cb2 cb3 cb4 cb5 cb6 cb7;replace Ra:=gg Ra M.2.1;replace Rb:=gg Rb M.2.1;replace HI:=hid (HI.out.go M.2.1);replace HIM:=hid (HIM.out.go M.2.1);replace B:=gb B M.2.1;have Rc:=hid M.1;obtain⟨ca0,ca1,ca2,ca3,ca4,ca5,ca6,ca7⟩:=cl8 Ra.out;obtain⟨cb0,cb1,cb2,cb3,cb4,cb5,cb6,cb7⟩:=cl8 Rb.out;obtain⟨cc0,cc1,cc2,cc3,cc4,cc5,cc6,cc7⟩:=cl8 Rc.out;clear M)
  | (go_at_call 14;refine (C4.out w7 A2 n2 c2 HIM.out HNM.out.1 HNM.out.2).mono ?_;rintro e w8 ⟨A4,n4,c4,E4,m4,e4,rfl,hm9,hn9,hc9,hI9,hl9,hb⟩;have HIK:=hid hI9;have HNK:=hid (And.intro hn9 hc9);clear ca0 ca1 ca2 ca3 ca4 ca5 ca6 ca7 cb0 cb1 cb2 cb3 cb4 cb5 cb6 cb7 cc0 cc1 cc2 cc3 cc4 cc5 cc6 cc7;replace Ra:=gg Ra hb;replace Rb:=gg Rb hb;replace Rc:=gg Rc hb;replace HI:=hid (HI.out.go hb);replace HIM:=hid (HIM.out.go hb);replace B:=gb B hb;clear hI9 hn9 hc9;clear hm9 hl9;obtain⟨ca0,ca1,ca2,ca3,ca4,ca5,ca6,ca7⟩:=cl8 Ra.out;obtain⟨cb0,cb1,cb2,cb3,cb4,cb5,cb6,cb7⟩:=cl8 Rb.out;obtain⟨cc0,cc1,cc2,cc3,cc4,cc5,cc6,cc7⟩:=cl8 Rc.out;clear hb)
  | (refine new_row rfl 38 (.tmp 19) (.tmp 63) rfl rfl #[.string ⟨#[]⟩,.int .u32 0,.int .u8 0,.int .u16 0,.int .u32 0,.int .u32 0,.string ⟨#[]⟩,.slice E4 m4 e4] rfl rfl (by kernel_rfl) rfl (row8 _ _ _ _ _ _ _ _ _ _) ?_;intro w9 M;clear ca0 ca1 ca2 ca3 ca4 ca5 ca6 ca7 cb0 cb1 cb2 cb3 cb4 cb5 cb6 cb7 cc0 cc1 cc2 cc3 cc4 cc5 cc6 cc7;replace Ra:=gg Ra M.2.1;replace Rb:=gg Rb M.2.1;replace Rc:=gg Rc M.2.1;replace HI:=hid (HI.out.go M.2.1);replace HIM:=hid (HIM.out.go M.2.1);replace HIK:=hid (HIK.out.go M.2.1);replace B:=gb B M.2.1;have Rd:=hid M.1;obtain⟨ca0,ca1,ca2,ca3,ca4,ca5,ca6,ca7⟩:=cl8 Ra.out;obtain⟨cb0,cb1,cb2,cb3,cb4,cb5,cb6,cb7⟩:=cl8 Rb.out;obtain⟨cc0,cc1,cc2,cc3,cc4,cc5,cc6,cc7⟩:=cl8 Rc.out;obtain⟨cd0,cd1,cd2,cd3,cd4,cd5,cd6,cd7⟩:=cl8 Rd.out;clear M)
  | (go_at_call 14;refine (C5.out w9 A4 n4 c4 HIK.out HNK.out.1 HNK.out.2).mono ?_;rintro e w10 ⟨A5,n5,c5,E5,m5,e5,rfl,hm9,hn9,hc9,hI9,hl9,hb⟩;clear ca0 ca1 ca2 ca3 ca4 ca5 ca6 ca7 cb0 cb1 cb2 cb3 cb4 cb5 cb6 cb7 cc0 cc1 cc2 cc3 cc4 cc5 cc6 cc7 cd0 cd1 cd2 cd3 cd4 cd5 cd6 cd7;replace Ra:=gg Ra hb;replace Rb:=gg Rb hb;replace Rc:=gg Rc hb;replace Rd:=gg Rd hb;replace HI:=hid (HI.out.go hb);replace HIM:=hid (HIM.out.go hb);replace HIK:=hid (HIK.out.go hb);replace B:=gb B hb;clear hI9 hn9 hc9;clear hm9 hl9;obtain⟨ca0,ca1,ca2,ca3,ca4,ca5,ca6,ca7⟩:=cl8 Ra.out;obtain⟨cb0,cb1,cb2,cb3,cb4,cb5,cb6,cb7⟩:=cl8 Rb.out;obtain⟨cc0,cc1,cc2,cc3,cc4,cc5,cc6,cc7⟩:=cl8 Rc.out;obtain⟨cd0,cd1,cd2,cd3,cd4,cd5,cd6,cd7⟩:=cl8 Rd.out;clear hb)
  | (refine new_row rfl 38 (.tmp 22) (.tmp 72) rfl rfl #[.string ⟨#[]⟩,.int .u32 0,.int .u8 0,.int .u16 0,.int .u32 0,.int .u32 0,.string ⟨#[]⟩,.slice E5 m5 e5] rfl rfl (by kernel_rfl) rfl (row8 _ _ _ _ _ _ _ _ _ _) ?_;intro w11 M;clear ca0 ca1 ca2 ca3 ca4 ca5 ca6 ca7 cb0 cb1 cb2 cb3 cb4 cb5 cb6 cb7 cc0 cc1 cc2 cc3 cc4 cc5 cc6 cc7 cd0 cd1 cd2 cd3 cd4 cd5 cd6 cd7;replace Ra:=gg Ra M.2.1;replace Rb:=gg Rb M.2.1;replace Rc:=gg Rc M.2.1;replace Rd:=gg Rd M.2.1;replace HI:=hid (HI.out.go M.2.1);replace HIM:=hid (HIM.out.go M.2.1);replace HIK:=hid (HIK.out.go M.2.1);replace B:=gb B M.2.1;have Re:=hid M.1;obtain⟨ca0,ca1,ca2,ca3,ca4,ca5,ca6,ca7⟩:=cl8 Ra.out;obtain⟨cb0,cb1,cb2,cb3,cb4,cb5,cb6,cb7⟩:=cl8 Rb.out;obtain⟨cc0,cc1,cc2,cc3,cc4,cc5,cc6,cc7⟩:=cl8 Rc.out;obtain⟨cd0,cd1,cd2,cd3,cd4,cd5,cd6,cd7⟩:=cl8 Rd.out;obtain⟨ce0,ce1,ce2,ce3,ce4,ce5,ce6,ce7⟩:=cl8 Re.out;clear M))
 go_ret
 exact⟨rfl,B.out⟩
theorem filesAttrs_walk {p q v:ByteArray}(hI:ItA w A n L) (hc:n≤c) (hcm:c≤maxLen) (hn:n≤1048576) (hp:p.size≤1048576) (hq:q.size≤1048576) (hv:v.size≤1048576):Calls Tryz.prog 8 #[.slice A n c,.string p,.string q,.string v] w fun e w'=>e=.returned (.bool true)∧Below w.heap.size w w':=by
 by_cases h0:dX L (oS p q v)=0
 ·by_cases h5:dX L (oG p q)=5
  ·exact attrs_B hI hc hcm hn hp hq hv h0 h5
  ·exact attrs_C hI hc hcm hn hp hq hv h0 h5
 ·exact attrs_A hI hc hcm hn hp hq hv h0
end Go.Proofs.YtopepebcnaikiaaGreatDoor.Fi
