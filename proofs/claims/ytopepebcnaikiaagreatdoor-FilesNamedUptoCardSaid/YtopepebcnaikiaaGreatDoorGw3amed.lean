import Derived.Test.YtopepebcnaikiaaGreatDoorGb2
import Derived.Test.YtopepebcnaikiaaGreatDoorGb3
import Derived.Test.YtopepebcnaikiaaGreatDoorGb5
import Derived.Test.YtopepebcnaikiaaGreatDoorGw1amed
import Derived.Test.YtopepebcnaikiaaGreatDoorGw2amed
import Derived.SliceStrings
set_option maxRecDepth 100000
namespace Go.Proofs.YtopepebcnaikiaaGreatDoor.Fi
open Lib (hid)
set_option linter.unusedVariables false
set_option linter.unusedSimpArgs false
set_option maxRecDepth 100000
open Go.ChangeShapes Go.WideShapes Go.ChangeAt Go.RowKit
open BigFrame
open Ar Rg
open Ino
open It (Itm Ch get und app dif rt rc enc er getV get_any under_any apply_any diff_any MkI MkC)
open Di (ItA wlk rgt rgt_iff numOf Vo vo pts lsX lsL up En NmA Walk_any Up MkE List_any)
open Ph (nb spX spB laX laD laN)
open Pk (nB nE tN tR tE number_any take_any)
variable {w w' wr:World}{A:Option Addr}{n c:Nat}{L:List Itm}
theorem dX_rgt {o:Op}(h:dX L o=0):rgt L=true:=by
 unfold dX at h
 cases hr:rgt L
 ·rw [hr] at h;cases h
 ·rfl
theorem apC_rt (h:rt L=true) (C:List Ch):rt (if rc C=true then app L C else [])=true:=by
 split
 ·exact It.rt_app h (by assumption)
 ·rfl
theorem dC_rc {o:Op}(h:rt L=true):rc (dC L o)=true:=by
 unfold dC
 split
 ·split
  ·exact It.rc_dif h (apC_rt h _)
  ·exact It.rc_dif h (apC_rt h _)
 ·rfl
theorem dT_no {o:Op}(h:dX L o≠0):dT L o=zTd:=by unfold dT;rw [if_neg h]
theorem dC_no {o:Op}(h:dX L o≠0):dC L o=[]:=by unfold dC;rw [if_neg h]
theorem apC_len (C:List Ch):(apC L C).length≤L.length+(L.length+C.length):=by
 unfold apC
 refine Nat.le_trans (It.dif_len L _) (Nat.add_le_add_left ?_ _)
 split
 ·exact It.app_len _ _
 ·exact Nat.zero_le _
theorem dC_len (o:Op):(dC L o).length≤L.length+(L.length+(chC L o).length):=by
 unfold dC
 split
 ·split
  ·have:=apC_len (L:=L) []
   rw [List.length_nil] at this
   omega
  ·exact apC_len _
 ·exact Nat.zero_le _
def AfPost (w:World) (L:List Itm) (o:Op) (e:Ending) (w':World):Prop:=∃ (A':Option Addr) (n' c':Nat) (ev:Value),e=.returned (.tuple #[.slice A' n' c',vTd (dT L o) ev,.int .i64 (dX L o)])∧n'=(aft L o).length∧n'≤c'∧c'≤maxLen∧Ls It.enc 2 w' w'.heap.size A' (aft L o)∧MkE w w' ev (dT L o).e∧Below w.heap.size w w'
set_option maxHeartbeats 2000000 in
theorem after_any (hI:ItA w A n L) (hc:n≤c) (hcm:c≤maxLen) (o:Op) (ho:o.lim):Calls Tryz.prog 14 #[.slice A n c,vOp o] w (AfPost w L o):=by
 by_cases h0:dX L o=0
 ·
  have HF:=hid (fun (w1:World) (hb:Below w.heap.size w w1)=>Do_any (hI.go hb) hc hcm o ho)
  unfold DPost at HF
  unfold AfPost
  have hr:=dX_rgt h0
  have hV:VA w A n c L:=⟨hI,hc,hcm,hr⟩
  have hrt:=hV.rt
  have hrc:=dC_rc (o:=o) hrt
  have hDL:(dC L o).length≤1099511627776:=by
   have h1:=dC_len (L:=L) o
   have h2:=chC_len hV ho
   have h3:=hI.1
   have h4:=hI.2.1
   omega
  have e1:aft L o=app L (dC L o):=by unfold aft;rw [if_pos h0]
  have HAP:=hid (fun (w1:World) (hb:Below w.heap.size w w1) (A8:Option Addr) (m8 c8:Nat) (h8:m8=(dC L o).length) (hL8:Ls Sc.enc 3 w1 w1.heap.size A8 (dC L o))=>apply_any L (dC L o) A A8 n c m8 c8 w1.heap.size w1.heap.size (hI.go hb).1 hc hcm h8 (by have:=hI.2.1;omega) (by omega) w1 (Nat.le_refl _) (Nat.le_refl _) (hI.go hb).2.2 hL8)
  rw [hrt,hrc] at HAP
  rw [h0] at HF ⊢
  rw [if_pos rfl,if_pos rfl,if_pos rfl] at HF
  rw [e1]
  generalize app L (dC L o)=Y at *
  generalize dC L o=C at *
  generalize dT L o=d at *
  obtain⟨ds,di,⟨nK,nM,nL,nS,nT⟩,de⟩:=d
  obtain⟨oK,oP,oT,oM,oO,oN,oD⟩:=o
  try dsimp only at *
  clear ho hI hr hV h0 e1 hc hcm hDL hrt hrc
  have HN:=hid (two_new w #[.int .u8 oK,.string oP,.string oT,.int .u16 oM,.int .u32 oO,.int .u32 oN,.string oD] #[.string ⟨#[]⟩,.int .u32 0,.int .u8 0,.int .u16 0,.int .u32 0,.int .u32 0,.string ⟨#[]⟩,.slice none 0 0] 31 38)
  go_enter Tryz.func14,Tryz.ntmps14
  go_wp2_with fail
  try generalize ((w.alloc (.cells #[.int .u8 oK,.string oP,.string oT,.int .u16 oM,.int .u32 oO,.int .u32 oN,.string oD] 31)).alloc (.cells #[.string ⟨#[]⟩,.int .u32 0,.int .u8 0,.int .u16 0,.int .u32 0,.int .u32 0,.string ⟨#[]⟩,.slice none 0 0] 38))=w0 at *
  have Ro:=hid HN.out.1
  have Rz:=hid HN.out.2.1
  have B:=hid HN.out.2.2.1
  clear HN
  obtain⟨co0,co1,co2,co3,co4,co5,co6⟩:=cl7 Ro.out
  obtain⟨cz0,cz1,cz2,cz3,cz4,cz5,cz6,cz7⟩:=cl8 Rz.out
  refine (HF.out _ B.out).mono ?_
  rintro e w1 ⟨v,ev,rfl,hm0,hm⟩
  have hb:=hm.2
  have HM:=hid hm
  have HC:=hid hm0
  have BK:=hid B.out
  have GK:=hid Rz.out.lt
  obtain⟨A9,c9,hv9,_⟩:=hm.ls Di.encEn_len
  generalize de.length=m9 at hv9
  subst hv9
  obtain⟨A8,c8,hv8,_⟩:=hm0.ls Sc.enc_len
  generalize C.length=m8 at hv8
  subst hv8
  clear co0 co1 co2 co3 co4 co5 co6 cz0 cz1 cz2 cz3 cz4 cz5 cz6 cz7
  replace Ro:=gg Ro hb
  replace Rz:=gg Rz hb
  replace B:=gb B hb
  clear hm hm0
  obtain⟨co0,co1,co2,co3,co4,co5,co6⟩:=cl7 Ro.out
  obtain⟨cz0,cz1,cz2,cz3,cz4,cz5,cz6,cz7⟩:=cl8 Rz.out
  clear hb
  go_wp2_with (first
   | (refine new_row rfl 38 (.tmp 8) (.tmp 17) rfl rfl #[.string ds,.int .u32 di,.int .u8 nK,.int .u16 nM,.int .u32 nL,.int .u32 nS,.string nT,.slice A9 m9 c9] rfl rfl (by kernel_rfl) rfl (row8 _ _ _ _ _ _ _ _ _ _) ?_;intro w2 M;have Dd_z:=hid Rz.out.lt;clear co0 co1 co2 co3 co4 co5 co6 cz0 cz1 cz2 cz3 cz4 cz5 cz6 cz7;replace Ro:=gg Ro M.2.1;replace Rz:=gg Rz M.2.1;replace HM:=hid (HM.out.go M.2.1);replace HC:=hid (HC.out.go M.2.1);replace B:=gb B M.2.1;have Rd:=hid M.1;obtain⟨co0,co1,co2,co3,co4,co5,co6⟩:=cl7 Ro.out;obtain⟨cz0,cz1,cz2,cz3,cz4,cz5,cz6,cz7⟩:=cl8 Rz.out;obtain⟨cd0,cd1,cd2,cd3,cd4,cd5,cd6,cd7⟩:=cl8 Rd.out;clear M)
   | (go_at_call 25;refine (HAP.out _ B.out A8 m8 c8 (mk_sl Sc.enc_len HC.out).1 (mk_sl Sc.enc_len HC.out).2.2.2).mono ?_;rintro e w3 ⟨v2,rfl,hm⟩;have hb:=hm.2;have HY:=hid hm;have BY:=hid B.out;have GY:=hid Rz.out.lt;obtain⟨A7,c7,hv7,_⟩:=hm.ls It.enc_len;generalize hm7:List.length _=m7 at hv7;subst hv7;clear co0 co1 co2 co3 co4 co5 co6 cz0 cz1 cz2 cz3 cz4 cz5 cz6 cz7 cd0 cd1 cd2 cd3 cd4 cd5 cd6 cd7;replace Ro:=gg Ro hb;replace Rz:=gg Rz hb;replace Rd:=gg Rd hb;replace HM:=hid (HM.out.go hb);replace HC:=hid (HC.out.go hb);replace B:=gb B hb;clear hm hm7;have HY2:=hid HY.out;obtain⟨co0,co1,co2,co3,co4,co5,co6⟩:=cl7 Ro.out;obtain⟨cz0,cz1,cz2,cz3,cz4,cz5,cz6,cz7⟩:=cl8 Rz.out;obtain⟨cd0,cd1,cd2,cd3,cd4,cd5,cd6,cd7⟩:=cl8 Rd.out;clear hb))
  refine wp_region_X (Till 3 (fun (w':World)=>Below w3.heap.size w3 w')) (by kernel_rfl) ?_
  have hd:Below w3.heap.size w3 w3.drew:=(Below.refl _ _).drew
  generalize hW1:w3.drew=w4 at *
  have hS:=hd
  clear hW1
  have Qo:=hid (Ro.out)
  have Qz:=hid (Rz.out)
  have Qd:=hid (Rd.out)
  clear co0 co1 co2 co3 co4 co5 co6 cz0 cz1 cz2 cz3 cz4 cz5 cz6 cz7 cd0 cd1 cd2 cd3 cd4 cd5 cd6 cd7
  replace Ro:=gg Ro hd
  replace Rz:=gg Rz hd
  replace Rd:=gg Rd hd
  replace HM:=hid (HM.out.go hd)
  replace HY2:=hid (HY2.out.go hd)
  replace B:=gb B hd
  obtain⟨co0,co1,co2,co3,co4,co5,co6⟩:=cl7 Ro.out
  obtain⟨cz0,cz1,cz2,cz3,cz4,cz5,cz6,cz7⟩:=cl8 Rz.out
  obtain⟨cd0,cd1,cd2,cd3,cd4,cd5,cd6,cd7⟩:=cl8 Rd.out
  clear hd
  refine take_X 0 36 (.slice A7 m7 c7) rfl (by rfl) (by kernel_rfl) (by kernel_rfl) (by kernel_rfl) (by kernel_rfl) (fun _ _ _ h=>h) (Till.mono (by decide)) (Or.inl ⟨by rfl,fun w' hB=>by go_simp⟩) (fun _=>hS) ?_
  simp only [List.setIfInBounds_toArray,List.set_cons_zero,List.set_cons_succ]
  refine take_X 1 37 (.agg #[.string ds,.int .u32 di,.int .u8 nK,.int .u16 nM,.int .u32 nL,.int .u32 nS,.string nT,.slice A9 m9 c9]) rfl (by rfl) (by kernel_rfl) (by kernel_rfl) (by kernel_rfl) (by kernel_rfl) (fun _ _ _ h=>h) (Till.mono (by decide)) (Or.inl ⟨by rfl,fun w' hB=>by have hSw:=Till.bef hB (by kernel_rfl);exact load_all 38 (.tmp 8) rfl (w1.heap.size) rfl (Qd.out.go hSw) Tryz.underlying38 rfl (by kernel_rfl)⟩) (fun _=>hS) ?_
  simp only [List.setIfInBounds_toArray,List.set_cons_zero,List.set_cons_succ]
  refine take_X 2 4 (.slice A7 m7 c7) rfl (by rfl) (by kernel_rfl) (by kernel_rfl) (by kernel_rfl) (by kernel_rfl) (fun _ _ _ h=>h) (Till.mono (by decide)) (Or.inl ⟨by rfl,fun w' hB=>by go_simp⟩) (fun _=>hS) ?_
  simp only [List.setIfInBounds_toArray,List.set_cons_zero,List.set_cons_succ]
  refine only_X 3 rfl (by kernel_rfl) (by rfl) (fun K hK=>?_)
  refine wp_store_row 38 (.tmp 5) (.tmp 37) rfl (w.heap.size+1) #[.string ds,.int .u32 di,.int .u8 nK,.int .u16 nM,.int .u32 nL,.int .u32 nS,.string nT,.slice A9 m9 c9] rfl rfl 38 #[.string ⟨#[]⟩,.int .u32 0,.int .u8 0,.int .u16 0,.int .u32 0,.int .u32 0,.string ⟨#[]⟩,.slice none 0 0] Rz.out (by kernel_rfl) rfl (row8 _ _ _ _ _ _ _ _ _ _) ?_
  clear co0 co1 co2 co3 co4 co5 co6 cz0 cz1 cz2 cz3 cz4 cz5 cz6 cz7 cd0 cd1 cd2 cd3 cd4 cd5 cd6 cd7
  replace HM:=hid (mk_row (g:=w.heap.size+1) (cs:=#[.string ds,.int .u32 di,.int .u8 nK,.int .u16 nM,.int .u32 nL,.int .u32 nS,.string nT,.slice A9 m9 c9]) HM.out BK.out (by omega) GK.out)
  replace HY2:=hid (mk_row (g:=w.heap.size+1) (cs:=#[.string ds,.int .u32 di,.int .u8 nK,.int .u16 nM,.int .u32 nL,.int .u32 nS,.string nT,.slice A9 m9 c9]) HY2.out BY.out (by omega) GY.out)
  replace B:=hid (below_setRow B.out (g:=w.heap.size+1) (by omega) #[.string ds,.int .u32 di,.int .u8 nK,.int .u16 nM,.int .u32 nL,.int .u32 nS,.string nT,.slice A9 m9 c9])
  replace Ro:=hid (Ro.out.keep (g':=w.heap.size+1) (old:=#[.string ds,.int .u32 di,.int .u8 nK,.int .u16 nM,.int .u32 nL,.int .u32 nS,.string nT,.slice A9 m9 c9]) (by omega))
  replace Rd:=hid (Rd.out.keep (g':=w.heap.size+1) (old:=#[.string ds,.int .u32 di,.int .u8 nK,.int .u16 nM,.int .u32 nL,.int .u32 nS,.string nT,.slice A9 m9 c9]) (Nat.ne_of_gt Dd_z.out))
  replace Rz:=hid (Rz.out.set (cs:=#[.string ds,.int .u32 di,.int .u8 nK,.int .u16 nM,.int .u32 nL,.int .u32 nS,.string nT,.slice A9 m9 c9]))
  refine hK.out _ _ (fun h=>absurd h (by decide)) ?_
  clear hK K
  try simp only [Act.put,List.setIfInBounds_toArray,List.set_cons_zero,List.set_cons_succ]
  generalize w4.setRow (w.heap.size+1) #[.string ds,.int .u32 di,.int .u8 nK,.int .u16 nM,.int .u32 nL,.int .u32 nS,.string nT,.slice A9 m9 c9]=w5 at *
  obtain⟨co0,co1,co2,co3,co4,co5,co6⟩:=cl7 Ro.out
  obtain⟨cz0,cz1,cz2,cz3,cz4,cz5,cz6,cz7⟩:=cl8 Rz.out
  obtain⟨cd0,cd1,cd2,cd3,cd4,cd5,cd6,cd7⟩:=cl8 Rd.out
  refine take_X 4 6 (.int .i64 0) rfl (by rfl) (by kernel_rfl) (by kernel_rfl) (by kernel_rfl) (by kernel_rfl) (fun _ _ _ h=>h) (Till.mono (by decide)) (Or.inl ⟨by rfl,fun w' hB=>by go_simp⟩) (fun h=>absurd h (by decide)) ?_
  simp only [List.setIfInBounds_toArray,List.set_cons_zero,List.set_cons_succ]
  refine done_X (by kernel_rfl) ?_ _
  clear hS Qo Qz Qd
  go_wp2
  refine bodyPost_ret (v:=.tuple #[.slice A7 m7 c7,.agg #[.string ds,.int .u32 di,.int .u8 nK,.int .u16 nM,.int .u32 nL,.int .u32 nS,.string nT,.slice A9 m9 c9],.int .i64 0]) (results_row3 rfl _ _ (w.heap.size+1) 38 #[.string ds,.int .u32 di,.int .u8 nK,.int .u16 nM,.int .u32 nL,.int .u32 nS,.string nT,.slice A9 m9 c9] (0,0) _ _ _ rfl rfl rfl Rz.out Tryz.underlying38 rfl (by kernel_rfl)) rfl ?_
  exact⟨A7,m7,c7,.slice A9 m9 c9,rfl,(mk_sl It.enc_len HY2.out).1,(mk_sl It.enc_len HY2.out).2.1,(mk_sl It.enc_len HY2.out).2.2.1,(mk_sl It.enc_len HY2.out).2.2.2,HM.out,B.out⟩
 ·
  have HF:=hid (fun (w1:World) (hb:Below w.heap.size w w1)=>Do_any (hI.go hb) hc hcm o ho)
  unfold DPost at HF
  unfold AfPost
  have e1:aft L o=L:=by unfold aft;rw [if_neg h0]
  have e2:=dT_no h0
  have e3:=dC_no h0
  have HAP:=hid (fun (w1:World) (hb:Below w.heap.size w w1) (A8:Option Addr) (c8:Nat)=>apply_any L [] A A8 n c 0 c8 w1.heap.size w1.heap.size (hI.go hb).1 hc hcm rfl (by have:=hI.2.1;omega) (by omega) w1 (Nat.le_refl _) (Nat.le_refl _) (hI.go hb).2.2 Ls.nil)
  have HI:=hid (fun (w1:World) (hb:Below w.heap.size w w1)=>(hI.go hb))
  have HCC:=hid (show n≤c∧c≤maxLen from⟨hc,hcm⟩)
  rw [if_neg h0,if_neg h0,if_neg h0] at HF
  rw [e1,e2]
  generalize er (rt L&&rc [])=y at *
  have HE:=hid h0
  have e5:=ne0 h0
  generalize dX L o=x at *
  obtain⟨oK,oP,oT,oM,oO,oN,oD⟩:=o
  try dsimp only at *
  clear ho hI hc hcm h0 e1 e2 e3
  have HN:=hid (two_new w #[.int .u8 oK,.string oP,.string oT,.int .u16 oM,.int .u32 oO,.int .u32 oN,.string oD] #[.string ⟨#[]⟩,.int .u32 0,.int .u8 0,.int .u16 0,.int .u32 0,.int .u32 0,.string ⟨#[]⟩,.slice none 0 0] 31 38)
  go_enter Tryz.func14,Tryz.ntmps14
  go_wp2_with fail
  try generalize ((w.alloc (.cells #[.int .u8 oK,.string oP,.string oT,.int .u16 oM,.int .u32 oO,.int .u32 oN,.string oD] 31)).alloc (.cells #[.string ⟨#[]⟩,.int .u32 0,.int .u8 0,.int .u16 0,.int .u32 0,.int .u32 0,.string ⟨#[]⟩,.slice none 0 0] 38))=w0 at *
  have Ro:=hid HN.out.1
  have Rz:=hid HN.out.2.1
  have B:=hid HN.out.2.2.1
  clear HN
  obtain⟨co0,co1,co2,co3,co4,co5,co6⟩:=cl7 Ro.out
  obtain⟨cz0,cz1,cz2,cz3,cz4,cz5,cz6,cz7⟩:=cl8 Rz.out
  refine (HF.out _ B.out).mono ?_
  rintro e w1 ⟨v,ev,rfl,hm0,hm⟩
  have hb:=hm.2
  have HM:=hid hm
  have HC:=hid hm0
  have BK:=hid B.out
  have GK:=hid Rz.out.lt
  obtain⟨A9,c9,hv9,_⟩:=hm.ls Di.encEn_len
  subst hv9
  obtain⟨A8,c8,hv8,_⟩:=hm0.ls Sc.enc_len
  subst hv8
  clear co0 co1 co2 co3 co4 co5 co6 cz0 cz1 cz2 cz3 cz4 cz5 cz6 cz7
  replace Ro:=gg Ro hb
  replace Rz:=gg Rz hb
  replace B:=gb B hb
  clear hm hm0
  obtain⟨co0,co1,co2,co3,co4,co5,co6⟩:=cl7 Ro.out
  obtain⟨cz0,cz1,cz2,cz3,cz4,cz5,cz6,cz7⟩:=cl8 Rz.out
  clear hb
  go_wp2_with (first
   | (refine new_row rfl 38 (.tmp 8) (.tmp 17) rfl rfl #[.string ⟨#[]⟩,.int .u32 0,.int .u8 0,.int .u16 0,.int .u32 0,.int .u32 0,.string ⟨#[]⟩,.slice A9 0 c9] rfl rfl (by kernel_rfl) rfl (row8 _ _ _ _ _ _ _ _ _ _) ?_;intro w2 M;have Dd_z:=hid Rz.out.lt;clear co0 co1 co2 co3 co4 co5 co6 cz0 cz1 cz2 cz3 cz4 cz5 cz6 cz7;replace Ro:=gg Ro M.2.1;replace Rz:=gg Rz M.2.1;replace HM:=hid (HM.out.go M.2.1);replace B:=gb B M.2.1;have Rd:=hid M.1;obtain⟨co0,co1,co2,co3,co4,co5,co6⟩:=cl7 Ro.out;obtain⟨cz0,cz1,cz2,cz3,cz4,cz5,cz6,cz7⟩:=cl8 Rz.out;obtain⟨cd0,cd1,cd2,cd3,cd4,cd5,cd6,cd7⟩:=cl8 Rd.out;clear M)
   | (go_at_call 25;refine (HAP.out _ B.out A8 c8).mono ?_;rintro e w3 ⟨v2,rfl,hm⟩;have hb:=hm.2;clear co0 co1 co2 co3 co4 co5 co6 cz0 cz1 cz2 cz3 cz4 cz5 cz6 cz7 cd0 cd1 cd2 cd3 cd4 cd5 cd6 cd7;replace Ro:=gg Ro hb;replace Rz:=gg Rz hb;replace Rd:=gg Rd hb;replace HM:=hid (HM.out.go hb);replace B:=gb B hb;clear hm;obtain⟨co0,co1,co2,co3,co4,co5,co6⟩:=cl7 Ro.out;obtain⟨cz0,cz1,cz2,cz3,cz4,cz5,cz6,cz7⟩:=cl8 Rz.out;obtain⟨cd0,cd1,cd2,cd3,cd4,cd5,cd6,cd7⟩:=cl8 Rd.out;clear hb))
  refine wp_region_X (Till 4 (fun (w':World)=>Below w3.heap.size w3 w')) (by kernel_rfl) ?_
  have hd:Below w3.heap.size w3 w3.drew:=(Below.refl _ _).drew
  generalize hW1:w3.drew=w4 at *
  have hS:=hd
  clear hW1
  have Qo:=hid (Ro.out)
  have Qz:=hid (Rz.out)
  have Qd:=hid (Rd.out)
  clear co0 co1 co2 co3 co4 co5 co6 cz0 cz1 cz2 cz3 cz4 cz5 cz6 cz7 cd0 cd1 cd2 cd3 cd4 cd5 cd6 cd7
  replace Ro:=gg Ro hd
  replace Rz:=gg Rz hd
  replace Rd:=gg Rd hd
  replace HM:=hid (HM.out.go hd)
  replace B:=gb B hd
  obtain⟨co0,co1,co2,co3,co4,co5,co6⟩:=cl7 Ro.out
  obtain⟨cz0,cz1,cz2,cz3,cz4,cz5,cz6,cz7⟩:=cl8 Rz.out
  obtain⟨cd0,cd1,cd2,cd3,cd4,cd5,cd6,cd7⟩:=cl8 Rd.out
  clear hd
  refine take_X 0 33 (.slice A n c) rfl (by rfl) (by kernel_rfl) (by kernel_rfl) (by kernel_rfl) (by kernel_rfl) (fun _ _ _ h=>h) (Till.mono (by decide)) (Or.inl ⟨by rfl,fun w' hB=>by go_simp⟩) (fun _=>hS) ?_
  simp only [List.setIfInBounds_toArray,List.set_cons_zero,List.set_cons_succ]
  refine take_X 1 34 (.agg #[.string ⟨#[]⟩,.int .u32 0,.int .u8 0,.int .u16 0,.int .u32 0,.int .u32 0,.string ⟨#[]⟩,.slice A9 0 c9]) rfl (by rfl) (by kernel_rfl) (by kernel_rfl) (by kernel_rfl) (by kernel_rfl) (fun _ _ _ h=>h) (Till.mono (by decide)) (Or.inl ⟨by rfl,fun w' hB=>by have hSw:=Till.bef hB (by kernel_rfl);exact load_all 38 (.tmp 8) rfl (w1.heap.size) rfl (Qd.out.go hSw) Tryz.underlying38 rfl (by kernel_rfl)⟩) (fun _=>hS) ?_
  simp only [List.setIfInBounds_toArray,List.set_cons_zero,List.set_cons_succ]
  refine take_X 2 35 (.int .i64 x) rfl (by rfl) (by kernel_rfl) (by kernel_rfl) (by kernel_rfl) (by kernel_rfl) (fun _ _ _ h=>h) (Till.mono (by decide)) (Or.inl ⟨by rfl,fun w' hB=>by go_simp⟩) (fun _=>hS) ?_
  simp only [List.setIfInBounds_toArray,List.set_cons_zero,List.set_cons_succ]
  refine take_X 3 4 (.slice A n c) rfl (by rfl) (by kernel_rfl) (by kernel_rfl) (by kernel_rfl) (by kernel_rfl) (fun _ _ _ h=>h) (Till.mono (by decide)) (Or.inl ⟨by rfl,fun w' hB=>by go_simp⟩) (fun _=>hS) ?_
  simp only [List.setIfInBounds_toArray,List.set_cons_zero,List.set_cons_succ]
  refine only_X 4 rfl (by kernel_rfl) (by rfl) (fun K hK=>?_)
  refine wp_store_row 38 (.tmp 5) (.tmp 34) rfl (w.heap.size+1) #[.string ⟨#[]⟩,.int .u32 0,.int .u8 0,.int .u16 0,.int .u32 0,.int .u32 0,.string ⟨#[]⟩,.slice A9 0 c9] rfl rfl 38 #[.string ⟨#[]⟩,.int .u32 0,.int .u8 0,.int .u16 0,.int .u32 0,.int .u32 0,.string ⟨#[]⟩,.slice none 0 0] Rz.out (by kernel_rfl) rfl (row8 _ _ _ _ _ _ _ _ _ _) ?_
  clear co0 co1 co2 co3 co4 co5 co6 cz0 cz1 cz2 cz3 cz4 cz5 cz6 cz7 cd0 cd1 cd2 cd3 cd4 cd5 cd6 cd7
  replace HM:=hid (mk_row (g:=w.heap.size+1) (cs:=#[.string ⟨#[]⟩,.int .u32 0,.int .u8 0,.int .u16 0,.int .u32 0,.int .u32 0,.string ⟨#[]⟩,.slice A9 0 c9]) HM.out BK.out (by omega) GK.out)
  replace B:=hid (below_setRow B.out (g:=w.heap.size+1) (by omega) #[.string ⟨#[]⟩,.int .u32 0,.int .u8 0,.int .u16 0,.int .u32 0,.int .u32 0,.string ⟨#[]⟩,.slice A9 0 c9])
  replace Ro:=hid (Ro.out.keep (g':=w.heap.size+1) (old:=#[.string ⟨#[]⟩,.int .u32 0,.int .u8 0,.int .u16 0,.int .u32 0,.int .u32 0,.string ⟨#[]⟩,.slice A9 0 c9]) (by omega))
  replace Rd:=hid (Rd.out.keep (g':=w.heap.size+1) (old:=#[.string ⟨#[]⟩,.int .u32 0,.int .u8 0,.int .u16 0,.int .u32 0,.int .u32 0,.string ⟨#[]⟩,.slice A9 0 c9]) (Nat.ne_of_gt Dd_z.out))
  replace Rz:=hid (Rz.out.set (cs:=#[.string ⟨#[]⟩,.int .u32 0,.int .u8 0,.int .u16 0,.int .u32 0,.int .u32 0,.string ⟨#[]⟩,.slice A9 0 c9]))
  refine hK.out _ _ (fun h=>absurd h (by decide)) ?_
  clear hK K
  try simp only [Act.put,List.setIfInBounds_toArray,List.set_cons_zero,List.set_cons_succ]
  generalize w4.setRow (w.heap.size+1) #[.string ⟨#[]⟩,.int .u32 0,.int .u8 0,.int .u16 0,.int .u32 0,.int .u32 0,.string ⟨#[]⟩,.slice A9 0 c9]=w5 at *
  obtain⟨co0,co1,co2,co3,co4,co5,co6⟩:=cl7 Ro.out
  obtain⟨cz0,cz1,cz2,cz3,cz4,cz5,cz6,cz7⟩:=cl8 Rz.out
  obtain⟨cd0,cd1,cd2,cd3,cd4,cd5,cd6,cd7⟩:=cl8 Rd.out
  refine take_X 5 6 (.int .i64 x) rfl (by rfl) (by kernel_rfl) (by kernel_rfl) (by kernel_rfl) (by kernel_rfl) (fun _ _ _ h=>h) (Till.mono (by decide)) (Or.inl ⟨by rfl,fun w' hB=>by go_simp⟩) (fun h=>absurd h (by decide)) ?_
  simp only [List.setIfInBounds_toArray,List.set_cons_zero,List.set_cons_succ]
  refine done_X (by kernel_rfl) ?_ _
  clear hS Qo Qz Qd
  go_wp2
  refine bodyPost_ret (v:=.tuple #[.slice A n c,.agg #[.string ⟨#[]⟩,.int .u32 0,.int .u8 0,.int .u16 0,.int .u32 0,.int .u32 0,.string ⟨#[]⟩,.slice A9 0 c9],.int .i64 x]) (results_row3 rfl _ _ (w.heap.size+1) 38 #[.string ⟨#[]⟩,.int .u32 0,.int .u8 0,.int .u16 0,.int .u32 0,.int .u32 0,.string ⟨#[]⟩,.slice A9 0 c9] (0,0) _ _ _ rfl rfl rfl Rz.out Tryz.underlying38 rfl (by kernel_rfl)) rfl ?_
  exact⟨A,n,c,.slice A9 0 c9,rfl,(HI.out _ B.out).1,HCC.out.1,HCC.out.2,(HI.out _ B.out).2.2,HM.out,B.out⟩
end Go.Proofs.YtopepebcnaikiaaGreatDoor.Fi
namespace Go.Proofs.YtopepebcnaikiaaGreatDoor.Di
open Lib (hid)
set_option linter.unusedVariables false
set_option linter.unusedSimpArgs false
set_option maxRecDepth 100000
open Go.ChangeShapes Go.WideShapes Go.ChangeAt Go.RowKit
open BigFrame
open Ar Rg
open Ino
open It (Itm)
open Ph (en1 en1_len spX spB)
variable {w w' wr:World}{g bi be bn ba bu N M bb:Nat}{s:Vo}
theorem root_pt:ptOf rootI=⟨kR,wrI nR⟩:=by
 unfold ptOf rootI
 dsimp only
 rw [(deK_back kR_lim kR_ok).1]
def L0:List Itm:=[rootI]
theorem pts0:pts L0=[⟨kR,wrI nR⟩]:=by
 unfold pts L0
 rw [List.map_cons,List.map_nil,root_pt]
theorem vo_0:vo (pts L0)=takeI vo0 ⟨kR,wrI nR⟩:=by
 rw [pts0]
 show takeP vo0 ⟨kR,wrI nR⟩=_
 exact if_pos (show (⟨kR,wrI nR⟩:Pt).k.K=1 from rfl)
theorem ino_0 (i:Nat):(vo (pts L0)).ino i=if i=1 then some nR else none:=by
 rw [vo_0]
 show (if i=kR.I then some (deI (wrI nR)) else none)=_
 rw [(deI_back nR_lim nR_ok).1]
 rfl
theorem kind_0:kind (vo (pts L0)) 1=1:=by
 unfold kind
 rw [ino_0,if_pos rfl]
 rfl
theorem rgt_0:rgt L0=true:=by
 have hs:(wrK kR).size=5:=by
  have h:=wrK_pfx kR_ok
  rw [h.1,ByteArray.size_append,(pfx_ok kR_ok).2]
  rfl
 have hv:(wrI nR).size=13:=by rw [wrI_size nR (by decide)];rfl
 refine rgt_iff.2 ⟨?_,?_,kind_0,?_,?_⟩
 ·show It.rtFrom none [rootI]=true
  simp only [It.rtFrom,Bool.and_true]
  unfold It.okI It.okKey rootI
  dsimp only
  rw [hs,hv]
  decide
 ·intro x hx
  obtain rfl:x=rootI:=by simpa [L0] using hx
  unfold okX
  rw [root_pt]
  have h1:deKE rootI.k=0:=(deK_back kR_lim kR_ok).2
  rw [h1]
  unfold okP
  rw [if_pos (show (⟨kR,wrI nR⟩:Pt).k.K=1 from rfl)]
  dsimp only
  rw [(deI_back nR_lim nR_ok).2]
  rfl
 ·intro p hp
  rw [pts0] at hp
  obtain rfl:p=⟨kR,wrI nR⟩:=by simpa using hp
  unfold stray
  dsimp only
  rw [ino_0,if_pos (show kR.I=1 from rfl)]
  rfl
 ·intro i n hn hk
  rw [ino_0] at hn
  split at hn
  ·rename_i h;rw [h];exact Up.one _
  ·cases hn
end Go.Proofs.YtopepebcnaikiaaGreatDoor.Di
namespace Go.Proofs.YtopepebcnaikiaaGreatDoor.Fi
open Lib (hid)
set_option linter.unusedVariables false
set_option linter.unusedSimpArgs false
set_option maxRecDepth 100000
open Ino
open It (Itm Ch get und app dif rt rc rt_up)
open Di (wlk wkL rgt rgt_iff numOf Vo vo pts lsX lsL up En Up AllUp Nx okX stray kind L0 rgt_0 gtE gtI lsE snocRec ptOf)
open Ph (nb spX spB laX laD laN)
variable {L:List Itm}
def upsB (L:List Itm):Bool:=(pts L).all fun p=>!decide (p.k.K=1)||(!decide ((deI p.v).K=1)||(List.range 4).any fun k=>decide (up (vo (pts L)) k p.k.I=1))
theorem ups_of (h:upsB L=true):AllUp (vo (pts L)):=by
 intro i n hn hk
 obtain⟨p,hp,h1,h2,h3⟩:=Di.ino_of _ hn
 have:=List.all_eq_true.1 h p hp
 rw [← h3,decide_eq_true h1,decide_eq_true hk] at this
 simp only [Bool.not_true,Bool.false_or] at this
 obtain⟨k,_,h4⟩:=List.any_eq_true.1 this
 rw [h2] at h4
 exact⟨k,of_decide_eq_true h4⟩
theorem rgt_of (h:rt L=true) (h1:L.all okX=true) (h2:kind (vo (pts L)) 1=1) (h3:(pts L).any (stray (vo (pts L)))=false) (h4:upsB L=true):rgt L=true :=
 rgt_iff.2 ⟨h,fun x hx=>List.all_eq_true.1 h1 x hx,h2,fun p hp=>(by
  cases e:stray (vo (pts L)) p with
  | false=>rfl
  | true=>exact absurd (List.any_eq_true.2 ⟨p,hp,e⟩) (by rw [h3];decide)),ups_of h4⟩
theorem wlk_C (h:rgt L=true) (fo:Bool) (D:List ByteArray):wlk L fo D=wkL (vo (pts L)) fo 8 1 D:=by unfold wlk;rw [h,if_pos rfl]
theorem dX_ch (h:rgt L=true){o:Op}(ht:¬ tells o):dX L o=chX L o:=by unfold dX;rw [h,if_pos rfl,if_neg ht]
theorem dX_td (h:rgt L=true){o:Op}(ht:tells o):dX L o=tdX L o:=by unfold dX;rw [h,if_pos rfl,if_pos ht]
theorem dT_td {o:Op}(ht:tells o) (h0:dX L o=0):dT L o=tdT L o:=by unfold dT;rw [if_pos h0,if_pos ht]
theorem app_apC (h:rt L=true) (C:List Ch) (hc:rc C=true):app L (apC L C)=app L C:=by
 unfold apC
 rw [if_pos hc]
 exact It.app_dif (rt_up h).1 (rt_up (It.rt_app h hc)).1
theorem aft_ch (h:rgt L=true){o:Op}(ht:¬ tells o) (h0:dX L o=0) (hc:rc (chC L o)=true):aft L o=app L (chC L o):=by
 unfold aft dC
 rw [if_pos h0,if_pos h0,if_neg ht,app_apC (rgt_iff.1 h).rt _ hc]
theorem aft_td (h:rgt L=true){o:Op}(ht:tells o):aft L o=L:=by
 unfold aft dC
 split
 ·first
   | (rw [if_pos ht,app_apC (rgt_iff.1 h).rt [] rfl];rfl)
   | (rw [app_apC (rgt_iff.1 h).rt [] rfl];rfl)
 ·rfl
theorem aft_no {o:Op}(h0:dX L o≠0):aft L o=L:=by unfold aft;rw [if_neg h0]
def pA:ByteArray:=⟨#[47,97]⟩
def pAB:ByteArray:=⟨#[47,97,47,98]⟩
def pC:ByteArray:=⟨#[47,99]⟩
def pCB:ByteArray:=⟨#[47,99,47,98]⟩
def pR:ByteArray:=⟨#[47]⟩
def nE:ByteArray:=⟨#[]⟩
def o1:Op:=⟨2,pA,nE,0,0,0,nE⟩
def o2:Op:=⟨1,pAB,nE,5,0,0,nE⟩
def o3:Op:=⟨6,pAB,nE,0,2,0,⟨#[120]⟩⟩
def o4:Op:=⟨8,pA,pC,0,0,0,nE⟩
def q1:Op:=⟨5,pCB,nE,0,0,9,nE⟩
def q2:Op:=⟨11,pCB,nE,0,0,0,nE⟩
def q3:Op:=⟨10,pC,nE,0,0,0,nE⟩
def q4:Op:=⟨12,pR,nE,0,0,0,nE⟩
def iD:ByteArray:=⟨#[1,0,0,0,0,0,1,0,0,0,0,0,0]⟩
def kN (i:UInt8):ByteArray:=⟨#[105,0,0,0,i]⟩
def T1:List Itm:=[⟨⟨#[100,0,0,0,1,97]⟩,⟨#[0,0,0,2]⟩⟩,⟨kN 1,iD⟩,⟨kN 2,iD⟩]
def T2:List Itm:=[⟨⟨#[100,0,0,0,1,97]⟩,⟨#[0,0,0,2]⟩⟩,⟨⟨#[100,0,0,0,2,98]⟩,⟨#[0,0,0,3]⟩⟩,⟨kN 1,iD⟩,⟨kN 2,iD⟩,⟨kN 3,⟨#[2,0,5,0,0,0,1,0,0,0,0,0,0]⟩⟩]
def T3:List Itm:=[⟨⟨#[99,0,0,0,3,0,0,0,0]⟩,⟨#[0,0,120]⟩⟩,⟨⟨#[100,0,0,0,1,97]⟩,⟨#[0,0,0,2]⟩⟩,⟨⟨#[100,0,0,0,2,98]⟩,⟨#[0,0,0,3]⟩⟩,⟨kN 1,iD⟩,⟨kN 2,iD⟩,⟨kN 3,⟨#[2,0,5,0,0,0,1,0,0,0,3,0,0]⟩⟩]
def T4:List Itm:=[⟨⟨#[99,0,0,0,3,0,0,0,0]⟩,⟨#[0,0,120]⟩⟩,⟨⟨#[100,0,0,0,1,99]⟩,⟨#[0,0,0,2]⟩⟩,⟨⟨#[100,0,0,0,2,98]⟩,⟨#[0,0,0,3]⟩⟩,⟨kN 1,iD⟩,⟨kN 2,iD⟩,⟨kN 3,⟨#[2,0,5,0,0,0,1,0,0,0,3,0,0]⟩⟩]
theorem r1:rgt T1=true:=rgt_of (by kernel_rfl) (by kernel_rfl) (by kernel_rfl) (by kernel_rfl) (by kernel_rfl)
theorem r2:rgt T2=true:=rgt_of (by kernel_rfl) (by kernel_rfl) (by kernel_rfl) (by kernel_rfl) (by kernel_rfl)
theorem r3:rgt T3=true:=rgt_of (by kernel_rfl) (by kernel_rfl) (by kernel_rfl) (by kernel_rfl) (by kernel_rfl)
theorem r4:rgt T4=true:=rgt_of (by kernel_rfl) (by kernel_rfl) (by kernel_rfl) (by kernel_rfl) (by kernel_rfl)
theorem x0:nxt L0=2:=nxt_of ⟨by decide,by decide,by kernel_rfl,fun k h1 h2=>absurd h2 (by omega)⟩
theorem x1:nxt T1=3:=nxt_of ⟨by decide,by decide,by kernel_rfl,fun k h1 h2=>by
 obtain rfl:k=2:=by omega
 kernel_rfl⟩
theorem n1:¬ tells o1:=by decide
theorem n2:¬ tells o2:=by decide
theorem n3:¬ tells o3:=by decide
theorem n4:¬ tells o4:=by decide
theorem c1:chX L0 o1=0:=by
 show crX L0 pA ⟨1,0,1,0,ByteArray.empty⟩=0
 unfold crX frX plX pl pl0
 unfold plX
 simp only [wlk_C rgt_0]
 kernel_rfl
theorem a1:chC L0 o1=[⟨kN 2,true,iD⟩,⟨⟨#[100,0,0,0,1,97]⟩,true,⟨#[0,0,0,2]⟩⟩]:=by
 show crC L0 pA ⟨1,0,1,0,ByteArray.empty⟩=_
 unfold crC pl pl0 plX
 rw [x0]
 simp only [wlk_C rgt_0]
 kernel_rfl
theorem f1:dX L0 o1=0∧aft L0 o1=T1:=by
 have h:=(dX_ch rgt_0 n1).trans c1
 refine⟨h,?_⟩
 rw [aft_ch rgt_0 n1 h (by rw [a1];kernel_rfl),a1]
 kernel_rfl
theorem c2:chX T1 o2=0:=by
 show crX T1 pAB ⟨2,5,1,0,ByteArray.empty⟩=0
 unfold crX frX plX pl pl0
 unfold plX
 simp only [wlk_C r1]
 kernel_rfl
theorem a2:chC T1 o2=[⟨kN 3,true,⟨#[2,0,5,0,0,0,1,0,0,0,0,0,0]⟩⟩,⟨⟨#[100,0,0,0,2,98]⟩,true,⟨#[0,0,0,3]⟩⟩]:=by
 show crC T1 pAB ⟨2,5,1,0,ByteArray.empty⟩=_
 unfold crC pl pl0 plX
 rw [x1]
 simp only [wlk_C r1]
 kernel_rfl
theorem f2:dX T1 o2=0∧aft T1 o2=T2:=by
 have h:=(dX_ch r1 n2).trans c2
 refine⟨h,?_⟩
 rw [aft_ch r1 n2 h (by rw [a2];kernel_rfl),a2]
 kernel_rfl
theorem c3:chX T2 o3=0:=by
 show wtX T2 o3=0
 unfold wtX fnX ldI ldN ldX
 unfold ldI ldX
 simp only [wlk_C r2]
 kernel_rfl
theorem a3:chC T2 o3=[⟨⟨#[99,0,0,0,3,0,0,0,0]⟩,true,⟨#[0,0,120]⟩⟩,⟨kN 3,true,⟨#[2,0,5,0,0,0,1,0,0,0,3,0,0]⟩⟩]:=by
 show wtC T2 o3=_
 unfold wtC wtS ldI ldN ldX
 unfold ldI ldX
 simp only [wlk_C r2]
 kernel_rfl
theorem f3:dX T2 o3=0∧aft T2 o3=T3:=by
 have h:=(dX_ch r2 n3).trans c3
 refine⟨h,?_⟩
 rw [aft_ch r2 n3 h (by rw [a3];kernel_rfl),a3]
 kernel_rfl
theorem u3:undr T3 1 2=false:=undr_no (k:=0) rfl (by decide) (fun j hj=>absurd hj (by omega))
theorem p3:pl T3 pA=⟨1,⟨#[100,0,0,0,1,97]⟩,2⟩∧pl T3 pC=⟨1,⟨#[100,0,0,0,1,99]⟩,0⟩:=by
 unfold pl pl0 plX
 simp only [wlk_C r3]
 exact⟨by kernel_rfl,by kernel_rfl⟩
theorem p3x:nmX T3 pA=0∧plX T3 pC=0:=by
 unfold nmX
 rw [p3.1]
 unfold plX
 simp only [wlk_C r3]
 exact⟨by kernel_rfl,by kernel_rfl⟩
theorem c4:chX T3 o4=0:=by
 show rnX T3 o4=0
 unfold rnX
 show (if nmX T3 pA≠0 then nmX T3 pA else if plX T3 pC≠0 then plX T3 pC else if undr T3 (pl T3 pC).d (pl T3 pA).i=true then 7 else if (pl T3 pC).i=(pl T3 pA).i then 0 else if (pl T3 pC).i=0 then 0 else rpX T3 (pl T3 pA).i (pl T3 pC).i)=0
 rw [p3x.1,p3x.2,p3.1,p3.2]
 show (if (0:Int)≠0 then _ else if (0:Int)≠0 then _ else if undr T3 1 2=true then 7 else _)=(0:Int)
 rw [u3]
 kernel_rfl
theorem a4:chC T3 o4=[⟨⟨#[100,0,0,0,1,97]⟩,false,nE⟩,⟨⟨#[100,0,0,0,1,99]⟩,true,⟨#[0,0,0,2]⟩⟩]:=by
 show rnC T3 o4=_
 unfold rnC
 show (if (pl T3 pC).i=(pl T3 pA).i then [] else (if (pl T3 pC).i=0 then [] else letGo T3 (pl T3 pC))++[isFree (pl T3 pA),names (pl T3 pC) (pl T3 pA).i])=_
 rw [p3.1,p3.2]
 kernel_rfl
theorem f4:dX T3 o4=0∧aft T3 o4=T4:=by
 have h:=(dX_ch r3 n4).trans c4
 refine⟨h,?_⟩
 rw [aft_ch r3 n4 h (by rw [a4];kernel_rfl),a4]
 kernel_rfl
theorem m1:tells q1:=by decide
theorem m2:tells q2:=by decide
theorem m3:¬ tells q3:=by decide
theorem m4:tells q4:=by decide
theorem g1:dX T4 q1=0∧dT T4 q1={ zTd with s:=⟨#[0,0,120]⟩ }:=by
 have h:dX T4 q1=0:=by
  rw [dX_td r4 m1]
  show reX T4 q1=0
  unfold reX fnX ldI ldN ldX
  unfold ldI ldX
  simp only [wlk_C r4]
  kernel_rfl
 refine⟨h,?_⟩
 rw [dT_td m1 h]
 show reT T4 q1=_
 unfold reT ldI ldN ldX
 unfold ldI ldX
 simp only [wlk_C r4]
 kernel_rfl
theorem g2:dX T4 q2=0∧dT T4 q2={ zTd with i:=3,n:=⟨2,5,1,3,ByteArray.empty⟩ }:=by
 have h:dX T4 q2=0:=by
  rw [dX_td r4 m2]
  show ldX T4 pCB true=0
  unfold ldX
  simp only [wlk_C r4]
  kernel_rfl
 refine⟨h,?_⟩
 rw [dT_td m2 h]
 show stT T4 q2=_
 unfold stT ldI ldN ldX
 unfold ldI ldX
 simp only [wlk_C r4]
 kernel_rfl
theorem g3:dX T4 q3=13:=by
 rw [dX_ch r4 m3]
 show rmX T4 q3=13
 unfold rmX nmX pl pl0 plX
 simp only [wlk_C r4]
 kernel_rfl
theorem ls4:lsX T4 1=0∧lsL T4 1=[⟨⟨#[99]⟩,2,1⟩]:=by
 have h:lsX T4 1=0:=by
  unfold lsX gtE gtI
  rw [r4]
  kernel_rfl
 refine⟨h,?_⟩
 unfold lsL
 rw [h,if_pos rfl]
 kernel_rfl
theorem l4:ldX T4 pR true=0∧ldI T4 pR true=1:=by
 unfold ldI ldX
 simp only [wlk_C r4]
 exact⟨by kernel_rfl,by kernel_rfl⟩
theorem g4:dX T4 q4=0∧dT T4 q4={ zTd with e:=[⟨⟨#[99]⟩,2,1⟩] }:=by
 have h:dX T4 q4=0:=by
  rw [dX_td r4 m4]
  show liX T4 q4=0
  unfold liX
  show (if ldX T4 pR true≠0 then ldX T4 pR true else lsX T4 (ldI T4 pR true))=0
  rw [l4.1,l4.2,ls4.1]
  rfl
 refine⟨h,?_⟩
 rw [dT_td m4 h]
 show liT T4 q4=_
 unfold liT
 show ({ zTd with e:=lsL T4 (ldI T4 pR true) }:Td)=_
 rw [l4.2,ls4.2]
end Go.Proofs.YtopepebcnaikiaaGreatDoor.Fi
namespace Go.Proofs.YtopepebcnaikiaaGreatDoor.Fi
open Lib (hid)
set_option linter.unusedVariables false
set_option linter.unusedSimpArgs false
set_option maxRecDepth 100000
open Go.ChangeShapes Go.WideShapes Go.ChangeAt Go.RowKit
open BigFrame
open Ar Rg
open Ino
open It (Itm Ch get und app dif rt rc enc er getV get_any under_any apply_any diff_any MkI MkC)
open Di (ItA wlk rgt rgt_iff numOf Vo vo pts lsX lsL up En NmA Walk_any Up MkE List_any New_any L0 encEn encEn_len)
open Ph (nb spX spB laX laD laN)
open Pk (nB nE tN tR tE number_any take_any)
variable {w w' wr:World}{A:Option Addr}{n c:Nat}{L:List Itm}
theorem af {o:Op}{L':List Itm}{d:Td}{x:Int}(hI:ItA w A n L) (hc:n≤c) (hcm:c≤maxLen) (ho:o.lim) (hx:dX L o=x) (ha:aft L o=L') (hd:dT L o=d) (hl:L'.length≤1390000):Calls Tryz.prog 14 #[.slice A n c,vOp o] w fun e w' =>
  ∃ (A':Option Addr) (n' c':Nat) (A9:Option Addr) (m9 c9:Nat),e=.returned (.tuple #[.slice A' n' c',vTd d (.slice A9 m9 c9),.int .i64 x])∧m9=d.e.length∧n'≤c'∧c'≤maxLen∧ItA w' A' n' L'∧Ls encEn 3 w' w'.heap.size A9 d.e∧Below w.heap.size w w':=by
 refine (after_any hI hc hcm o ho).mono ?_
 rintro e w' ⟨A',n',c',ev,rfl,h1,h2,h3,h4,h5,h6⟩
 rw [ha] at h1 h4
 rw [hd] at h5 ⊢
 rw [hx]
 obtain⟨A9,c9,rfl,_,_,hl9⟩:=h5.ls encEn_len
 exact⟨A',n',c',A9,_,c9,rfl,rfl,h2,h3,⟨h1,by omega,h4⟩,hl9,h6⟩
def tl:Nat→List Itm
 | 0=>L0
 | 1=>T1
 | 2=>T2
 | 3=>T3
 | _=>T4
def ol:Nat→Op
 | 0=>o1
 | 1=>o2
 | 2=>o3
 | _=>o4
theorem tl_len (i:Nat):(tl i).length≤1390000:=by
 unfold tl
 split<;>decide
theorem tl_next {i:Nat}(h:i<4):dX (tl i) (ol i)=0∧aft (tl i) (ol i)=tl (i+1)∧dT (tl i) (ol i)=zTd:=by
 have key:∀ (L:List Itm) (o:Op),¬ tells o→dT L o=zTd:=fun L o ht=>by unfold dT;split;all_goals first | rfl | (rw [if_neg ht])
 obtain rfl | rfl | rfl | rfl:i=0∨i=1∨i=2∨i=3:=by omega
 ·exact⟨f1.1,f1.2,key _ _ n1⟩
 ·exact⟨f2.1,f2.2,key _ _ n2⟩
 ·exact⟨f3.1,f3.2,key _ _ n3⟩
 ·exact⟨f4.1,f4.2,key _ _ n4⟩
theorem ol_lim (i:Nat):(ol i).lim:=by
 unfold ol
 split<;>exact⟨by decide,by decide,by decide,by decide,by decide,by decide,by decide⟩
set_option maxHeartbeats 4000000 in
theorem lives_any (w:World):Calls Tryz.prog 11 #[] w fun e w'=>e=.returned (.bool true)∧Below w.heap.size w w':=by
 have CN:=hid (New_any w)
 have CA0:=hid (fun (w:World) (A:Option Addr) (n c:Nat) (hI:ItA w A n (tl 0)) (hc:n≤c) (hcm:c≤maxLen)=>af (o:=ol 0) (L:=tl 0) (L':=tl 1) (d:=zTd) (x:=0) hI hc hcm (ol_lim 0) (tl_next (i:=0) (by decide)).1 (tl_next (i:=0) (by decide)).2.1 (tl_next (i:=0) (by decide)).2.2 (tl_len 1))
 rw [show vOp (ol 0)=.agg #[.int .u8 2,.string ⟨#[47,97]⟩,.string ⟨#[]⟩,.int .u16 0,.int .u32 0,.int .u32 0,.string ⟨#[]⟩] from rfl] at CA0
 have CA1:=hid (fun (w:World) (A:Option Addr) (n c:Nat) (hI:ItA w A n (tl 1)) (hc:n≤c) (hcm:c≤maxLen)=>af (o:=ol 1) (L:=tl 1) (L':=tl 2) (d:=zTd) (x:=0) hI hc hcm (ol_lim 1) (tl_next (i:=1) (by decide)).1 (tl_next (i:=1) (by decide)).2.1 (tl_next (i:=1) (by decide)).2.2 (tl_len 2))
 rw [show vOp (ol 1)=.agg #[.int .u8 1,.string ⟨#[47,97,47,98]⟩,.string ⟨#[]⟩,.int .u16 5,.int .u32 0,.int .u32 0,.string ⟨#[]⟩] from rfl] at CA1
 have CA2:=hid (fun (w:World) (A:Option Addr) (n c:Nat) (hI:ItA w A n (tl 2)) (hc:n≤c) (hcm:c≤maxLen)=>af (o:=ol 2) (L:=tl 2) (L':=tl 3) (d:=zTd) (x:=0) hI hc hcm (ol_lim 2) (tl_next (i:=2) (by decide)).1 (tl_next (i:=2) (by decide)).2.1 (tl_next (i:=2) (by decide)).2.2 (tl_len 3))
 rw [show vOp (ol 2)=.agg #[.int .u8 6,.string ⟨#[47,97,47,98]⟩,.string ⟨#[]⟩,.int .u16 0,.int .u32 2,.int .u32 0,.string ⟨#[120]⟩] from rfl] at CA2
 have CA3:=hid (fun (w:World) (A:Option Addr) (n c:Nat) (hI:ItA w A n (tl 3)) (hc:n≤c) (hcm:c≤maxLen)=>af (o:=ol 3) (L:=tl 3) (L':=tl 4) (d:=zTd) (x:=0) hI hc hcm (ol_lim 3) (tl_next (i:=3) (by decide)).1 (tl_next (i:=3) (by decide)).2.1 (tl_next (i:=3) (by decide)).2.2 (tl_len 4))
 rw [show vOp (ol 3)=.agg #[.int .u8 8,.string ⟨#[47,97]⟩,.string ⟨#[47,99]⟩,.int .u16 0,.int .u32 0,.int .u32 0,.string ⟨#[]⟩] from rfl] at CA3
 have CQ1:=hid (fun (w:World) (A:Option Addr) (n c:Nat) (hI:ItA w A n T4) (hc:n≤c) (hcm:c≤maxLen)=>af (o:=q1) (L:=T4) (L':=T4) (d:={ zTd with s:=⟨#[0,0,120]⟩ }) (x:=0) hI hc hcm ⟨by decide,by decide,by decide,by decide,by decide,by decide,by decide⟩ g1.1 (aft_td r4 m1) (g1.2) (tl_len 4))
 rw [show vOp q1=.agg #[.int .u8 5,.string ⟨#[47,99,47,98]⟩,.string ⟨#[]⟩,.int .u16 0,.int .u32 0,.int .u32 9,.string ⟨#[]⟩] from rfl] at CQ1
 have CQ2:=hid (fun (w:World) (A:Option Addr) (n c:Nat) (hI:ItA w A n T4) (hc:n≤c) (hcm:c≤maxLen)=>af (o:=q2) (L:=T4) (L':=T4) (d:={ zTd with i:=3,n:=⟨2,5,1,3,ByteArray.empty⟩ }) (x:=0) hI hc hcm ⟨by decide,by decide,by decide,by decide,by decide,by decide,by decide⟩ g2.1 (aft_td r4 m2) (g2.2) (tl_len 4))
 rw [show vOp q2=.agg #[.int .u8 11,.string ⟨#[47,99,47,98]⟩,.string ⟨#[]⟩,.int .u16 0,.int .u32 0,.int .u32 0,.string ⟨#[]⟩] from rfl] at CQ2
 have CQ3:=hid (fun (w:World) (A:Option Addr) (n c:Nat) (hI:ItA w A n T4) (hc:n≤c) (hcm:c≤maxLen)=>af (o:=q3) (L:=T4) (L':=T4) (d:=zTd) (x:=13) hI hc hcm ⟨by decide,by decide,by decide,by decide,by decide,by decide,by decide⟩ g3 (aft_no (by rw [g3];decide)) (dT_no (by rw [g3];decide)) (tl_len 4))
 rw [show vOp q3=.agg #[.int .u8 10,.string ⟨#[47,99]⟩,.string ⟨#[]⟩,.int .u16 0,.int .u32 0,.int .u32 0,.string ⟨#[]⟩] from rfl] at CQ3
 have CQ4:=hid (fun (w:World) (A:Option Addr) (n c:Nat) (hI:ItA w A n T4) (hc:n≤c) (hcm:c≤maxLen)=>af (o:=q4) (L:=T4) (L':=T4) (d:={ zTd with e:=[⟨⟨#[99]⟩,2,1⟩] }) (x:=0) hI hc hcm ⟨by decide,by decide,by decide,by decide,by decide,by decide,by decide⟩ g4.1 (aft_td r4 m4) (g4.2) (tl_len 4))
 rw [show vOp q4=.agg #[.int .u8 12,.string ⟨#[47]⟩,.string ⟨#[]⟩,.int .u16 0,.int .u32 0,.int .u32 0,.string ⟨#[]⟩] from rfl] at CQ4
 go_enter Tryz.func11,Tryz.ntmps11
 go_wp2_with fail
 refine CN.out.mono ?_
 rintro e w1 ⟨A,rfl,hA,hb1⟩
 have H1:=hid (show ItA w1 A 1 (tl 0) from hA)
 have B1:=hid hb1
 have hal:Below w1.heap.size w1 (w1.alloc (.cells #[.int .u8 2,.string ⟨#[47,97]⟩,.string ⟨#[]⟩,.int .u16 0,.int .u32 0,.int .u32 0,.string ⟨#[]⟩,.int .u8 1,.string ⟨#[47,97,47,98]⟩,.string ⟨#[]⟩,.int .u16 5,.int .u32 0,.int .u32 0,.string ⟨#[]⟩,.int .u8 6,.string ⟨#[47,97,47,98]⟩,.string ⟨#[]⟩,.int .u16 0,.int .u32 2,.int .u32 0,.string ⟨#[120]⟩,.int .u8 8,.string ⟨#[47,97]⟩,.string ⟨#[47,99]⟩,.int .u16 0,.int .u32 0,.int .u32 0,.string ⟨#[]⟩] 31)):=(Below.refl _ _).alloc (Nat.le_refl _) _
 have R0:=hid (Rw.new w1 #[.int .u8 2,.string ⟨#[47,97]⟩,.string ⟨#[]⟩,.int .u16 0,.int .u32 0,.int .u32 0,.string ⟨#[]⟩,.int .u8 1,.string ⟨#[47,97,47,98]⟩,.string ⟨#[]⟩,.int .u16 5,.int .u32 0,.int .u32 0,.string ⟨#[]⟩,.int .u8 6,.string ⟨#[47,97,47,98]⟩,.string ⟨#[]⟩,.int .u16 0,.int .u32 2,.int .u32 0,.string ⟨#[120]⟩,.int .u8 8,.string ⟨#[47,97]⟩,.string ⟨#[47,99]⟩,.int .u16 0,.int .u32 0,.int .u32 0,.string ⟨#[]⟩] 31)
 have H0:=hid (H1.out.go hal)
 have B0:=hid (B1.out.trans (hal.mono B1.out.size))
 clear hA hb1 CN H1 hal
 go_wp2_with fail
 go_loopw [1,26] (fun v1 v26 wr=>∃ (i:Nat) (A':Option Addr) (n' c':Nat),i≤4∧v26=.int .i64 i∧v1=.slice A' n' c'∧n'≤c'∧c'≤maxLen∧Hid (ItA wr A' n' (tl i))∧Hid (Below w.heap.size w wr)∧Hid (Rw wr w1.heap.size #[.int .u8 2,.string ⟨#[47,97]⟩,.string ⟨#[]⟩,.int .u16 0,.int .u32 0,.int .u32 0,.string ⟨#[]⟩,.int .u8 1,.string ⟨#[47,97,47,98]⟩,.string ⟨#[]⟩,.int .u16 5,.int .u32 0,.int .u32 0,.string ⟨#[]⟩,.int .u8 6,.string ⟨#[47,97,47,98]⟩,.string ⟨#[]⟩,.int .u16 0,.int .u32 2,.int .u32 0,.string ⟨#[120]⟩,.int .u8 8,.string ⟨#[47,97]⟩,.string ⟨#[47,99]⟩,.int .u16 0,.int .u32 0,.int .u32 0,.string ⟨#[]⟩] 31)) (fun _ v26 _=>4-(intOf v26).toNat)
 case atStart=>exact⟨0,A,1,1,by decide,by go_num,rfl,Nat.le_refl _,by unfold maxLen;omega,H0.out,B0.out,R0.out⟩
 case round =>
  obtain⟨i,A',n',c',hi,rfl,rfl,hn',hc',hI,hB,hR⟩:=hrel
  have HI:=hid (Hid.out hI)
  have B:=hid (Hid.out hB)
  have Rg:=hid (Hid.out hR)
  have HN:=hid (show n'≤c'∧c'≤maxLen from⟨hn',hc'⟩)
  clear hI hB hR hn' hc' H0 B0 R0
  obtain rfl | rfl | rfl | rfl | rfl:i=0∨i=1∨i=2∨i=3∨i=4:=by omega
  ·have k0:=Rg.out.cell 0 _ rfl
   have k1:=Rg.out.cell 1 _ rfl
   have k2:=Rg.out.cell 2 _ rfl
   have k3:=Rg.out.cell 3 _ rfl
   have k4:=Rg.out.cell 4 _ rfl
   have k5:=Rg.out.cell 5 _ rfl
   have k6:=Rg.out.cell 6 _ rfl
   have hal:Below wr.heap.size wr (wr.alloc (.cells #[.int .u8 2,.string ⟨#[47,97]⟩,.string ⟨#[]⟩,.int .u16 0,.int .u32 0,.int .u32 0,.string ⟨#[]⟩] 31)):=(Below.refl _ _).alloc (Nat.le_refl _) _
   have HIa:=hid (HI.out.go hal)
   have Ba:=hid (B.out.trans (hal.mono B.out.size))
   have Ra:=hid (Rg.out.go hal)
   clear hal HI B Rg
   go_wp2_with fail
   generalize wr.alloc (.cells #[.int .u8 2,.string ⟨#[47,97]⟩,.string ⟨#[]⟩,.int .u16 0,.int .u32 0,.int .u32 0,.string ⟨#[]⟩] 31)=W at *
   clear k0 k1 k2 k3 k4 k5 k6
   refine (CA0.out W A' n' c' HIa.out HN.out.1 HN.out.2).mono ?_
   rintro e w2 ⟨A2,n2,c2,A9,m9,c9,rfl,hm9,hn2,hc2,hI2,_,hb⟩
   replace hm9:m9=0:=hm9
   subst hm9
   have HI2:=hid hI2
   have B2:=hid (Ba.out.trans (hb.mono Ba.out.size))
   have R2:=hid (Ra.out.go hb)
   have HN2:=hid (show n2≤c2∧c2≤maxLen from⟨hn2,hc2⟩)
   clear hI2 hb hn2 hc2 HIa Ba Ra
   have M:=made w2 #[.string ⟨#[]⟩,.int .u32 0,.int .u8 0,.int .u16 0,.int .u32 0,.int .u32 0,.string ⟨#[]⟩,.slice none 0 0] #[.string ⟨#[]⟩,.int .u32 0,.int .u8 0,.int .u16 0,.int .u32 0,.int .u32 0,.string ⟨#[]⟩,.slice A9 0 c9] 38
   go_wp2_with (refine wpList_store_row rfl 38 (.tmp 5) (.tmp 35) rfl w2.heap.size #[.string ⟨#[]⟩,.int .u32 0,.int .u8 0,.int .u16 0,.int .u32 0,.int .u32 0,.string ⟨#[]⟩,.slice A9 0 c9] rfl rfl 38 #[.string ⟨#[]⟩,.int .u32 0,.int .u8 0,.int .u16 0,.int .u32 0,.int .u32 0,.string ⟨#[]⟩,.slice none 0 0] (heap_alloc_new w2 _) (by kernel_rfl) rfl (row8 _ _ _ _ _ _ _ _ _ _) ?_)
   exact⟨⟨1,A2,n2,c2,by decide,by go_num,rfl,HN2.out.1,HN2.out.2,HI2.out.go M.2.1,B2.out.trans (M.2.1.mono B2.out.size),R2.out.go M.2.1⟩,by simp [intOf]⟩
  ·have k0:=Rg.out.cell 7 _ rfl
   have k1:=Rg.out.cell 8 _ rfl
   have k2:=Rg.out.cell 9 _ rfl
   have k3:=Rg.out.cell 10 _ rfl
   have k4:=Rg.out.cell 11 _ rfl
   have k5:=Rg.out.cell 12 _ rfl
   have k6:=Rg.out.cell 13 _ rfl
   have hal:Below wr.heap.size wr (wr.alloc (.cells #[.int .u8 1,.string ⟨#[47,97,47,98]⟩,.string ⟨#[]⟩,.int .u16 5,.int .u32 0,.int .u32 0,.string ⟨#[]⟩] 31)):=(Below.refl _ _).alloc (Nat.le_refl _) _
   have HIa:=hid (HI.out.go hal)
   have Ba:=hid (B.out.trans (hal.mono B.out.size))
   have Ra:=hid (Rg.out.go hal)
   clear hal HI B Rg
   go_wp2_with fail
   generalize wr.alloc (.cells #[.int .u8 1,.string ⟨#[47,97,47,98]⟩,.string ⟨#[]⟩,.int .u16 5,.int .u32 0,.int .u32 0,.string ⟨#[]⟩] 31)=W at *
   clear k0 k1 k2 k3 k4 k5 k6
   refine (CA1.out W A' n' c' HIa.out HN.out.1 HN.out.2).mono ?_
   rintro e w2 ⟨A2,n2,c2,A9,m9,c9,rfl,hm9,hn2,hc2,hI2,_,hb⟩
   replace hm9:m9=0:=hm9
   subst hm9
   have HI2:=hid hI2
   have B2:=hid (Ba.out.trans (hb.mono Ba.out.size))
   have R2:=hid (Ra.out.go hb)
   have HN2:=hid (show n2≤c2∧c2≤maxLen from⟨hn2,hc2⟩)
   clear hI2 hb hn2 hc2 HIa Ba Ra
   have M:=made w2 #[.string ⟨#[]⟩,.int .u32 0,.int .u8 0,.int .u16 0,.int .u32 0,.int .u32 0,.string ⟨#[]⟩,.slice none 0 0] #[.string ⟨#[]⟩,.int .u32 0,.int .u8 0,.int .u16 0,.int .u32 0,.int .u32 0,.string ⟨#[]⟩,.slice A9 0 c9] 38
   go_wp2_with (refine wpList_store_row rfl 38 (.tmp 5) (.tmp 35) rfl w2.heap.size #[.string ⟨#[]⟩,.int .u32 0,.int .u8 0,.int .u16 0,.int .u32 0,.int .u32 0,.string ⟨#[]⟩,.slice A9 0 c9] rfl rfl 38 #[.string ⟨#[]⟩,.int .u32 0,.int .u8 0,.int .u16 0,.int .u32 0,.int .u32 0,.string ⟨#[]⟩,.slice none 0 0] (heap_alloc_new w2 _) (by kernel_rfl) rfl (row8 _ _ _ _ _ _ _ _ _ _) ?_)
   exact⟨⟨2,A2,n2,c2,by decide,by go_num,rfl,HN2.out.1,HN2.out.2,HI2.out.go M.2.1,B2.out.trans (M.2.1.mono B2.out.size),R2.out.go M.2.1⟩,by simp [intOf]⟩
  ·have k0:=Rg.out.cell 14 _ rfl
   have k1:=Rg.out.cell 15 _ rfl
   have k2:=Rg.out.cell 16 _ rfl
   have k3:=Rg.out.cell 17 _ rfl
   have k4:=Rg.out.cell 18 _ rfl
   have k5:=Rg.out.cell 19 _ rfl
   have k6:=Rg.out.cell 20 _ rfl
   have hal:Below wr.heap.size wr (wr.alloc (.cells #[.int .u8 6,.string ⟨#[47,97,47,98]⟩,.string ⟨#[]⟩,.int .u16 0,.int .u32 2,.int .u32 0,.string ⟨#[120]⟩] 31)):=(Below.refl _ _).alloc (Nat.le_refl _) _
   have HIa:=hid (HI.out.go hal)
   have Ba:=hid (B.out.trans (hal.mono B.out.size))
   have Ra:=hid (Rg.out.go hal)
   clear hal HI B Rg
   go_wp2_with fail
   generalize wr.alloc (.cells #[.int .u8 6,.string ⟨#[47,97,47,98]⟩,.string ⟨#[]⟩,.int .u16 0,.int .u32 2,.int .u32 0,.string ⟨#[120]⟩] 31)=W at *
   clear k0 k1 k2 k3 k4 k5 k6
   refine (CA2.out W A' n' c' HIa.out HN.out.1 HN.out.2).mono ?_
   rintro e w2 ⟨A2,n2,c2,A9,m9,c9,rfl,hm9,hn2,hc2,hI2,_,hb⟩
   replace hm9:m9=0:=hm9
   subst hm9
   have HI2:=hid hI2
   have B2:=hid (Ba.out.trans (hb.mono Ba.out.size))
   have R2:=hid (Ra.out.go hb)
   have HN2:=hid (show n2≤c2∧c2≤maxLen from⟨hn2,hc2⟩)
   clear hI2 hb hn2 hc2 HIa Ba Ra
   have M:=made w2 #[.string ⟨#[]⟩,.int .u32 0,.int .u8 0,.int .u16 0,.int .u32 0,.int .u32 0,.string ⟨#[]⟩,.slice none 0 0] #[.string ⟨#[]⟩,.int .u32 0,.int .u8 0,.int .u16 0,.int .u32 0,.int .u32 0,.string ⟨#[]⟩,.slice A9 0 c9] 38
   go_wp2_with (refine wpList_store_row rfl 38 (.tmp 5) (.tmp 35) rfl w2.heap.size #[.string ⟨#[]⟩,.int .u32 0,.int .u8 0,.int .u16 0,.int .u32 0,.int .u32 0,.string ⟨#[]⟩,.slice A9 0 c9] rfl rfl 38 #[.string ⟨#[]⟩,.int .u32 0,.int .u8 0,.int .u16 0,.int .u32 0,.int .u32 0,.string ⟨#[]⟩,.slice none 0 0] (heap_alloc_new w2 _) (by kernel_rfl) rfl (row8 _ _ _ _ _ _ _ _ _ _) ?_)
   exact⟨⟨3,A2,n2,c2,by decide,by go_num,rfl,HN2.out.1,HN2.out.2,HI2.out.go M.2.1,B2.out.trans (M.2.1.mono B2.out.size),R2.out.go M.2.1⟩,by simp [intOf]⟩
  ·have k0:=Rg.out.cell 21 _ rfl
   have k1:=Rg.out.cell 22 _ rfl
   have k2:=Rg.out.cell 23 _ rfl
   have k3:=Rg.out.cell 24 _ rfl
   have k4:=Rg.out.cell 25 _ rfl
   have k5:=Rg.out.cell 26 _ rfl
   have k6:=Rg.out.cell 27 _ rfl
   have hal:Below wr.heap.size wr (wr.alloc (.cells #[.int .u8 8,.string ⟨#[47,97]⟩,.string ⟨#[47,99]⟩,.int .u16 0,.int .u32 0,.int .u32 0,.string ⟨#[]⟩] 31)):=(Below.refl _ _).alloc (Nat.le_refl _) _
   have HIa:=hid (HI.out.go hal)
   have Ba:=hid (B.out.trans (hal.mono B.out.size))
   have Ra:=hid (Rg.out.go hal)
   clear hal HI B Rg
   go_wp2_with fail
   generalize wr.alloc (.cells #[.int .u8 8,.string ⟨#[47,97]⟩,.string ⟨#[47,99]⟩,.int .u16 0,.int .u32 0,.int .u32 0,.string ⟨#[]⟩] 31)=W at *
   clear k0 k1 k2 k3 k4 k5 k6
   refine (CA3.out W A' n' c' HIa.out HN.out.1 HN.out.2).mono ?_
   rintro e w2 ⟨A2,n2,c2,A9,m9,c9,rfl,hm9,hn2,hc2,hI2,_,hb⟩
   replace hm9:m9=0:=hm9
   subst hm9
   have HI2:=hid hI2
   have B2:=hid (Ba.out.trans (hb.mono Ba.out.size))
   have R2:=hid (Ra.out.go hb)
   have HN2:=hid (show n2≤c2∧c2≤maxLen from⟨hn2,hc2⟩)
   clear hI2 hb hn2 hc2 HIa Ba Ra
   have M:=made w2 #[.string ⟨#[]⟩,.int .u32 0,.int .u8 0,.int .u16 0,.int .u32 0,.int .u32 0,.string ⟨#[]⟩,.slice none 0 0] #[.string ⟨#[]⟩,.int .u32 0,.int .u8 0,.int .u16 0,.int .u32 0,.int .u32 0,.string ⟨#[]⟩,.slice A9 0 c9] 38
   go_wp2_with (refine wpList_store_row rfl 38 (.tmp 5) (.tmp 35) rfl w2.heap.size #[.string ⟨#[]⟩,.int .u32 0,.int .u8 0,.int .u16 0,.int .u32 0,.int .u32 0,.string ⟨#[]⟩,.slice A9 0 c9] rfl rfl 38 #[.string ⟨#[]⟩,.int .u32 0,.int .u8 0,.int .u16 0,.int .u32 0,.int .u32 0,.string ⟨#[]⟩,.slice none 0 0] (heap_alloc_new w2 _) (by kernel_rfl) rfl (row8 _ _ _ _ _ _ _ _ _ _) ?_)
   exact⟨⟨4,A2,n2,c2,by decide,by go_num,rfl,HN2.out.1,HN2.out.2,HI2.out.go M.2.1,B2.out.trans (M.2.1.mono B2.out.size),R2.out.go M.2.1⟩,by simp [intOf]⟩
  ·have HI:=hid (show ItA wr A' n' T4 from HI.out)
   go_wp2_with fail
   refine (CQ1.out wr A' n' c' HI.out HN.out.1 HN.out.2).mono ?_
   rintro e w2 ⟨A11,n11,c11,A21,m21,c21,rfl,hm9,hn9,hc9,hI9,hl9,hb⟩
   replace hm9:m21=0:=hm9
   subst hm9
   replace HI:=hid (HI.out.go hb)
   replace B:=gb B hb
   clear hI9 hn9 hc9 hl9
   clear hb
   go_wp2_with (first
    | (refine new_row rfl 38 (.tmp 8) (.tmp 46) rfl rfl #[.string ⟨#[0,0,120]⟩,.int .u32 0,.int .u8 0,.int .u16 0,.int .u32 0,.int .u32 0,.string ⟨#[]⟩,.slice A21 0 c21] rfl rfl (by kernel_rfl) rfl (row8 _ _ _ _ _ _ _ _ _ _) ?_;intro w3 M;replace HI:=hid (HI.out.go M.2.1);replace B:=gb B M.2.1;have Ra:=hid M.1;obtain⟨ca0,ca1,ca2,ca3,ca4,ca5,ca6,ca7⟩:=cl8 Ra.out;clear M)
    | (go_at_call 14;refine (CQ2.out w3 A' n' c' HI.out HN.out.1 HN.out.2).mono ?_;rintro e w4 ⟨A12,n12,c12,A22,m22,c22,rfl,hm9,hn9,hc9,hI9,hl9,hb⟩;replace hm9:m22=0:=hm9;subst hm9;clear ca0 ca1 ca2 ca3 ca4 ca5 ca6 ca7;replace Ra:=gg Ra hb;replace HI:=hid (HI.out.go hb);replace B:=gb B hb;clear hI9 hn9 hc9 hl9;obtain⟨ca0,ca1,ca2,ca3,ca4,ca5,ca6,ca7⟩:=cl8 Ra.out;clear hb)
    | (refine new_row rfl 38 (.tmp 11) (.tmp 53) rfl rfl #[.string ⟨#[]⟩,.int .u32 3,.int .u8 2,.int .u16 5,.int .u32 1,.int .u32 3,.string ⟨#[]⟩,.slice A22 0 c22] rfl rfl (by kernel_rfl) rfl (row8 _ _ _ _ _ _ _ _ _ _) ?_;intro w5 M;clear ca0 ca1 ca2 ca3 ca4 ca5 ca6 ca7;replace Ra:=gg Ra M.2.1;replace HI:=hid (HI.out.go M.2.1);replace B:=gb B M.2.1;have Rb:=hid M.1;obtain⟨ca0,ca1,ca2,ca3,ca4,ca5,ca6,ca7⟩:=cl8 Ra.out;obtain⟨cb0,cb1,cb2,cb3,cb4,cb5,cb6,cb7⟩:=cl8 Rb.out;clear M)
    | (go_at_call 14;refine (CQ3.out w5 A' n' c' HI.out HN.out.1 HN.out.2).mono ?_;rintro e w6 ⟨A13,n13,c13,A23,m23,c23,rfl,hm9,hn9,hc9,hI9,hl9,hb⟩;replace hm9:m23=0:=hm9;subst hm9;clear ca0 ca1 ca2 ca3 ca4 ca5 ca6 ca7 cb0 cb1 cb2 cb3 cb4 cb5 cb6 cb7;replace Ra:=gg Ra hb;replace Rb:=gg Rb hb;replace HI:=hid (HI.out.go hb);replace B:=gb B hb;clear hI9 hn9 hc9 hl9;obtain⟨ca0,ca1,ca2,ca3,ca4,ca5,ca6,ca7⟩:=cl8 Ra.out;obtain⟨cb0,cb1,cb2,cb3,cb4,cb5,cb6,cb7⟩:=cl8 Rb.out;clear hb)
    | (refine new_row rfl 38 (.tmp 14) (.tmp 60) rfl rfl #[.string ⟨#[]⟩,.int .u32 0,.int .u8 0,.int .u16 0,.int .u32 0,.int .u32 0,.string ⟨#[]⟩,.slice A23 0 c23] rfl rfl (by kernel_rfl) rfl (row8 _ _ _ _ _ _ _ _ _ _) ?_;intro w7 M;clear ca0 ca1 ca2 ca3 ca4 ca5 ca6 ca7 cb0 cb1 cb2 cb3 cb4 cb5 cb6 cb7;replace Ra:=gg Ra M.2.1;replace Rb:=gg Rb M.2.1;replace HI:=hid (HI.out.go M.2.1);replace B:=gb B M.2.1;have Rc:=hid M.1;obtain⟨ca0,ca1,ca2,ca3,ca4,ca5,ca6,ca7⟩:=cl8 Ra.out;obtain⟨cb0,cb1,cb2,cb3,cb4,cb5,cb6,cb7⟩:=cl8 Rb.out;obtain⟨cc0,cc1,cc2,cc3,cc4,cc5,cc6,cc7⟩:=cl8 Rc.out;clear M)
    | (go_at_call 14;refine (CQ4.out w7 A' n' c' HI.out HN.out.1 HN.out.2).mono ?_;rintro e w8 ⟨A14,n14,c14,A24,m24,c24,rfl,hm9,hn9,hc9,hI9,hl9,hb⟩;replace hm9:m24=1:=hm9;subst hm9;have HL9:=hid hl9;clear ca0 ca1 ca2 ca3 ca4 ca5 ca6 ca7 cb0 cb1 cb2 cb3 cb4 cb5 cb6 cb7 cc0 cc1 cc2 cc3 cc4 cc5 cc6 cc7;replace Ra:=gg Ra hb;replace Rb:=gg Rb hb;replace Rc:=gg Rc hb;replace HI:=hid (HI.out.go hb);replace B:=gb B hb;clear hI9 hn9 hc9 hl9;obtain⟨ca0,ca1,ca2,ca3,ca4,ca5,ca6,ca7⟩:=cl8 Ra.out;obtain⟨cb0,cb1,cb2,cb3,cb4,cb5,cb6,cb7⟩:=cl8 Rb.out;obtain⟨cc0,cc1,cc2,cc3,cc4,cc5,cc6,cc7⟩:=cl8 Rc.out;clear hb)
    | (refine new_row rfl 38 (.tmp 17) (.tmp 67) rfl rfl #[.string ⟨#[]⟩,.int .u32 0,.int .u8 0,.int .u16 0,.int .u32 0,.int .u32 0,.string ⟨#[]⟩,.slice A24 1 c24] rfl rfl (by kernel_rfl) rfl (row8 _ _ _ _ _ _ _ _ _ _) ?_;intro w9 M;clear ca0 ca1 ca2 ca3 ca4 ca5 ca6 ca7 cb0 cb1 cb2 cb3 cb4 cb5 cb6 cb7 cc0 cc1 cc2 cc3 cc4 cc5 cc6 cc7;replace Ra:=gg Ra M.2.1;replace Rb:=gg Rb M.2.1;replace Rc:=gg Rc M.2.1;replace HI:=hid (HI.out.go M.2.1);obtain⟨eb,eo,he9,hlt9,hr9⟩:=HL9.out 0 ⟨⟨#[99]⟩,2,1⟩ rfl;have e90:=hr9 0 _ rfl;have e91:World.cell? _ ⟨eb,eo,none⟩=some (Value.string ⟨#[99]⟩):=(World.cell?_of_block (a:=⟨eb,eo,none⟩) (M.2.1.block eb hlt9)).trans (by have e92:=e90;simp only [Nat.zero_mul,Nat.add_zero] at e92;exact e92);clear hr9 e90;subst he9;replace B:=gb B M.2.1;have Rd:=hid M.1;obtain⟨ca0,ca1,ca2,ca3,ca4,ca5,ca6,ca7⟩:=cl8 Ra.out;obtain⟨cb0,cb1,cb2,cb3,cb4,cb5,cb6,cb7⟩:=cl8 Rb.out;obtain⟨cc0,cc1,cc2,cc3,cc4,cc5,cc6,cc7⟩:=cl8 Rc.out;obtain⟨cd0,cd1,cd2,cd3,cd4,cd5,cd6,cd7⟩:=cl8 Rd.out;clear M))
   go_ret
   exact⟨rfl,B.out⟩
end Go.Proofs.YtopepebcnaikiaaGreatDoor.Fi
namespace Go.Proofs.YtopepebcnaikiaaGreatDoor.Fi
open Lib (hid)
set_option linter.unusedVariables false
set_option linter.unusedSimpArgs false
open Ino
open It (Itm Ch get und app dif rt rc key ckey UpK get_iff rt_iff rt_up don donL donL_true lt mem_app mem_don up_app itm get_don app_cons app_nil)
open Di
open Ph (nb spX spB laX laD laN)
variable {L M:List Itm}{p q v:ByteArray}
theorem don_len (c:Ch):∀ (D:List Itm) (put:Bool),(donL c put D).length≤D.length+1
 | [],put=>by cases put<;>simp [donL]
 | x::r,true=>by
  rw [donL_true]
  exact Nat.le_trans (List.length_filter_le _ _) (by simp)
 | x::r,false=>by
  rw [donL]
  have h2:(if key x=ckey c then [] else [x]).length≤1:=by split<;>simp
  by_cases h:lt (key x) (ckey c)=true
  ·rw [h]
   have:=don_len c r false
   simp only [Bool.not_true,Bool.and_false,Bool.false_eq_true,if_false,List.nil_append,List.length_append,Bool.or_false,List.length_cons]
   omega
  ·have h:lt (key x) (ckey c)=false:=by simpa using h
   rw [h,show (false||!false)=true from rfl,donL_true]
   have h1:=List.length_filter_le (fun x=>decide (key x≠ckey c)) r
   simp only [Bool.not_false,Bool.and_true,if_true,List.length_append,List.length_cons,List.length_nil]
   omega
theorem app_len:∀ (C:List Ch) (D:List Itm),(app D C).length≤D.length+C.length
 | [],D=>by simp [app]
 | c::C,D=>by
  rw [app_cons]
  have h1:=app_len C (don c D)
  have h2:(don c D).length≤D.length+1:=don_len c D _
  simp only [List.length_cons]
  omega
theorem aft_tl {o:Op}(ht:tells o):aft L o=L:=by
 by_cases h:dX L o=0
 ·exact aft_td (dX_rgt h) ht
 ·exact aft_no h
theorem dT_ch {o:Op}(ht:¬ tells o):dT L o=zTd:=by
 unfold dT
 split
 all_goals first | rfl | rw [if_neg ht]
def oD (p q:ByteArray):Op:=⟨16,p,q,0,0,0,⟨#[]⟩⟩
theorem get_1 (h:rgt L=true) (k k':ByteArray) (b:Bool) (v:ByteArray):get (app L [⟨k,b,v⟩]) k'=if k=k' then (if b then some v else none) else get L k':=by
 rw [app_cons,app_nil,get_don (rgt_up h)]
 have:(ckey (⟨k,b,v⟩:Ch)=k'.data.toList)↔k=k':=⟨fun e=>ByteArray.ext (Array.toList_inj.1 e),fun e=>by rw [e];rfl⟩
 simp only [this]
variable {L M:List Itm}{p:ByteArray}{a:Nat}
def oT (p:ByteArray):Op:=⟨11,p,⟨#[]⟩,0,0,0,⟨#[]⟩⟩
def oM (p:ByteArray) (a:Nat):Op:=⟨13,p,⟨#[]⟩,a,0,0,⟨#[]⟩⟩
theorem nd_some (h:rgt L=true){i:Nat}{n:In}(hn:(vo (pts L)).ino i=some n):nd L i=n:=by
 have:=ino_num h hn
 rw [nd_ino h this.1 this.2.1,hn]
 rfl
end Go.Proofs.YtopepebcnaikiaaGreatDoor.Fi
namespace Go.Proofs.YtopepebcnaikiaaGreatDoor.Fi
open Lib (hid)
set_option linter.unusedVariables false
set_option linter.unusedSimpArgs false
open Ino
open It (Itm Ch get und app dif rt rc key ckey UpK get_iff rt_iff rt_up don mem_app mem_don up_app itm get_don app_cons app_nil okC okKey)
open Di
open Ph (nb spX spB laX laD laN la_ok la_err la_none)
variable {L M:List Itm}{s s':Vo}{C:List Ch}{p:ByteArray}
theorem okC_gone {q:Ky}(h:okK q=true):okC ⟨wrK q,false,ByteArray.empty⟩=true:=by
 have:=rc_one h false ByteArray.empty (by decide) (fun _=>rfl)
 unfold rc at this
 rw [List.all_cons,List.all_nil,Bool.and_true] at this
 exact this
theorem gone_mem (h:rgt L=true){i:Nat}(hi1:1≤i) (hi2:i<4294967296){k0:Ky}(hk:okK k0=true) (hC:C=gn L i++[⟨wrK k0,false,ByteArray.empty⟩]):(∀ x,x∈app L C↔x∈L∧(deK x.k).I≠i∧x.k≠wrK k0)∧rc C=true:=by
 have hgn:∀ c,c∈C↔(∃ x∈L,(deK x.k).I=i∧c=It.gone x)∨c=⟨wrK k0,false,ByteArray.empty⟩:=fun c=>by
  rw [hC,List.mem_append,mem_gn h hi1 hi2,List.mem_singleton]
 have hrc:rc C=true:=by
  unfold rc
  rw [List.all_eq_true]
  intro c hc
  rcases (hgn c).1 hc with ⟨x,hx,_,rfl⟩ | rfl
  ·have:=okC_gone (key_of h hx).1
   rw [(key_of h hx).2.1] at this
   exact this
  ·exact okC_gone hk
 have hno:∀ c∈C,c.h=false:=fun c hc=>by
  rcases (hgn c).1 hc with ⟨x,hx,_,rfl⟩ | rfl<;>rfl
 have hmem:∀ x,x∈app L C↔x∈L∧(deK x.k).I≠i∧x.k≠wrK k0:=by
  intro x
  rw [app_gone hno]
  constructor
  ·rintro ⟨hx,hc⟩
   refine⟨hx,fun e=>?_,fun e=>?_⟩
   ·exact hc (It.gone x) ((hgn _).2 (.inl ⟨x,hx,e,rfl⟩)) rfl
   ·exact hc ⟨wrK k0,false,ByteArray.empty⟩ ((hgn _).2 (.inr rfl)) (by show (wrK k0).data.toList=x.k.data.toList;rw [e])
  ·rintro ⟨hx,h3,h4⟩
   refine⟨hx,fun c hc e=>?_⟩
   have e2:c.k=x.k:=ByteArray.ext (Array.toList_inj.1 e)
   rcases (hgn c).1 hc with ⟨y,hy,h5,rfl⟩ | rfl
   ·have e3:y.k=x.k:=e2
    rw [e3] at h5
    exact h3 h5
   ·exact h4 e2.symm
 exact⟨hmem,hrc⟩
theorem la_all (h0:laX p=0):spX p=0∧laD p++[laN p]=spB p∧nb (laN p)=true:=by
 have h1:spX p=0:=by
  by_cases h:spX p=0
  ·exact h
  ·rw [(la_err h).1] at h0;exact h0
 have h2:spB p≠[]:=fun e=>by rw [(la_none h1 e).1] at h0;cases h0
 obtain⟨_,e2,e3⟩:=la_ok h1 h2
 have hl:0<(spB p).length:=by cases hh:spB p with | nil=>exact absurd hh h2 | cons a l=>simp
 obtain⟨h4,h5⟩:=List.getElem?_eq_some_iff.1 e3
 have e1:laD p++[laN p]=spB p:=by
  rw [e2,← h5,← List.take_succ_eq_append_getElem h4,List.take_of_length_le (by omega)]
 refine⟨h1,e1,?_⟩
 have hall:(spB p).all nb=true:=by
  unfold spB
  rw [Ph.map_all]
  exact (Ph.sp_ok h1).2.1
 rw [← e1,List.all_append,Bool.and_eq_true] at hall
 simpa using hall.2
theorem nm_at (h:rgt L=true) (hx:nmX L p=0):∃ (k0:Ky) (n:In),okK k0=true∧k0.lim∧k0.K=2∧(vo (pts L)).ent k0=some (pl L p).i∧(pl L p).k=wrK k0∧(vo (pts L)).ino (pl L p).i=some n∧ldX L p false=0∧ldI L p false=(pl L p).i∧(n.K≠3→ldX L p true=0∧ldI L p true=(pl L p).i):=by
 have hr:=rgt_iff.1 h
 unfold nmX at hx
 by_cases hc:plX L p=0∧(pl L p).i=0
 ·rw [if_pos hc] at hx;cases hx
 rw [if_neg hc] at hx
 have hne:(pl L p).i≠0:=fun e=>hc ⟨hx,e⟩
 obtain⟨h1,h2,h3,h4⟩:=pl_yes hx
 obtain⟨g1,g2,g3⟩:=la_all h1
 obtain⟨m,hm,_⟩:=wlk_some h h2
 obtain⟨m1,m2,_,_⟩:=ino_num h hm
 have hK:okK ⟨2,(wlk L true (laD p)).1,laN p,0⟩=true:=okK_iff.2 ⟨m1,.inr (.inl ⟨.inl rfl,g3,rfl⟩)⟩
 have hlim:Ky.lim ⟨2,(wlk L true (laD p)).1,laN p,0⟩:=⟨show (2:Nat)<256 by decide,m2,show (0:Nat)<4294967296 by decide⟩
 have hi:(pl L p).i=((vo (pts L)).ent ⟨2,(wlk L true (laD p)).1,laN p,0⟩).getD 0:=by
  rw [h4]
  exact enn_ent h hK hlim rfl
 have hk:(pl L p).k=wrK ⟨2,(wlk L true (laD p)).1,laN p,0⟩:=by
  rw [h4]
  exact (chK_yes hK).2
 have he:(vo (pts L)).ent ⟨2,(wlk L true (laD p)).1,laN p,0⟩=some (pl L p).i:=by
  cases e:(vo (pts L)).ent ⟨2,(wlk L true (laD p)).1,laN p,0⟩ with
  | none=>rw [e] at hi;exact absurd hi hne
  | some j=>rw [e] at hi;rw [hi];rfl
 obtain⟨n,hn⟩:=Option.isSome_iff_exists.1 (ent_ino h _ _ he)
 have hkd:kind (vo (pts L)) (wlk L true (laD p)).1=1:=by
  rw [nd_some h hm] at h3
  unfold kind
  rw [hm]
  exact h3
 have hwf:wlk L false (spB p)=((pl L p).i,0):=by
  have e1:wlk L false (spB p)=one (vo (pts L)) (laN p) (wlk L true (laD p)):=by rw [wlk_C h,wlk_C h,← g2,wkL_snoc]
  rw [e1]
  unfold one
  rw [if_pos h2,if_neg (by rw [hkd];decide),he]
 have hf:ldX L p false=0:=by
  unfold ldX
  rw [if_pos g1,hwf]
 refine⟨⟨2,(wlk L true (laD p)).1,laN p,0⟩,n,hK,hlim,rfl,he,hk,hn,hf,?_,fun hn3=>?_⟩
 ·unfold ldI
  rw [if_pos hf,hwf]
 ·have hE:∀ k j,(vo (pts L)).ent k=some j→((vo (pts L)).ino j).isSome=true:=fun k j hk=>ent_ino h _ _ hk
  have hroot:((vo (pts L)).ino 1).isSome=true:=by
   obtain⟨n,hn,_⟩:=kind_some (s:=vo (pts L)) (i:=1) (by rw [hr.root];decide)
   rw [hn];rfl
  have hw:=wkL_lnk (vo (pts L)) hE hr.root 8 (spB p) 1 (by rw [hr.root];decide) hroot
  rw [← wlk_C h,← wlk_C h,hwf] at hw
  obtain⟨_,h8⟩:=hw.2.2 rfl
  have h9:¬ kind (vo (pts L)) (pl L p).i=3:=by
   unfold kind
   rw [hn]
   exact hn3
  obtain⟨h8,h10⟩:=h8.resolve_left h9
  have ht:ldX L p true=0:=by
   unfold ldX
   rw [if_pos g1,h8]
  refine⟨ht,?_⟩
  unfold ldI
  rw [if_pos ht,h10]
set_option maxRecDepth 100000
variable {L M:List Itm}{p:ByteArray}
def oU (p:ByteArray):Op:=⟨11,p,⟨#[]⟩,0,0,1,⟨#[]⟩⟩
def oR (p:ByteArray):Op:=⟨10,p,⟨#[]⟩,0,0,0,⟨#[]⟩⟩
theorem oU_t:tells (oU p):=.inr (.inl rfl)
theorem oR_t:¬ tells (oR p):=by rintro (h | h | h | h)<;>cases h
theorem chC_10 {o:Op}(h:o.K=10):chC L o=letGo L (pl L o.P):=by
 unfold chC
 rw [if_neg (by rw [h];decide),if_neg (by rw [h];decide),if_neg (by rw [h];decide),if_neg (by rw [h];decide),if_neg (by rw [h];decide),if_neg (by rw [h];decide),if_neg (by rw [h];decide),if_neg (by rw [h];decide),if_pos h]
theorem chC_9 {o:Op}(h:o.K=9):chC L o=letGo L (pl L o.P):=by
 unfold chC
 rw [if_neg (by rw [h];decide),if_neg (by rw [h];decide),if_neg (by rw [h];decide),if_neg (by rw [h];decide),if_neg (by rw [h];decide),if_neg (by rw [h];decide),if_neg (by rw [h];decide),if_pos h]
theorem busy_iff (h:rgt L=true){i:Nat}(hi:1≤i) (hi2:i<4294967296):busy L i=true↔∃ x∈L,(deK x.k).K=2∧(deK x.k).I=i:=by
 unfold busy
 rw [Bool.not_eq_true',List.isEmpty_eq_false_iff_exists_mem]
 constructor
 ·rintro ⟨x,hx⟩
  exact⟨x,(mem_und h (by decide) (by decide) hi hi2).1 hx⟩
 ·rintro ⟨x,hx⟩
  exact⟨x,(mem_und h (by decide) (by decide) hi hi2).2 hx⟩
theorem dX_oR (h:rgt L=true):dX L (oR p)=if nmX L p≠0 then nmX L p else if isD L (pl L p).i then (if busy L (pl L p).i then 13 else 0) else 12:=by
 rw [dX_ch h oR_t]
 rfl
open Pk (nB)
variable {L M:List Itm}{s s':Vo}{C:List Ch}{p:ByteArray}
theorem nx_ex (hlen:L.length<4294967290):∃ j,Nx (vo (pts L)) j:=by
 have h1:∃ j,2≤j∧j≤L.length+2∧(vo (pts L)).ino j=none:=by
  refine Classical.byContradiction fun hno=>?_
  have hall:∀ j,2≤j→j≤L.length+2→j∈L.map fun x=>(deK x.k).I:=fun j h2 h3=>by
   cases e:(vo (pts L)).ino j with
   | none=>exact absurd ⟨j,h2,h3,e⟩ hno
   | some m =>
    obtain⟨q,hq,_,hi,_⟩:=ino_of _ e
    obtain⟨x,hx,rfl⟩:=pts_mem hq
    exact List.mem_map.2 ⟨x,hx,hi⟩
  have:=Mq.nodup_sub ((List.range (L.length+1)).map (·+2)) (L.map fun x=>(deK x.k).I) (List.Pairwise.map _ (fun a b h=>by omega) List.nodup_range) fun j hj=>by
   obtain⟨k,hk,rfl⟩:=List.mem_map.1 hj
   have:=List.mem_range.1 hk
   exact hall _ (by omega) (by omega)
  rw [List.length_map,List.length_map,List.length_range] at this
  omega
 obtain⟨j,h2,h3,h4⟩:=h1
 have key:∀ n j,j≤n→2≤j→j≤L.length+2→(vo (pts L)).ino j=none→∃ j,Nx (vo (pts L)) j:=by
  intro n
  induction n with
  | zero=>intro j h1 h2;omega
  | succ n ih =>
   intro j hj h2 h3 h4
   by_cases hx:∃ k,2≤k∧k<j∧(vo (pts L)).ino k=none
   ·obtain⟨k,k1,k2,k3⟩:=hx
    exact ih k (by omega) k1 (by omega) k3
   ·refine⟨j,h2,by omega,h4,fun k k1 k2=>?_⟩
    cases e:(vo (pts L)).ino k with
    | none=>exact absurd ⟨k,k1,k2,e⟩ hx
    | some m=>rfl
 exact key j j (Nat.le_refl _) h2 h3 h4
theorem nB4 {i:Nat}(hi:i<4294967296):numOf (Pk.nB i 4)=i∧Pk.tE (Pk.nB i 4) 4=0∧Pk.tR (Pk.nB i 4) 4=ByteArray.empty∧(Pk.nB i 4).size=4:=by
 have h:Pk.numOk i 4=true:=numOk_of (n:=i) (k:=4) (by decide) (by decide) (by rw [show (256 ^ 4:Nat)=4294967296 by decide];exact hi)
 have e1:=Pk.tN_back h ByteArray.empty
 have e2:=Pk.tE_back h ByteArray.empty
 have e3:=Pk.tR_back h ByteArray.empty
 have e4:=Pk.nB_size h
 rw [ByteArray.append_empty] at e1 e2 e3
 refine⟨?_,e2,e3,by omega⟩
 unfold numOf
 rw [e1]
 rfl
theorem filter_one {P:Itm→Bool}{b:Itm}(hu:UpK key M) (hb:b∈M) (hP:P b=true) (h1:∀ a∈M,P a=true→a=b):M.countP P=1:=by
 have e:M.filter P=[b]:=It.up_ext (UpK.sub hu List.filter_sublist) (List.pairwise_singleton _ _) fun x=>by
  rw [List.mem_filter,List.mem_singleton]
  exact⟨fun h=>h1 x h.1 h.2,fun h=>by rw [h];exact⟨hb,hP⟩⟩
 rw [List.countP_eq_length_filter,e]
 rfl
theorem mk_right (h:rgt L=true){i:Nat}{n m:In}(hi2:2≤i) (hi:i<4294967296) (hn:(vo (pts L)).ino i=none) (ho:okI n=true) (hl:n.lim) (h1:n.L=1){k0:Ky}(hk:okK k0=true) (lk:k0.lim) (h2:k0.K=2) (he:(vo (pts L)).ent k0=none) (hd:(vo (pts L)).ino k0.I=some m) (hm:m.K=1)
  (hC:C=[kept n i,⟨wrK k0,true,nB i 4⟩]):rgt (app L C)=true∧rc C=true∧(vo (pts (app L C))).ino i=some n∧(vo (pts (app L C))).ent k0=some i∧(∀ j,j≠i→(vo (pts (app L C))).ino j=(vo (pts L)).ino j)∧(∀ k,k≠k0→(vo (pts (app L C))).ent k=(vo (pts L)).ent k) ∧
  (∀ x,x∈app L C↔x∈L∨x=⟨Fi.kI i,enI n⟩∨x=⟨wrK k0,nB i 4⟩)∧(∀ x∈L,(deK x.k).I≠i∧x.k≠wrK k0):=by
 have hr:=rgt_iff.1 h
 have hd0:deK (wrK k0)=k0:=(deK_back lk hk).1
 have hi1:1≤i:=by omega
 have hkI:deK (Fi.kI i)=Di.kI i:=by rw [kI_wr hi1];exact (deK_back (kI_lim hi) (kI_ok hi1)).1
 obtain⟨hnum,hnE,hnR,hnS⟩:=nB4 hi
 -- what is new is new
 have hnew:∀ x∈L,(deK x.k).I≠i∧x.k≠wrK k0:=fun x hx=>by
  constructor
  ·intro e
   have:=hr.str (ptOf x) (List.mem_map.2 ⟨x,hx,rfl⟩)
   unfold stray at this
   rw [show (ptOf x).k.I=i from e,hn] at this
   cases this
  ·intro e
   have:=ent_item h hx (by rw [e,hd0];exact h2)
   rw [e,hd0,he] at this
   cases this
 have hnot:∀ x∈L,(deK x.k).K=2→numOf x.v≠i:=fun x hx hx2 e=>by
  have h3:=ent_item h hx hx2
  have h4:=ent_ino h _ _ h3
  rw [e,hn] at h4
  cases h4
 have hsz:(enI n).size≤160:=by
  rw [(chI_yes ho).2,wrI_size _ (by have:=(okI_size ho).1;omega)]
  have:=(okI_size ho).1
  omega
 have hrc:rc C=true:=by
  have e1:=rc_one (kI_ok hi1) true (enI n) hsz (fun h=>by cases h)
  have e2:=rc_one hk true (nB i 4) (by omega) (fun h=>by cases h)
  rw [hC]
  unfold rc kept at *
  rw [List.all_cons,List.all_nil,Bool.and_true] at e1 e2
  rw [List.all_cons,List.all_cons,List.all_nil,Bool.and_true,Bool.and_eq_true]
  exact⟨by rw [kI_wr hi1];exact e1,e2⟩
 have hne:Fi.kI i≠wrK k0:=fun e=>by
  rw [e,hd0] at hkI
  rw [hkI] at h2
  exact absurd (show (1:Nat)=2 from h2) (by decide)
 have hget:∀ k',get (app L C) k'=if wrK k0=k' then some (nB i 4) else if Fi.kI i=k' then some (enI n) else get L k':=fun k'=>by
  have e:app L C=app (app L [⟨Fi.kI i,true,enI n⟩]) [⟨wrK k0,true,nB i 4⟩]:=by rw [hC];rfl
  have hu:UpK key (app L [⟨Fi.kI i,true,enI n⟩]):=up_app _ (rgt_up h)
  rw [e,app_cons,app_nil,get_don hu]
  have e3:(ckey (⟨wrK k0,true,nB i 4⟩:Ch)=k'.data.toList)↔wrK k0=k':=⟨fun e=>ByteArray.ext (Array.toList_inj.1 e),fun e=>by rw [e];rfl⟩
  simp only [e3,get_1 h]
  rfl
 have hrt:=It.rt_app hr.rt hrc
 clear hC
 have hmem:∀ x,x∈app L C↔x∈L∨x=⟨Fi.kI i,enI n⟩∨x=⟨wrK k0,nB i 4⟩:=by
  intro x
  obtain⟨a,b⟩:=x
  rw [← get_some hrt,hget]
  by_cases e1:wrK k0=a
  ·subst e1
   rw [if_pos rfl]
   constructor
   ·intro e;cases e;exact .inr (.inr rfl)
   ·rintro (e | e | e)
    ·exact absurd rfl (hnew _ e).2
    ·exact absurd (congrArg Itm.k e).symm hne
    ·cases e;rfl
  ·rw [if_neg e1]
   by_cases e2:Fi.kI i=a
   ·subst e2
    rw [if_pos rfl]
    constructor
    ·intro e;cases e;exact .inr (.inl rfl)
    ·rintro (e | e | e)
     ·exact absurd (show (deK (Fi.kI i)).I=i by rw [hkI];rfl) (hnew _ e).1
     ·cases e;rfl
     ·exact absurd (congrArg Itm.k e).symm e1
   ·rw [if_neg e2,get_some hr.rt]
    constructor
    ·exact .inl
    ·rintro (e | e | e)
     ·exact e
     ·exact absurd (congrArg Itm.k e).symm e2
     ·exact absurd (congrArg Itm.k e).symm e1
 generalize app L C=M at *
 have hokM:∀ x∈M,okX x=true:=fun x hx=>by
  rcases (hmem x).1 hx with h3 | rfl | rfl
  ·exact hr.ok x h3
  ·unfold okX
   dsimp only
   rw [kI_wr hi1,(deK_back (kI_lim hi) (kI_ok hi1)).2]
   unfold okP ptOf
   dsimp only
   rw [← kI_wr hi1,hkI,if_pos (show (Di.kI i).K=1 from rfl),(chI_yes ho).2,(deI_back hl ho).2]
   rfl
  ·unfold okX
   dsimp only
   rw [(deK_back lk hk).2]
   unfold okP ptOf
   dsimp only
   rw [hd0,if_neg (by omega),if_pos h2,hnum,hnE,hnR,decide_eq_true hi2]
   rfl
 have hx1:(⟨Fi.kI i,enI n⟩:Itm)∈M:=(hmem _).2 (.inr (.inl rfl))
 have hx2:(⟨wrK k0,nB i 4⟩:Itm)∈M:=(hmem _).2 (.inr (.inr rfl))
 have hinoi:(vo (pts M)).ino i=some n:=by
  rw [ino_all hrt hokM,if_pos ⟨hi1,hi⟩,(get_some hrt).2 hx1,Option.map_some,(chI_yes ho).2,(deI_back hl ho).1]
 have hino:∀ j,j≠i→(vo (pts M)).ino j=(vo (pts L)).ino j:=by
  intro j hj
  rw [ino_all hrt hokM,ino_all hr.rt hr.ok]
  by_cases hj1:1≤j∧j<4294967296
  ·have e1:deK (Fi.kI j)=Di.kI j:=by rw [kI_wr hj1.1];exact (deK_back (kI_lim hj1.2) (kI_ok hj1.1)).1
   rw [if_pos hj1,if_pos hj1,hget,if_neg,if_neg]
   ·intro e
    rw [e,e1] at hkI
    exact hj (congrArg Ky.I hkI)
   ·intro e
    rw [← e,hd0] at e1
    rw [e1] at h2
    exact absurd (show (1:Nat)=2 from h2) (by decide)
  ·rw [if_neg hj1,if_neg hj1]
 have henk:(vo (pts M)).ent k0=some i:=by
  rw [ent_get hrt hokM hk lk h2,(get_some hrt).2 hx2,Option.map_some,hnum]
 have hent:∀ k,k≠k0→(vo (pts M)).ent k=(vo (pts L)).ent k:=by
  intro k hkk
  have sub:∀ j,(vo (pts L)).ent k=some j→(vo (pts M)).ent k=some j:=fun j e=>by
   obtain⟨q,hq,q2,q3,q4⟩:=ent_of _ e
   obtain⟨x,hx,rfl⟩:=pts_mem hq
   have hxM:=(hmem x).2 (.inl hx)
   obtain⟨a,b,c,_⟩:=key_of h hx
   have q3':deK x.k=k:=q3
   rw [← q3',ent_get hrt hokM a c q2,b,(get_some hrt).2 (show (⟨x.k,x.v⟩:Itm)∈M from hxM),q4]
   rfl
  cases e:(vo (pts L)).ent k with
  | some j=>exact sub j e
  | none =>
   cases e2:(vo (pts M)).ent k with
   | none=>rfl
   | some j =>
    obtain⟨q,hq,q2,q3,q4⟩:=ent_of _ e2
    obtain⟨x,hx,rfl⟩:=pts_mem hq
    have q3':deK x.k=k:=q3
    have q2':(deK x.k).K=2:=q2
    rcases (hmem x).1 hx with h3 | rfl | rfl
    ·have:=ent_item h h3 q2'
     rw [q3',e] at this
     cases this
    ·dsimp only at q2'
     rw [hkI] at q2'
     exact absurd (show (1:Nat)=2 from q2') (by decide)
    ·dsimp only at q3'
     rw [hd0] at q3'
     exact absurd q3'.symm hkk
 have hfil:L=M.filter (fun x=>decide (x.k≠Fi.kI i)&&decide (x.k≠wrK k0)) :=
  It.up_ext (rgt_up h) (UpK.sub (rt_up hrt).1 List.filter_sublist) fun x=>by
   rw [List.mem_filter,Bool.and_eq_true,decide_eq_true_iff,decide_eq_true_iff,hmem]
   constructor
   ·intro hx
    exact⟨.inl hx,fun e=>(hnew x hx).1 (by rw [e,hkI];rfl),(hnew x hx).2⟩
   ·rintro ⟨e | rfl | rfl,e2,e3⟩
    ·exact e
    ·exact absurd rfl e2
    ·exact absurd rfl e3
 have hdrop:∀ x∈M,(decide (x.k≠Fi.kI i)&&decide (x.k≠wrK k0))=false→(deK x.k).K=2→numOf x.v=i:=fun x hx hf hx2=>by
  rcases (hmem x).1 hx with h3 | rfl | rfl
  ·have e1:decide (x.k≠Fi.kI i)=true:=decide_eq_true fun e=>(hnew x h3).1 (by rw [e,hkI];rfl)
   have e2:decide (x.k≠wrK k0)=true:=decide_eq_true (hnew x h3).2
   rw [e1,e2] at hf
   cases hf
  ·dsimp only at hx2
   rw [hkI] at hx2
   exact absurd (show (1:Nat)=2 from hx2) (by decide)
  ·exact hnum
 have hsame:∀ j,j≠i→(vo (pts M)).nmd j=(vo (pts L)).nmd j∧(vo (pts M)).abv j=(vo (pts L)).abv j:=by
  intro j hj
  have:=fil_same (fun x=>decide (x.k≠Fi.kI i)&&decide (x.k≠wrK k0)) j M fun x hx hf hx2 e=>hj (e.symm.trans (hdrop x hx hf hx2))
  rw [← hfil] at this
  exact⟨this.1.symm,this.2.symm⟩
 have hst:(vo (pts M)).nmd i=1:=by
  rw [nmd_cnt,filter_one (rt_up hrt).1 hx2]
  ·dsimp only
   rw [hd0,decide_eq_true h2,decide_eq_true hnum]
   rfl
  ·intro a ha hP
   rw [Bool.and_eq_true,decide_eq_true_iff,decide_eq_true_iff] at hP
   rcases (hmem a).1 ha with h3 | rfl | rfl
   ·exact absurd hP.2 (hnot a h3 hP.1)
   ·have h4:=hP.1
    dsimp only at h4
    rw [hkI] at h4
    exact absurd (show (1:Nat)=2 from h4) (by decide)
   ·rfl
 have habv:(vo (pts M)).abv i=k0.I:=by
  obtain⟨q,hq,q1,q2,q3⟩:=nmd_of (pts M) (i:=i) (by rw [hst];decide)
  obtain⟨x,hx,rfl⟩:=pts_mem hq
  rw [q3]
  have q1':(deK x.k).K=2:=q1
  have q2':numOf x.v=i:=q2
  show (deK x.k).I=k0.I
  rcases (hmem x).1 hx with h3 | rfl | rfl
  ·exact absurd q2' (hnot x h3 q1')
  ·dsimp only at q1'
   rw [hkI] at q1'
   exact absurd (show (1:Nat)=2 from q1') (by decide)
  ·dsimp only
   rw [hd0]
 have hki:k0.I≠i:=fun e=>by rw [e,hn] at hd;cases hd
 refine⟨rgt_iff.2 ⟨hrt,hokM,?_,fun q hq=>?_,?_⟩,hrc,hinoi,henk,hino,hent,hmem,hnew⟩
 ·unfold kind
  rw [hino 1 (by omega)]
  exact hr.root
 ·obtain⟨x,hx,rfl⟩:=pts_mem hq
  rcases (hmem x).1 hx with hxL | rfl | rfl
  ·have hxi:=(hnew x hxL).1
   have h4:stray (vo (pts M)) (ptOf x)=stray (vo (pts L)) (ptOf x):=by
    unfold stray
    rw [hino (ptOf x).k.I hxi]
    cases (vo (pts L)).ino (ptOf x).k.I with
    | none=>rfl
    | some m =>
     dsimp only
     by_cases a1:(ptOf x).k.K=1
     ·rw [if_pos a1,if_pos a1,(hsame (ptOf x).k.I hxi).1]
     ·rw [if_neg a1,if_neg a1]
      by_cases a2:(ptOf x).k.K=2
      ·have a3:(vo (pts L)).ent (ptOf x).k=some (numOf x.v):=ent_item h hxL a2
       have a4:(vo (pts M)).ent (ptOf x).k=some (numOf x.v):=by
        rw [hent,a3]
        intro e
        rw [e,he] at a3
        cases a3
       rw [if_pos a2,if_pos a2,a3,a4,Option.getD_some,hino _ (hnot x hxL a2)]
      ·rw [if_neg a2,if_neg a2]
   rw [h4]
   exact hr.str (ptOf x) (List.mem_map.2 ⟨x,hxL,rfl⟩)
  ·refine stray_of_1 (n:=n) ?_ ?_ (.inr ?_)
   ·show (deK (Fi.kI i)).K=1
    rw [hkI]
    rfl
   ·show (vo (pts M)).ino (deK (Fi.kI i)).I=some n
    rw [hkI]
    exact hinoi
   ·show (vo (pts M)).nmd (deK (Fi.kI i)).I=n.L
    rw [hkI,h1]
    exact hst
  ·unfold stray
   have e1:(ptOf (⟨wrK k0,nB i 4⟩:Itm)).k=k0:=hd0
   rw [e1,hino _ hki,hd]
   dsimp only
   rw [if_neg (by omega),if_pos h2,henk,Option.getD_some,hinoi,hm]
   rfl
 ·have hupL:∀ k j,j≠i→up (vo (pts L)) k j=1→up (vo (pts M)) k j=1:=by
   intro k
   induction k with
   | zero=>intro j _ e;exact e
   | succ k ih =>
    intro j hji e
    show up _ k ((vo (pts M)).abv j)=1
    rw [(hsame j hji).2]
    refine ih _ (fun e2=>?_) e
    obtain⟨q,hq,q1,_,q3⟩:=abv_of (pts L) (i:=j) (by rw [e2];omega)
    obtain⟨x,hx,rfl⟩:=pts_mem hq
    exact (hnew x hx).1 (q3.symm.trans e2)
  intro j m' hj hm'
  by_cases hji:j=i
  ·obtain⟨k,hk2⟩:=hr.ups _ _ hd hm
   refine⟨k+1,?_⟩
   show up _ k ((vo (pts M)).abv j)=1
   rw [hji,habv]
   exact hupL k _ hki hk2
  ·rw [hino j hji] at hj
   obtain⟨k,hk2⟩:=hr.ups j m' hj hm'
   exact⟨k,hupL k j hji hk2⟩
variable {L M:List Itm}{s s':Vo}{C:List Ch}{p:ByteArray}
theorem wkN_mono {fo:Bool}(hE:∀ k j,s.ent k=some j→s'.ent k=some j∧kind s' j=kind s j∧tgtOf s' j=tgtOf s j){nx nx':ByteArray→List ByteArray→Nat×Int}(h:∀ t ys,(nx t ys).2=0→nx' t ys=nx t ys):∀ (xs:List ByteArray) (a:Nat),kind s' a=kind s a→(wkN s fo nx a xs).2=0→wkN s' fo nx' a xs=wkN s fo nx a xs
 | [],a,_,_=>rfl
 | x::xs,a,ha,h0=>by
  simp only [wkN] at h0 ⊢
  rw [ha]
  by_cases hk:kind s a≠1
  ·rw [if_pos hk] at h0;cases h0
  ·rw [if_neg hk] at h0 ⊢
   cases he:s.ent ⟨2,a,x,0⟩ with
   | none=>rw [he] at h0;cases h0
   | some j =>
    obtain⟨e1,e2,e3⟩:=hE _ _ he
    rw [he] at h0
    rw [e1,if_neg hk]
    dsimp only at h0 ⊢
    rw [e2,e3]
    split at h0
    ·rename_i h1
     rw [if_pos h1,if_pos h1]
     exact wkN_mono hE h xs j e2 h0
    ·rename_i h1
     rw [if_neg h1,if_neg h1]
     exact h _ _ h0
theorem wkL_mono {fo:Bool}(hE:∀ k j,s.ent k=some j→s'.ent k=some j∧kind s' j=kind s j∧tgtOf s' j=tgtOf s j) (h1:kind s' 1=kind s 1):∀ (r a:Nat) (xs:List ByteArray),kind s' a=kind s a→(wkL s fo r a xs).2=0→wkL s' fo r a xs=wkL s fo r a xs
 | 0,a,xs,ha,h0=>wkN_mono hE (fun _ _ _=>rfl) xs a ha h0
 | r+1,a,xs,ha,h0=>wkN_mono hE (fun t ys h2=>by
  split
  ·rename_i h3
   rw [if_pos h3] at h2
   exact wkL_mono hE h1 r 1 _ h1 h2
  ·rfl) xs a ha h0
theorem fr_at (h:rgt L=true) (hx:frX L p=0):∃ (k0:Ky) (m:In),okK k0=true∧k0.lim∧k0=⟨2,(wlk L true (laD p)).1,laN p,0⟩∧(vo (pts L)).ent k0=none∧(vo (pts L)).ino k0.I=some m∧m.K=1∧(pl L p).k=wrK k0∧laX p=0∧(wlk L true (laD p)).2=0∧ldX L p false=5:=by
 unfold frX at hx
 by_cases hc:plX L p=0∧(pl L p).i≠0
 ·rw [if_pos hc] at hx;cases hx
 rw [if_neg hc] at hx
 have hz:(pl L p).i=0:=Decidable.not_not.1 fun e=>hc ⟨hx,e⟩
 obtain⟨h1,h2,h3,h4⟩:=pl_yes hx
 obtain⟨g1,g2,g3⟩:=la_all h1
 obtain⟨m,hm,_⟩:=wlk_some h h2
 obtain⟨m1,m2,_,_⟩:=ino_num h hm
 have hK:okK ⟨2,(wlk L true (laD p)).1,laN p,0⟩=true:=okK_iff.2 ⟨m1,.inr (.inl ⟨.inl rfl,g3,rfl⟩)⟩
 have hlim:Ky.lim ⟨2,(wlk L true (laD p)).1,laN p,0⟩:=⟨show (2:Nat)<256 by decide,m2,show (0:Nat)<4294967296 by decide⟩
 have he:(vo (pts L)).ent ⟨2,(wlk L true (laD p)).1,laN p,0⟩=none:=by
  cases e:(vo (pts L)).ent ⟨2,(wlk L true (laD p)).1,laN p,0⟩ with
  | none=>rfl
  | some j =>
   have hi:(pl L p).i=((vo (pts L)).ent ⟨2,(wlk L true (laD p)).1,laN p,0⟩).getD 0:=by
    rw [h4]
    exact enn_ent h hK hlim rfl
   rw [hz,e] at hi
   have hj:=ent_ino h _ _ e
   obtain⟨q,hq⟩:=Option.isSome_iff_exists.1 hj
   have:=(ino_num h hq).1
   have hi':0=j:=hi
   omega
 have hkd:m.K=1:=by
  rw [nd_some h hm] at h3
  exact h3
 refine⟨_,m,hK,hlim,rfl,he,hm,hkd,?_,h1,h2,?_⟩
 ·rw [h4]
  exact (chK_yes hK).2
 ·unfold ldX
  rw [if_pos g1]
  have e1:wlk L false (spB p)=one (vo (pts L)) (laN p) (wlk L true (laD p)):=by rw [wlk_C h,wlk_C h,← g2,wkL_snoc]
  have hk2:kind (vo (pts L)) (wlk L true (laD p)).1=1:=by
   unfold kind
   rw [hm]
   exact hkd
  rw [e1]
  unfold one
  rw [if_pos h2,if_neg (by rw [hk2];decide),he]
def nwI (o:Op):In:=if o.K=1 then ⟨2,o.M,1,0,ByteArray.empty⟩ else if o.K=2 then ⟨1,o.M,1,0,ByteArray.empty⟩ else ⟨3,o.M,1,o.T.size,o.T⟩
theorem nwI_is {o:Op}(ho:o.lim):(nwI o).lim∧(nwI o).M=o.M∧(nwI o).L=1∧((nwI o).K=1↔o.K=2):=by
 obtain⟨h1,h2,h3,h4,h5,h6,h7⟩:=ho
 unfold nwI
 split
 ·rename_i h
  exact⟨⟨show (2:Nat)<256 by decide,h2,show (1:Nat)<4294967296 by decide,show (0:Nat)<4294967296 by decide⟩,rfl,rfl,⟨fun e=>absurd (show (2:Nat)=1 from e) (by decide),fun e=>by omega⟩⟩
 ·split
  ·rename_i h
   exact⟨⟨show (1:Nat)<256 by decide,h2,show (1:Nat)<4294967296 by decide,show (0:Nat)<4294967296 by decide⟩,rfl,rfl,⟨fun _=>h,fun _=>rfl⟩⟩
  ·rename_i ha hb
   exact⟨⟨show (3:Nat)<256 by decide,h2,show (1:Nat)<4294967296 by decide,by show o.T.size<4294967296;omega⟩,rfl,rfl,⟨fun e=>absurd (show (3:Nat)=1 from e) (by decide),fun e=>absurd e hb⟩⟩
def makes (o:Op):Prop:=o.K=1∨o.K=2∨o.K=3
theorem mk_t {o:Op}(h:makes o):¬ tells o:=by
 unfold makes at h
 rintro (e | e | e | e)<;>omega
theorem mk_ch {o:Op}(h:makes o):chX L o=crX L o.P (nwI o)∧chC L o=crC L o.P (nwI o):=by
 obtain⟨K,P,T,m,O,N,D⟩:=o
 unfold makes at h
 dsimp only at h
 rcases h with rfl | rfl | rfl<;>exact⟨rfl,rfl⟩
def oV (p:ByteArray):Op:=⟨9,p,⟨#[]⟩,0,0,0,⟨#[]⟩⟩
def oB (o:Op):Op:=if o.K=2 then oR o.P else oV o.P
theorem oV_t:¬ tells (oV p):=by rintro (h | h | h | h)<;>cases h
set_option maxHeartbeats 1000000 in
theorem named_all {o:Op}(hk:makes o) (ho:o.lim) (hlen:L.length<4294967290) (h0:dX L o=0):∃ (i:Nat) (n:In),n.M=o.M∧n.L=1∧(aft L o).length≤L.length+2∧dX (aft L o) (oU o.P)=0∧dT (aft L o) (oU o.P)={ zTd with i:=i,n:=n }∧dX L (oU o.P)=5∧dX (aft L o) (oB o)=0∧aft (aft L o) (oB o)=L∧i<4294967296:=by
 have h:=dX_rgt h0
 obtain⟨n1,n2,n3,n4⟩:=nwI_is ho
 obtain⟨c1,c2⟩:=mk_ch (L:=L) hk
 have h1:=h0
 rw [dX_ch h (mk_t hk),c1] at h1
 unfold crX at h1
 have hf:frX L o.P=0:=by
  by_cases e:frX L o.P=0
  ·exact e
  ·rw [if_pos e] at h1;exact absurd h1 e
 rw [if_neg (by rw [hf];decide)] at h1
 have hok:okI (nwI o)=true:=by
  cases e:okI (nwI o) with
  | true=>rfl
  | false=>rw [(chI_no e).1] at h1;cases h1
 obtain⟨k0,m,a1,a2,a3,a4,a5,a6,a7,a8,a9,a10⟩:=fr_at h hf
 obtain⟨j,hj⟩:=nx_ex hlen
 have hnx:=nxt_of hj
 obtain⟨j1,j2,j3,j4⟩:=hj
 have hC:chC L o=[kept (nwI o) j,⟨wrK k0,true,nB j 4⟩]:=by
  rw [c2]
  unfold crC names
  rw [hnx,a7]
 have hk2:k0.K=2:=by rw [a3]
 obtain⟨b1,b2,b3,b4,b5,b6,b7,b8⟩:=mk_right h j1 j2 j3 hok n1 n3 a1 a2 hk2 a4 a5 a6 hC
 have hM:aft L o=app L (chC L o):=aft_ch h (mk_t hk) h0 b2
 have hl:(aft L o).length≤L.length+2:=by
  rw [hM]
  have:=app_len (chC L o) L
  rw [hC] at this ⊢
  simpa using this
 rw [← hM] at b1 b3 b4 b5 b6 b7
 clear hM hC c1 c2
 generalize nwI o=n at *
 generalize aft L o=M at *
 -- the walk to its place
 have hr:=rgt_iff.1 h
 have hEm:∀ k q,(vo (pts L)).ent k=some q→(vo (pts M)).ent k=some q∧kind (vo (pts M)) q=kind (vo (pts L)) q∧tgtOf (vo (pts M)) q=tgtOf (vo (pts L)) q:=fun k q e=>by
  have e1:k≠k0:=fun e2=>by rw [e2,a4] at e;cases e
  have e2:q≠j:=fun e2=>by
   have:=ent_ino h _ _ e
   rw [e2,j3] at this
   cases this
  refine⟨(b6 k e1).trans e,?_,?_⟩
  ·unfold kind;rw [b5 q e2]
  ·unfold tgtOf;rw [b5 q e2]
 have hk1:kind (vo (pts M)) 1=kind (vo (pts L)) 1:=by unfold kind;rw [b5 1 (by omega)]
 have hw:wlk M true (laD o.P)=wlk L true (laD o.P):=by
  rw [wlk_C b1,wlk_C h]
  exact wkL_mono hEm hk1 8 1 _ hk1 (by rw [← wlk_C h];exact a9)
 have hdI:k0.I=(wlk L true (laD o.P)).1:=by rw [a3]
 have hjd:k0.I≠j:=fun e=>by rw [e,j3] at a5;cases a5
 have hndd:nd M (wlk L true (laD o.P)).1=m:=nd_some b1 (by rw [← hdI,b5 _ hjd];exact a5)
 have hpx:plX M o.P=0:=by
  unfold plX
  rw [if_neg (by rw [a8];decide),hw,if_neg (by rw [a9];decide),hndd,if_neg (by rw [a6];decide)]
 have hpl:pl M o.P=⟨(wlk L true (laD o.P)).1,wrK k0,j⟩:=by
  unfold pl pl0
  rw [if_pos hpx,hw]
  have e1:kE (wlk L true (laD o.P)).1 (laN o.P)=enK k0:=by rw [a3];rfl
  rw [e1,enn_ent b1 a1 a2 hk2,b4,(chK_yes a1).2]
  rfl
 have hpi:(pl M o.P).i=j:=by rw [hpl]
 have hnm:nmX M o.P=0:=by
  unfold nmX
  rw [if_neg (by rw [hpi];omega)]
  exact hpx
 obtain⟨_,n',_,_,_,_,_,d6,d7,d8,_⟩:=nm_at b1 hnm
 rw [hpi] at d6 d8
 have hn':n'=n:=by rw [b3] at d6;exact (Option.some.inj d6).symm
 subst hn'
 have hnd:=nd_some b1 b3
 have hU:dX M (oU o.P)=0:=(dX_td b1 oU_t).trans d7
 have hCb:gn M j++[isFree (pl M o.P)]=gn M j++[⟨wrK k0,false,ByteArray.empty⟩]:=by rw [hpl];rfl
 have hlg:letGo M (pl M o.P)=gn M j++[⟨wrK k0,false,ByteArray.empty⟩]:=by
  unfold letGo
  rw [hpi,hnd,n3,if_pos (by decide),hCb]
 obtain⟨g1,g2⟩:=gone_mem b1 (by omega) j2 a1 rfl
 have hback:app M (gn M j++[⟨wrK k0,false,ByteArray.empty⟩])=L:=by
  refine It.up_ext (up_app _ (rgt_up b1)) (rgt_up h) fun x=>?_
  rw [g1,b7]
  constructor
  ·rintro ⟨e | e | e,e2,e3⟩
   ·exact e
   ·refine absurd ?_ e2
    rw [e]
    show (deK (Fi.kI j)).I=j
    rw [kI_wr (by omega),(deK_back (kI_lim j2) (kI_ok (by omega))).1]
    rfl
   ·exact absurd (by rw [e]) e3
  ·intro hx
   exact⟨.inl hx,b8 x hx⟩
 have hisd:isD M j=decide (o.K=2):=by
  unfold isD
  rw [hnd]
  exact decide_eq_decide.2 n4
 have hbz:busy M j=false:=by
  cases e:busy M j with
  | false=>rfl
  | true =>
   obtain⟨x,hx,e2,e3⟩:=(busy_iff b1 (by omega) j2).1 e
   rcases (b7 x).1 hx with e4 | e4 | e4
   ·exact absurd e3 (b8 x e4).1
   ·rw [e4] at e2
    dsimp only at e2
    rw [kI_wr (by omega),(deK_back (kI_lim j2) (kI_ok (by omega))).1] at e2
    exact absurd (show (1:Nat)=2 from e2) (by decide)
   ·rw [e4] at e3
    dsimp only at e3
    rw [(deK_back a2 a1).1] at e3
    exact absurd e3 hjd
 have hR:dX M (oB o)=0∧chC M (oB o)=letGo M (pl M o.P)∧¬ tells (oB o):=by
  unfold oB
  by_cases e:o.K=2
  ·rw [if_pos e]
   refine⟨?_,chC_10 rfl,oR_t⟩
   rw [dX_oR b1,if_neg (by rw [hnm];decide),hpi,hisd,decide_eq_true e,if_pos rfl,hbz]
   rfl
  ·rw [if_neg e]
   refine⟨?_,chC_9 rfl,oV_t⟩
   rw [dX_ch b1 oV_t]
   show (if nmX M o.P≠0 then nmX M o.P else if isD M (pl M o.P).i then 11 else 0:Int)=0
   rw [if_neg (by rw [hnm];decide),hpi,hisd,decide_eq_false e]
   rfl
 refine⟨j,n',n2,n3,hl,hU,?_,(dX_td h oU_t).trans a10,hR.1,?_,j2⟩
 ·rw [dT_td oU_t hU]
  show ({ zTd with i:=ldI M o.P false,n:=ldN M o.P false }:Td)=_
  have:ldN M o.P false=n':=by
   unfold ldN
   rw [if_pos d7,d8,hnd]
  rw [d8,this]
 ·rw [aft_ch b1 hR.2.2 hR.1 (by rw [hR.2.1,hlg];exact g2),hR.2.1,hlg]
  exact hback
end Go.Proofs.YtopepebcnaikiaaGreatDoor.Fi
namespace Go.Proofs.YtopepebcnaikiaaGreatDoor.Fi
open Lib (hid)
set_option linter.unusedVariables false
set_option linter.unusedSimpArgs false
set_option maxRecDepth 100000
open Go.ChangeShapes Go.WideShapes Go.ChangeAt Go.RowKit
open BigFrame
open Ar Rg
open Ino
open It (Itm Ch get und app dif rt rc enc er getV get_any under_any apply_any diff_any MkI MkC)
open Di (ItA wlk rgt rgt_iff numOf Vo vo pts lsX lsL up En NmA Walk_any Up MkE List_any New_any L0 encEn encEn_len)
open Ph (nb spX spB laX laD laN)
open Pk (nB nE tN tR tE number_any take_any)
variable {w w' wr:World}{A:Option Addr}{n c:Nat}{L:List Itm}
theorem same_T {A A':Option Addr}{n c n' c':Nat}(hI:ItA w A n L) (hJ:ItA w A' n' L):Calls Tryz.prog 15 #[.slice A n c,.slice A' n' c'] w fun e w'=>e=.returned (.bool true)∧Below w.heap.size w w':=by
 have h:=It.same_any L L A A' n c n' c' w.heap.size w.heap.size hI.1 hJ.1 (by have:=hI.2.1;omega) w (Nat.le_refl _) (Nat.le_refl _) hI.2.2 hJ.2.2
 rw [It.sm_iff.2 rfl] at h
 exact h
variable {w w' wr:World}{A:Option Addr}{n c:Nat}{L:List Itm}
theorem af0 {o:Op}{L':List Itm}{d:Td}{x:Int}(hI:ItA w A n L) (hc:n≤c) (hcm:c≤maxLen) (ho:o.lim) (hx:dX L o=x) (ha:aft L o=L') (hd:dT L o=d) (hl:L'.length≤1390000) (he:d.e=[]):Calls Tryz.prog 14 #[.slice A n c,vOp o] w fun e w' =>
  ∃ (A':Option Addr) (n' c':Nat) (A9:Option Addr) (c9:Nat),e=.returned (.tuple #[.slice A' n' c',vTd d (.slice A9 0 c9),.int .i64 x])∧n'≤c'∧c'≤maxLen∧ItA w' A' n' L'∧Below w.heap.size w w':=by
 refine (af hI hc hcm ho hx ha hd hl).mono ?_
 rintro e w' ⟨A',n',c',A9,m9,c9,rfl,h1,h2,h3,h4,_,h6⟩
 rw [he] at h1
 subst h1
 exact⟨A',n',c',A9,c9,rfl,h2,h3,h4,h6⟩
variable {w w' wr:World}{A:Option Addr}{n c:Nat}{L:List Itm}
theorem row7 (K M O N:Int) (P T D:ByteArray):(#[.int .u8 K,.string P,.string T,.int .u16 M,.int .u32 O,.int .u32 N,.string D]:Array Value).all (·.oneCell')=true:=by simp [Value.oneCell']
set_option maxHeartbeats 4000000 in
theorem named_X1 {oQ oO oN:Nat}{oP oT oD:ByteArray}(hI:ItA w A n L) (hc:n≤c) (hcm:c≤maxLen) (hn:n≤1048576) (ho:Op.lim ⟨1,oP,oT,oQ,oO,oN,oD⟩) (h0:dX L ⟨1,oP,oT,oQ,oO,oN,oD⟩≠0):Calls Tryz.prog 5 #[.slice A n c,.agg #[.int .u8 1,.string oP,.string oT,.int .u16 oQ,.int .u32 oO,.int .u32 oN,.string oD]] w fun e w'=>e=.returned (.bool true)∧Below w.heap.size w w':=by
 have hlL:L.length≤1048576:=by have:=hI.1;omega
 have hk:makes ⟨1,oP,oT,oQ,oO,oN,oD⟩:=.inl rfl
 have C1:=hid (fun (w:World) (A:Option Addr) (n c:Nat) (hI:ItA w A n (L)) (hc:n≤c) (hcm:c≤maxLen)=>af0 (o:=⟨1,oP,oT,oQ,oO,oN,oD⟩) (L:=L) (L':=L) (d:=zTd) (x:=dX L ⟨1,oP,oT,oQ,oO,oN,oD⟩) hI hc hcm ho rfl (aft_no h0) (dT_ch (mk_t hk)) (by omega) rfl)
 rw [show vOp (⟨1,oP,oT,oQ,oO,oN,oD⟩)=.agg #[.int .u8 1,.string oP,.string oT,.int .u16 oQ,.int .u32 oO,.int .u32 oN,.string oD] from rfl] at C1
 have e5:=ne0 h0
 generalize dX L ⟨1,oP,oT,oQ,oO,oN,oD⟩=x1 at *
 have HI:=hid hI
 have HN:=hid (And.intro hc hcm)
 clear hI hc hcm hn ho hlL h0 hk
 have HN:=hid (one_new w #[.int .u8 1,.string oP,.string oT,.int .u16 oQ,.int .u32 oO,.int .u32 oN,.string oD] 31)
 go_enter Tryz.func5,Tryz.ntmps5
 go_wp2_with fail
 try generalize (w.alloc (.cells #[.int .u8 1,.string oP,.string oT,.int .u16 oQ,.int .u32 oO,.int .u32 oN,.string oD] 31))=w0 at *
 have Ro:=hid HN.out.1
 have B:=hid HN.out.2.1
 replace HI:=hid (HI.out.go B.out)
 clear HN
 obtain⟨co0,co1,co2,co3,co4,co5,co6⟩:=cl7 Ro.out
 refine (lives_any w0).mono ?_
 rintro e w1 ⟨rfl,hb⟩
 clear co0 co1 co2 co3 co4 co5 co6
 replace Ro:=gg Ro hb
 replace HI:=hid (HI.out.go hb)
 replace B:=gb B hb
 obtain⟨co0,co1,co2,co3,co4,co5,co6⟩:=cl7 Ro.out
 clear hb
 go_wp2_with (first
  | (refine wpList_load_row rfl 31 (.tmp 3) rfl (w.heap.size) rfl 31 #[.int .u8 1,.string oP,.string oT,.int .u16 oQ,.int .u32 oO,.int .u32 oN,.string oD] (0,0) _ Ro.out Tryz.underlying31 rfl (by kernel_rfl) ?_)
  | (go_at_call 14;refine (C1.out w1 A n c HI.out HN.out.1 HN.out.2).mono ?_;rintro e w2 ⟨A1,n1,c1,E1,e1,rfl,hn9,hc9,hI9,hb⟩;clear co0 co1 co2 co3 co4 co5 co6;replace Ro:=gg Ro hb;replace HI:=hid (HI.out.go hb);replace B:=gb B hb;clear hI9 hn9 hc9;obtain⟨co0,co1,co2,co3,co4,co5,co6⟩:=cl7 Ro.out;clear hb)
  | (refine new_row rfl 38 (.tmp 6) (.tmp 38) rfl rfl #[.string ⟨#[]⟩,.int .u32 0,.int .u8 0,.int .u16 0,.int .u32 0,.int .u32 0,.string ⟨#[]⟩,.slice E1 0 e1] rfl rfl (by kernel_rfl) rfl (row8 _ _ _ _ _ _ _ _ _ _) ?_;intro w3 M;clear co0 co1 co2 co3 co4 co5 co6;replace Ro:=gg Ro M.2.1;replace HI:=hid (HI.out.go M.2.1);replace B:=gb B M.2.1;have Ra:=hid M.1;obtain⟨co0,co1,co2,co3,co4,co5,co6⟩:=cl7 Ro.out;obtain⟨ca0,ca1,ca2,ca3,ca4,ca5,ca6,ca7⟩:=cl8 Ra.out;clear M))
 go_ret
 exact⟨rfl,B.out⟩
set_option maxHeartbeats 4000000 in
theorem named_B1 {oQ oO oN:Nat}{oP oT oD:ByteArray}(hI:ItA w A n L) (hc:n≤c) (hcm:c≤maxLen) (hn:n≤1048576) (ho:Op.lim ⟨1,oP,oT,oQ,oO,oN,oD⟩) (h0:dX L ⟨1,oP,oT,oQ,oO,oN,oD⟩=0):Calls Tryz.prog 5 #[.slice A n c,.agg #[.int .u8 1,.string oP,.string oT,.int .u16 oQ,.int .u32 oO,.int .u32 oN,.string oD]] w fun e w'=>e=.returned (.bool true)∧Below w.heap.size w w':=by
 have hlL:L.length≤1048576:=by have:=hI.1;omega
 have hk:makes ⟨1,oP,oT,oQ,oO,oN,oD⟩:=.inl rfl
 obtain⟨i,nn,k1,k2,k3,k4,k5,k6,k7,k8,k9⟩:=named_all hk ho (by omega) h0
 obtain⟨nK,nM,nL,nS,nT⟩:=nn
 dsimp only at k1 k2
 replace k1:=k1.symm
 subst k1 k2
 have C1:=hid (fun (w:World) (A:Option Addr) (n c:Nat) (hI:ItA w A n (L)) (hc:n≤c) (hcm:c≤maxLen)=>af0 (o:=⟨1,oP,oT,oQ,oO,oN,oD⟩) (L:=L) (L':=aft L ⟨1,oP,oT,oQ,oO,oN,oD⟩) (d:=zTd) (x:=0) hI hc hcm ho h0 rfl (dT_ch (mk_t hk)) (by omega) rfl)
 rw [show vOp (⟨1,oP,oT,oQ,oO,oN,oD⟩)=.agg #[.int .u8 1,.string oP,.string oT,.int .u16 oQ,.int .u32 oO,.int .u32 oN,.string oD] from rfl] at C1
 generalize aft L ⟨1,oP,oT,oQ,oO,oN,oD⟩=M at *
 have C2:=hid (fun (w:World) (A:Option Addr) (n c:Nat) (hI:ItA w A n (M)) (hc:n≤c) (hcm:c≤maxLen)=>af0 (o:=oU oP) (L:=M) (L':=M) (d:={ zTd with i:=i,n:=⟨nK,oQ,1,nS,nT⟩ }) (x:=0) hI hc hcm ⟨show (11:Nat)<256 by decide,show (0:Nat)<65536 by decide,show (0:Nat)<4294967296 by decide,show (1:Nat)<4294967296 by decide,ho.2.2.2.2.1,show (0:Nat)≤1048576 by decide,show (0:Nat)≤1048576 by decide⟩ k4 (aft_tl oU_t) k5 (by omega) rfl)
 rw [show vOp (oU oP)=.agg #[.int .u8 11,.string oP,.string ⟨#[]⟩,.int .u16 0,.int .u32 0,.int .u32 1,.string ⟨#[]⟩] from rfl] at C2
 have C3:=hid (fun (w:World) (A:Option Addr) (n c:Nat) (hI:ItA w A n (L)) (hc:n≤c) (hcm:c≤maxLen)=>af0 (o:=oU oP) (L:=L) (L':=L) (d:=zTd) (x:=5) hI hc hcm ⟨show (11:Nat)<256 by decide,show (0:Nat)<65536 by decide,show (0:Nat)<4294967296 by decide,show (1:Nat)<4294967296 by decide,ho.2.2.2.2.1,show (0:Nat)≤1048576 by decide,show (0:Nat)≤1048576 by decide⟩ k6 (aft_tl oU_t) (dT_no (by rw [k6];decide)) (by omega) rfl)
 rw [show vOp (oU oP)=.agg #[.int .u8 11,.string oP,.string ⟨#[]⟩,.int .u16 0,.int .u32 0,.int .u32 1,.string ⟨#[]⟩] from rfl] at C3
 have C4:=hid (fun (w:World) (A:Option Addr) (n c:Nat) (hI:ItA w A n (M)) (hc:n≤c) (hcm:c≤maxLen)=>af0 (o:=oV oP) (L:=M) (L':=L) (d:=zTd) (x:=0) hI hc hcm ⟨show (9:Nat)<256 by decide,show (0:Nat)<65536 by decide,show (0:Nat)<4294967296 by decide,show (0:Nat)<4294967296 by decide,ho.2.2.2.2.1,show (0:Nat)≤1048576 by decide,show (0:Nat)≤1048576 by decide⟩ k7 k8 (dT_ch oV_t) (by omega) rfl)
 rw [show vOp (oV oP)=.agg #[.int .u8 9,.string oP,.string ⟨#[]⟩,.int .u16 0,.int .u32 0,.int .u32 0,.string ⟨#[]⟩] from rfl] at C4
 clear k3 k4 k5 k6 k7 k8 k9
 have HI:=hid hI
 have HN:=hid (And.intro hc hcm)
 clear hI hc hcm hn ho hlL h0 hk
 have HN:=hid (one_new w #[.int .u8 1,.string oP,.string oT,.int .u16 oQ,.int .u32 oO,.int .u32 oN,.string oD] 31)
 go_enter Tryz.func5,Tryz.ntmps5
 go_wp2_with fail
 try generalize (w.alloc (.cells #[.int .u8 1,.string oP,.string oT,.int .u16 oQ,.int .u32 oO,.int .u32 oN,.string oD] 31))=w0 at *
 have Ro:=hid HN.out.1
 have B:=hid HN.out.2.1
 replace HI:=hid (HI.out.go B.out)
 clear HN
 obtain⟨co0,co1,co2,co3,co4,co5,co6⟩:=cl7 Ro.out
 refine (lives_any w0).mono ?_
 rintro e w1 ⟨rfl,hb⟩
 clear co0 co1 co2 co3 co4 co5 co6
 replace Ro:=gg Ro hb
 replace HI:=hid (HI.out.go hb)
 replace B:=gb B hb
 obtain⟨co0,co1,co2,co3,co4,co5,co6⟩:=cl7 Ro.out
 clear hb
 go_wp2_with (first
  | (refine wpList_load_row rfl 31 (.tmp 3) rfl (w.heap.size) rfl 31 #[.int .u8 1,.string oP,.string oT,.int .u16 oQ,.int .u32 oO,.int .u32 oN,.string oD] (0,0) _ Ro.out Tryz.underlying31 rfl (by kernel_rfl) ?_)
  | (go_at_call 14;refine (C1.out w1 A n c HI.out HN.out.1 HN.out.2).mono ?_;rintro e w2 ⟨A1,n1,c1,E1,e1,rfl,hn9,hc9,hI9,hb⟩;have HIM:=hid hI9;have HNM:=hid (And.intro hn9 hc9);clear co0 co1 co2 co3 co4 co5 co6;replace Ro:=gg Ro hb;replace HI:=hid (HI.out.go hb);replace B:=gb B hb;clear hI9 hn9 hc9;obtain⟨co0,co1,co2,co3,co4,co5,co6⟩:=cl7 Ro.out;clear hb)
  | (refine new_row rfl 38 (.tmp 6) (.tmp 38) rfl rfl #[.string ⟨#[]⟩,.int .u32 0,.int .u8 0,.int .u16 0,.int .u32 0,.int .u32 0,.string ⟨#[]⟩,.slice E1 0 e1] rfl rfl (by kernel_rfl) rfl (row8 _ _ _ _ _ _ _ _ _ _) ?_;intro w3 M;clear co0 co1 co2 co3 co4 co5 co6;replace Ro:=gg Ro M.2.1;replace HI:=hid (HI.out.go M.2.1);replace HIM:=hid (HIM.out.go M.2.1);replace B:=gb B M.2.1;have Ra:=hid M.1;obtain⟨co0,co1,co2,co3,co4,co5,co6⟩:=cl7 Ro.out;obtain⟨ca0,ca1,ca2,ca3,ca4,ca5,ca6,ca7⟩:=cl8 Ra.out;clear M)
  | (go_at_call 14;refine (C2.out w3 A1 n1 c1 HIM.out HNM.out.1 HNM.out.2).mono ?_;rintro e w4 ⟨A2,n2,c2,E2,e2,rfl,hn9,hc9,hI9,hb⟩;clear co0 co1 co2 co3 co4 co5 co6 ca0 ca1 ca2 ca3 ca4 ca5 ca6 ca7;replace Ro:=gg Ro hb;replace Ra:=gg Ra hb;replace HI:=hid (HI.out.go hb);replace HIM:=hid (HIM.out.go hb);replace B:=gb B hb;clear hI9 hn9 hc9;obtain⟨co0,co1,co2,co3,co4,co5,co6⟩:=cl7 Ro.out;obtain⟨ca0,ca1,ca2,ca3,ca4,ca5,ca6,ca7⟩:=cl8 Ra.out;clear hb)
  | (refine new_row rfl 38 (.tmp 9) (.tmp 49) rfl rfl #[.string ⟨#[]⟩,.int .u32 i,.int .u8 nK,.int .u16 oQ,.int .u32 1,.int .u32 nS,.string nT,.slice E2 0 e2] rfl rfl (by kernel_rfl) rfl (row8 _ _ _ _ _ _ _ _ _ _) ?_;intro w5 M;clear co0 co1 co2 co3 co4 co5 co6 ca0 ca1 ca2 ca3 ca4 ca5 ca6 ca7;replace Ro:=gg Ro M.2.1;replace Ra:=gg Ra M.2.1;replace HI:=hid (HI.out.go M.2.1);replace HIM:=hid (HIM.out.go M.2.1);replace B:=gb B M.2.1;have Rb:=hid M.1;obtain⟨co0,co1,co2,co3,co4,co5,co6⟩:=cl7 Ro.out;obtain⟨ca0,ca1,ca2,ca3,ca4,ca5,ca6,ca7⟩:=cl8 Ra.out;obtain⟨cb0,cb1,cb2,cb3,cb4,cb5,cb6,cb7⟩:=cl8 Rb.out;clear M)
  | (go_at_call 14;refine (C3.out w5 A n c HI.out HN.out.1 HN.out.2).mono ?_;rintro e w6 ⟨A3,n3,c3,E3,e3,rfl,hn9,hc9,hI9,hb⟩;clear co0 co1 co2 co3 co4 co5 co6 ca0 ca1 ca2 ca3 ca4 ca5 ca6 ca7 cb0 cb1 cb2 cb3 cb4 cb5 cb6 cb7;replace Ro:=gg Ro hb;replace Ra:=gg Ra hb;replace Rb:=gg Rb hb;replace HI:=hid (HI.out.go hb);replace HIM:=hid (HIM.out.go hb);replace B:=gb B hb;clear hI9 hn9 hc9;obtain⟨co0,co1,co2,co3,co4,co5,co6⟩:=cl7 Ro.out;obtain⟨ca0,ca1,ca2,ca3,ca4,ca5,ca6,ca7⟩:=cl8 Ra.out;obtain⟨cb0,cb1,cb2,cb3,cb4,cb5,cb6,cb7⟩:=cl8 Rb.out;clear hb)
  | (refine new_row rfl 38 (.tmp 12) (.tmp 58) rfl rfl #[.string ⟨#[]⟩,.int .u32 0,.int .u8 0,.int .u16 0,.int .u32 0,.int .u32 0,.string ⟨#[]⟩,.slice E3 0 e3] rfl rfl (by kernel_rfl) rfl (row8 _ _ _ _ _ _ _ _ _ _) ?_;intro w7 M;clear co0 co1 co2 co3 co4 co5 co6 ca0 ca1 ca2 ca3 ca4 ca5 ca6 ca7 cb0 cb1 cb2 cb3 cb4 cb5 cb6 cb7;replace Ro:=gg Ro M.2.1;replace Ra:=gg Ra M.2.1;replace Rb:=gg Rb M.2.1;replace HI:=hid (HI.out.go M.2.1);replace HIM:=hid (HIM.out.go M.2.1);replace B:=gb B M.2.1;have Rc:=hid M.1;obtain⟨co0,co1,co2,co3,co4,co5,co6⟩:=cl7 Ro.out;obtain⟨ca0,ca1,ca2,ca3,ca4,ca5,ca6,ca7⟩:=cl8 Ra.out;obtain⟨cb0,cb1,cb2,cb3,cb4,cb5,cb6,cb7⟩:=cl8 Rb.out;obtain⟨cc0,cc1,cc2,cc3,cc4,cc5,cc6,cc7⟩:=cl8 Rc.out;clear M)
  | (refine new_row rfl 31 (.tmp 14) (.tmp 62) rfl rfl #[.int .u8 9,.string oP,.string ⟨#[]⟩,.int .u16 0,.int .u32 0,.int .u32 0,.string ⟨#[]⟩] rfl rfl (by kernel_rfl) rfl (row7 _ _ _ _ _ _ _) ?_;intro w8 M;clear co0 co1 co2 co3 co4 co5 co6 ca0 ca1 ca2 ca3 ca4 ca5 ca6 ca7 cb0 cb1 cb2 cb3 cb4 cb5 cb6 cb7 cc0 cc1 cc2 cc3 cc4 cc5 cc6 cc7;replace Ro:=gg Ro M.2.1;replace Ra:=gg Ra M.2.1;replace Rb:=gg Rb M.2.1;replace Rc:=gg Rc M.2.1;replace HI:=hid (HI.out.go M.2.1);replace HIM:=hid (HIM.out.go M.2.1);replace B:=gb B M.2.1;have Rq:=hid M.1;obtain⟨co0,co1,co2,co3,co4,co5,co6⟩:=cl7 Ro.out;obtain⟨ca0,ca1,ca2,ca3,ca4,ca5,ca6,ca7⟩:=cl8 Ra.out;obtain⟨cb0,cb1,cb2,cb3,cb4,cb5,cb6,cb7⟩:=cl8 Rb.out;obtain⟨cc0,cc1,cc2,cc3,cc4,cc5,cc6,cc7⟩:=cl8 Rc.out;obtain⟨cq0,cq1,cq2,cq3,cq4,cq5,cq6⟩:=cl7 Rq.out;clear M)
  | (refine wpList_load_row rfl 31 (.tmp 14) rfl (w7.heap.size) rfl 31 #[.int .u8 9,.string oP,.string ⟨#[]⟩,.int .u16 0,.int .u32 0,.int .u32 0,.string ⟨#[]⟩] (0,0) _ Rq.out Tryz.underlying31 rfl (by kernel_rfl) ?_)
  | (go_at_call 14;refine (C4.out w8 A1 n1 c1 HIM.out HNM.out.1 HNM.out.2).mono ?_;rintro e w9 ⟨A4,n4,c4,E4,e4,rfl,hn9,hc9,hI9,hb⟩;have HIK:=hid hI9;have HNK:=hid (And.intro hn9 hc9);clear co0 co1 co2 co3 co4 co5 co6 ca0 ca1 ca2 ca3 ca4 ca5 ca6 ca7 cb0 cb1 cb2 cb3 cb4 cb5 cb6 cb7 cc0 cc1 cc2 cc3 cc4 cc5 cc6 cc7 cq0 cq1 cq2 cq3 cq4 cq5 cq6;replace Ro:=gg Ro hb;replace Ra:=gg Ra hb;replace Rb:=gg Rb hb;replace Rc:=gg Rc hb;replace Rq:=gg Rq hb;replace HI:=hid (HI.out.go hb);replace HIM:=hid (HIM.out.go hb);replace B:=gb B hb;clear hI9 hn9 hc9;obtain⟨co0,co1,co2,co3,co4,co5,co6⟩:=cl7 Ro.out;obtain⟨ca0,ca1,ca2,ca3,ca4,ca5,ca6,ca7⟩:=cl8 Ra.out;obtain⟨cb0,cb1,cb2,cb3,cb4,cb5,cb6,cb7⟩:=cl8 Rb.out;obtain⟨cc0,cc1,cc2,cc3,cc4,cc5,cc6,cc7⟩:=cl8 Rc.out;obtain⟨cq0,cq1,cq2,cq3,cq4,cq5,cq6⟩:=cl7 Rq.out;clear hb)
  | (refine new_row rfl 38 (.tmp 16) (.tmp 72) rfl rfl #[.string ⟨#[]⟩,.int .u32 0,.int .u8 0,.int .u16 0,.int .u32 0,.int .u32 0,.string ⟨#[]⟩,.slice E4 0 e4] rfl rfl (by kernel_rfl) rfl (row8 _ _ _ _ _ _ _ _ _ _) ?_;intro w10 M;clear co0 co1 co2 co3 co4 co5 co6 ca0 ca1 ca2 ca3 ca4 ca5 ca6 ca7 cb0 cb1 cb2 cb3 cb4 cb5 cb6 cb7 cc0 cc1 cc2 cc3 cc4 cc5 cc6 cc7 cq0 cq1 cq2 cq3 cq4 cq5 cq6;replace Ro:=gg Ro M.2.1;replace Ra:=gg Ra M.2.1;replace Rb:=gg Rb M.2.1;replace Rc:=gg Rc M.2.1;replace Rq:=gg Rq M.2.1;replace HI:=hid (HI.out.go M.2.1);replace HIM:=hid (HIM.out.go M.2.1);replace HIK:=hid (HIK.out.go M.2.1);replace B:=gb B M.2.1;have Rd:=hid M.1;obtain⟨co0,co1,co2,co3,co4,co5,co6⟩:=cl7 Ro.out;obtain⟨ca0,ca1,ca2,ca3,ca4,ca5,ca6,ca7⟩:=cl8 Ra.out;obtain⟨cb0,cb1,cb2,cb3,cb4,cb5,cb6,cb7⟩:=cl8 Rb.out;obtain⟨cc0,cc1,cc2,cc3,cc4,cc5,cc6,cc7⟩:=cl8 Rc.out;obtain⟨cq0,cq1,cq2,cq3,cq4,cq5,cq6⟩:=cl7 Rq.out;obtain⟨cd0,cd1,cd2,cd3,cd4,cd5,cd6,cd7⟩:=cl8 Rd.out;clear M)
  | (go_at_call 15;refine (same_T (w:=w10) HIK.out HI.out).mono ?_;rintro e w11 ⟨rfl,hb⟩;clear co0 co1 co2 co3 co4 co5 co6 ca0 ca1 ca2 ca3 ca4 ca5 ca6 ca7 cb0 cb1 cb2 cb3 cb4 cb5 cb6 cb7 cc0 cc1 cc2 cc3 cc4 cc5 cc6 cc7 cq0 cq1 cq2 cq3 cq4 cq5 cq6 cd0 cd1 cd2 cd3 cd4 cd5 cd6 cd7;replace Ro:=gg Ro hb;replace Ra:=gg Ra hb;replace Rb:=gg Rb hb;replace Rc:=gg Rc hb;replace Rq:=gg Rq hb;replace Rd:=gg Rd hb;replace HI:=hid (HI.out.go hb);replace HIM:=hid (HIM.out.go hb);replace HIK:=hid (HIK.out.go hb);replace B:=gb B hb;obtain⟨co0,co1,co2,co3,co4,co5,co6⟩:=cl7 Ro.out;obtain⟨ca0,ca1,ca2,ca3,ca4,ca5,ca6,ca7⟩:=cl8 Ra.out;obtain⟨cb0,cb1,cb2,cb3,cb4,cb5,cb6,cb7⟩:=cl8 Rb.out;obtain⟨cc0,cc1,cc2,cc3,cc4,cc5,cc6,cc7⟩:=cl8 Rc.out;obtain⟨cq0,cq1,cq2,cq3,cq4,cq5,cq6⟩:=cl7 Rq.out;obtain⟨cd0,cd1,cd2,cd3,cd4,cd5,cd6,cd7⟩:=cl8 Rd.out;clear hb))
 go_ret
 exact⟨rfl,B.out⟩
set_option maxHeartbeats 4000000 in
theorem named_X2 {oQ oO oN:Nat}{oP oT oD:ByteArray}(hI:ItA w A n L) (hc:n≤c) (hcm:c≤maxLen) (hn:n≤1048576) (ho:Op.lim ⟨2,oP,oT,oQ,oO,oN,oD⟩) (h0:dX L ⟨2,oP,oT,oQ,oO,oN,oD⟩≠0):Calls Tryz.prog 5 #[.slice A n c,.agg #[.int .u8 2,.string oP,.string oT,.int .u16 oQ,.int .u32 oO,.int .u32 oN,.string oD]] w fun e w'=>e=.returned (.bool true)∧Below w.heap.size w w':=by
 have hlL:L.length≤1048576:=by have:=hI.1;omega
 have hk:makes ⟨2,oP,oT,oQ,oO,oN,oD⟩:=.inr (.inl rfl)
 have C1:=hid (fun (w:World) (A:Option Addr) (n c:Nat) (hI:ItA w A n (L)) (hc:n≤c) (hcm:c≤maxLen)=>af0 (o:=⟨2,oP,oT,oQ,oO,oN,oD⟩) (L:=L) (L':=L) (d:=zTd) (x:=dX L ⟨2,oP,oT,oQ,oO,oN,oD⟩) hI hc hcm ho rfl (aft_no h0) (dT_ch (mk_t hk)) (by omega) rfl)
 rw [show vOp (⟨2,oP,oT,oQ,oO,oN,oD⟩)=.agg #[.int .u8 2,.string oP,.string oT,.int .u16 oQ,.int .u32 oO,.int .u32 oN,.string oD] from rfl] at C1
 have e5:=ne0 h0
 generalize dX L ⟨2,oP,oT,oQ,oO,oN,oD⟩=x1 at *
 have HI:=hid hI
 have HN:=hid (And.intro hc hcm)
 clear hI hc hcm hn ho hlL h0 hk
 have HN:=hid (one_new w #[.int .u8 2,.string oP,.string oT,.int .u16 oQ,.int .u32 oO,.int .u32 oN,.string oD] 31)
 go_enter Tryz.func5,Tryz.ntmps5
 go_wp2_with fail
 try generalize (w.alloc (.cells #[.int .u8 2,.string oP,.string oT,.int .u16 oQ,.int .u32 oO,.int .u32 oN,.string oD] 31))=w0 at *
 have Ro:=hid HN.out.1
 have B:=hid HN.out.2.1
 replace HI:=hid (HI.out.go B.out)
 clear HN
 obtain⟨co0,co1,co2,co3,co4,co5,co6⟩:=cl7 Ro.out
 refine (lives_any w0).mono ?_
 rintro e w1 ⟨rfl,hb⟩
 clear co0 co1 co2 co3 co4 co5 co6
 replace Ro:=gg Ro hb
 replace HI:=hid (HI.out.go hb)
 replace B:=gb B hb
 obtain⟨co0,co1,co2,co3,co4,co5,co6⟩:=cl7 Ro.out
 clear hb
 go_wp2_with (first
  | (refine wpList_load_row rfl 31 (.tmp 3) rfl (w.heap.size) rfl 31 #[.int .u8 2,.string oP,.string oT,.int .u16 oQ,.int .u32 oO,.int .u32 oN,.string oD] (0,0) _ Ro.out Tryz.underlying31 rfl (by kernel_rfl) ?_)
  | (go_at_call 14;refine (C1.out w1 A n c HI.out HN.out.1 HN.out.2).mono ?_;rintro e w2 ⟨A1,n1,c1,E1,e1,rfl,hn9,hc9,hI9,hb⟩;clear co0 co1 co2 co3 co4 co5 co6;replace Ro:=gg Ro hb;replace HI:=hid (HI.out.go hb);replace B:=gb B hb;clear hI9 hn9 hc9;obtain⟨co0,co1,co2,co3,co4,co5,co6⟩:=cl7 Ro.out;clear hb)
  | (refine new_row rfl 38 (.tmp 6) (.tmp 38) rfl rfl #[.string ⟨#[]⟩,.int .u32 0,.int .u8 0,.int .u16 0,.int .u32 0,.int .u32 0,.string ⟨#[]⟩,.slice E1 0 e1] rfl rfl (by kernel_rfl) rfl (row8 _ _ _ _ _ _ _ _ _ _) ?_;intro w3 M;clear co0 co1 co2 co3 co4 co5 co6;replace Ro:=gg Ro M.2.1;replace HI:=hid (HI.out.go M.2.1);replace B:=gb B M.2.1;have Ra:=hid M.1;obtain⟨co0,co1,co2,co3,co4,co5,co6⟩:=cl7 Ro.out;obtain⟨ca0,ca1,ca2,ca3,ca4,ca5,ca6,ca7⟩:=cl8 Ra.out;clear M))
 go_ret
 exact⟨rfl,B.out⟩
set_option maxHeartbeats 4000000 in
theorem named_B2 {oQ oO oN:Nat}{oP oT oD:ByteArray}(hI:ItA w A n L) (hc:n≤c) (hcm:c≤maxLen) (hn:n≤1048576) (ho:Op.lim ⟨2,oP,oT,oQ,oO,oN,oD⟩) (h0:dX L ⟨2,oP,oT,oQ,oO,oN,oD⟩=0):Calls Tryz.prog 5 #[.slice A n c,.agg #[.int .u8 2,.string oP,.string oT,.int .u16 oQ,.int .u32 oO,.int .u32 oN,.string oD]] w fun e w'=>e=.returned (.bool true)∧Below w.heap.size w w':=by
 have hlL:L.length≤1048576:=by have:=hI.1;omega
 have hk:makes ⟨2,oP,oT,oQ,oO,oN,oD⟩:=.inr (.inl rfl)
 obtain⟨i,nn,k1,k2,k3,k4,k5,k6,k7,k8,k9⟩:=named_all hk ho (by omega) h0
 obtain⟨nK,nM,nL,nS,nT⟩:=nn
 dsimp only at k1 k2
 replace k1:=k1.symm
 subst k1 k2
 have C1:=hid (fun (w:World) (A:Option Addr) (n c:Nat) (hI:ItA w A n (L)) (hc:n≤c) (hcm:c≤maxLen)=>af0 (o:=⟨2,oP,oT,oQ,oO,oN,oD⟩) (L:=L) (L':=aft L ⟨2,oP,oT,oQ,oO,oN,oD⟩) (d:=zTd) (x:=0) hI hc hcm ho h0 rfl (dT_ch (mk_t hk)) (by omega) rfl)
 rw [show vOp (⟨2,oP,oT,oQ,oO,oN,oD⟩)=.agg #[.int .u8 2,.string oP,.string oT,.int .u16 oQ,.int .u32 oO,.int .u32 oN,.string oD] from rfl] at C1
 generalize aft L ⟨2,oP,oT,oQ,oO,oN,oD⟩=M at *
 have C2:=hid (fun (w:World) (A:Option Addr) (n c:Nat) (hI:ItA w A n (M)) (hc:n≤c) (hcm:c≤maxLen)=>af0 (o:=oU oP) (L:=M) (L':=M) (d:={ zTd with i:=i,n:=⟨nK,oQ,1,nS,nT⟩ }) (x:=0) hI hc hcm ⟨show (11:Nat)<256 by decide,show (0:Nat)<65536 by decide,show (0:Nat)<4294967296 by decide,show (1:Nat)<4294967296 by decide,ho.2.2.2.2.1,show (0:Nat)≤1048576 by decide,show (0:Nat)≤1048576 by decide⟩ k4 (aft_tl oU_t) k5 (by omega) rfl)
 rw [show vOp (oU oP)=.agg #[.int .u8 11,.string oP,.string ⟨#[]⟩,.int .u16 0,.int .u32 0,.int .u32 1,.string ⟨#[]⟩] from rfl] at C2
 have C3:=hid (fun (w:World) (A:Option Addr) (n c:Nat) (hI:ItA w A n (L)) (hc:n≤c) (hcm:c≤maxLen)=>af0 (o:=oU oP) (L:=L) (L':=L) (d:=zTd) (x:=5) hI hc hcm ⟨show (11:Nat)<256 by decide,show (0:Nat)<65536 by decide,show (0:Nat)<4294967296 by decide,show (1:Nat)<4294967296 by decide,ho.2.2.2.2.1,show (0:Nat)≤1048576 by decide,show (0:Nat)≤1048576 by decide⟩ k6 (aft_tl oU_t) (dT_no (by rw [k6];decide)) (by omega) rfl)
 rw [show vOp (oU oP)=.agg #[.int .u8 11,.string oP,.string ⟨#[]⟩,.int .u16 0,.int .u32 0,.int .u32 1,.string ⟨#[]⟩] from rfl] at C3
 have C4:=hid (fun (w:World) (A:Option Addr) (n c:Nat) (hI:ItA w A n (M)) (hc:n≤c) (hcm:c≤maxLen)=>af0 (o:=oR oP) (L:=M) (L':=L) (d:=zTd) (x:=0) hI hc hcm ⟨show (10:Nat)<256 by decide,show (0:Nat)<65536 by decide,show (0:Nat)<4294967296 by decide,show (0:Nat)<4294967296 by decide,ho.2.2.2.2.1,show (0:Nat)≤1048576 by decide,show (0:Nat)≤1048576 by decide⟩ k7 k8 (dT_ch oR_t) (by omega) rfl)
 rw [show vOp (oR oP)=.agg #[.int .u8 10,.string oP,.string ⟨#[]⟩,.int .u16 0,.int .u32 0,.int .u32 0,.string ⟨#[]⟩] from rfl] at C4
 clear k3 k4 k5 k6 k7 k8 k9
 have HI:=hid hI
 have HN:=hid (And.intro hc hcm)
 clear hI hc hcm hn ho hlL h0 hk
 have HN:=hid (one_new w #[.int .u8 2,.string oP,.string oT,.int .u16 oQ,.int .u32 oO,.int .u32 oN,.string oD] 31)
 go_enter Tryz.func5,Tryz.ntmps5
 go_wp2_with fail
 try generalize (w.alloc (.cells #[.int .u8 2,.string oP,.string oT,.int .u16 oQ,.int .u32 oO,.int .u32 oN,.string oD] 31))=w0 at *
 have Ro:=hid HN.out.1
 have B:=hid HN.out.2.1
 replace HI:=hid (HI.out.go B.out)
 clear HN
 obtain⟨co0,co1,co2,co3,co4,co5,co6⟩:=cl7 Ro.out
 refine (lives_any w0).mono ?_
 rintro e w1 ⟨rfl,hb⟩
 clear co0 co1 co2 co3 co4 co5 co6
 replace Ro:=gg Ro hb
 replace HI:=hid (HI.out.go hb)
 replace B:=gb B hb
 obtain⟨co0,co1,co2,co3,co4,co5,co6⟩:=cl7 Ro.out
 clear hb
 go_wp2_with (first
  | (refine wpList_load_row rfl 31 (.tmp 3) rfl (w.heap.size) rfl 31 #[.int .u8 2,.string oP,.string oT,.int .u16 oQ,.int .u32 oO,.int .u32 oN,.string oD] (0,0) _ Ro.out Tryz.underlying31 rfl (by kernel_rfl) ?_)
  | (go_at_call 14;refine (C1.out w1 A n c HI.out HN.out.1 HN.out.2).mono ?_;rintro e w2 ⟨A1,n1,c1,E1,e1,rfl,hn9,hc9,hI9,hb⟩;have HIM:=hid hI9;have HNM:=hid (And.intro hn9 hc9);clear co0 co1 co2 co3 co4 co5 co6;replace Ro:=gg Ro hb;replace HI:=hid (HI.out.go hb);replace B:=gb B hb;clear hI9 hn9 hc9;obtain⟨co0,co1,co2,co3,co4,co5,co6⟩:=cl7 Ro.out;clear hb)
  | (refine new_row rfl 38 (.tmp 6) (.tmp 38) rfl rfl #[.string ⟨#[]⟩,.int .u32 0,.int .u8 0,.int .u16 0,.int .u32 0,.int .u32 0,.string ⟨#[]⟩,.slice E1 0 e1] rfl rfl (by kernel_rfl) rfl (row8 _ _ _ _ _ _ _ _ _ _) ?_;intro w3 M;clear co0 co1 co2 co3 co4 co5 co6;replace Ro:=gg Ro M.2.1;replace HI:=hid (HI.out.go M.2.1);replace HIM:=hid (HIM.out.go M.2.1);replace B:=gb B M.2.1;have Ra:=hid M.1;obtain⟨co0,co1,co2,co3,co4,co5,co6⟩:=cl7 Ro.out;obtain⟨ca0,ca1,ca2,ca3,ca4,ca5,ca6,ca7⟩:=cl8 Ra.out;clear M)
  | (go_at_call 14;refine (C2.out w3 A1 n1 c1 HIM.out HNM.out.1 HNM.out.2).mono ?_;rintro e w4 ⟨A2,n2,c2,E2,e2,rfl,hn9,hc9,hI9,hb⟩;clear co0 co1 co2 co3 co4 co5 co6 ca0 ca1 ca2 ca3 ca4 ca5 ca6 ca7;replace Ro:=gg Ro hb;replace Ra:=gg Ra hb;replace HI:=hid (HI.out.go hb);replace HIM:=hid (HIM.out.go hb);replace B:=gb B hb;clear hI9 hn9 hc9;obtain⟨co0,co1,co2,co3,co4,co5,co6⟩:=cl7 Ro.out;obtain⟨ca0,ca1,ca2,ca3,ca4,ca5,ca6,ca7⟩:=cl8 Ra.out;clear hb)
  | (refine new_row rfl 38 (.tmp 9) (.tmp 49) rfl rfl #[.string ⟨#[]⟩,.int .u32 i,.int .u8 nK,.int .u16 oQ,.int .u32 1,.int .u32 nS,.string nT,.slice E2 0 e2] rfl rfl (by kernel_rfl) rfl (row8 _ _ _ _ _ _ _ _ _ _) ?_;intro w5 M;clear co0 co1 co2 co3 co4 co5 co6 ca0 ca1 ca2 ca3 ca4 ca5 ca6 ca7;replace Ro:=gg Ro M.2.1;replace Ra:=gg Ra M.2.1;replace HI:=hid (HI.out.go M.2.1);replace HIM:=hid (HIM.out.go M.2.1);replace B:=gb B M.2.1;have Rb:=hid M.1;obtain⟨co0,co1,co2,co3,co4,co5,co6⟩:=cl7 Ro.out;obtain⟨ca0,ca1,ca2,ca3,ca4,ca5,ca6,ca7⟩:=cl8 Ra.out;obtain⟨cb0,cb1,cb2,cb3,cb4,cb5,cb6,cb7⟩:=cl8 Rb.out;clear M)
  | (go_at_call 14;refine (C3.out w5 A n c HI.out HN.out.1 HN.out.2).mono ?_;rintro e w6 ⟨A3,n3,c3,E3,e3,rfl,hn9,hc9,hI9,hb⟩;clear co0 co1 co2 co3 co4 co5 co6 ca0 ca1 ca2 ca3 ca4 ca5 ca6 ca7 cb0 cb1 cb2 cb3 cb4 cb5 cb6 cb7;replace Ro:=gg Ro hb;replace Ra:=gg Ra hb;replace Rb:=gg Rb hb;replace HI:=hid (HI.out.go hb);replace HIM:=hid (HIM.out.go hb);replace B:=gb B hb;clear hI9 hn9 hc9;obtain⟨co0,co1,co2,co3,co4,co5,co6⟩:=cl7 Ro.out;obtain⟨ca0,ca1,ca2,ca3,ca4,ca5,ca6,ca7⟩:=cl8 Ra.out;obtain⟨cb0,cb1,cb2,cb3,cb4,cb5,cb6,cb7⟩:=cl8 Rb.out;clear hb)
  | (refine new_row rfl 38 (.tmp 12) (.tmp 58) rfl rfl #[.string ⟨#[]⟩,.int .u32 0,.int .u8 0,.int .u16 0,.int .u32 0,.int .u32 0,.string ⟨#[]⟩,.slice E3 0 e3] rfl rfl (by kernel_rfl) rfl (row8 _ _ _ _ _ _ _ _ _ _) ?_;intro w7 M;clear co0 co1 co2 co3 co4 co5 co6 ca0 ca1 ca2 ca3 ca4 ca5 ca6 ca7 cb0 cb1 cb2 cb3 cb4 cb5 cb6 cb7;replace Ro:=gg Ro M.2.1;replace Ra:=gg Ra M.2.1;replace Rb:=gg Rb M.2.1;replace HI:=hid (HI.out.go M.2.1);replace HIM:=hid (HIM.out.go M.2.1);replace B:=gb B M.2.1;have Rc:=hid M.1;obtain⟨co0,co1,co2,co3,co4,co5,co6⟩:=cl7 Ro.out;obtain⟨ca0,ca1,ca2,ca3,ca4,ca5,ca6,ca7⟩:=cl8 Ra.out;obtain⟨cb0,cb1,cb2,cb3,cb4,cb5,cb6,cb7⟩:=cl8 Rb.out;obtain⟨cc0,cc1,cc2,cc3,cc4,cc5,cc6,cc7⟩:=cl8 Rc.out;clear M)
  | (refine new_row rfl 31 (.tmp 14) (.tmp 62) rfl rfl #[.int .u8 9,.string oP,.string ⟨#[]⟩,.int .u16 0,.int .u32 0,.int .u32 0,.string ⟨#[]⟩] rfl rfl (by kernel_rfl) rfl (row7 _ _ _ _ _ _ _) ?_;intro w8 M;have Gq:=hid B.out.size;have Dq_o:=hid Ro.out.lt;have Dq_a:=hid Ra.out.lt;have Dq_b:=hid Rb.out.lt;have Dq_c:=hid Rc.out.lt;clear co0 co1 co2 co3 co4 co5 co6 ca0 ca1 ca2 ca3 ca4 ca5 ca6 ca7 cb0 cb1 cb2 cb3 cb4 cb5 cb6 cb7 cc0 cc1 cc2 cc3 cc4 cc5 cc6 cc7;replace Ro:=gg Ro M.2.1;replace Ra:=gg Ra M.2.1;replace Rb:=gg Rb M.2.1;replace Rc:=gg Rc M.2.1;replace B:=gb B M.2.1;have B3:=hid M.2.1;have Rq:=hid M.1;obtain⟨co0,co1,co2,co3,co4,co5,co6⟩:=cl7 Ro.out;obtain⟨ca0,ca1,ca2,ca3,ca4,ca5,ca6,ca7⟩:=cl8 Ra.out;obtain⟨cb0,cb1,cb2,cb3,cb4,cb5,cb6,cb7⟩:=cl8 Rb.out;obtain⟨cc0,cc1,cc2,cc3,cc4,cc5,cc6,cc7⟩:=cl8 Rc.out;obtain⟨cq0,cq1,cq2,cq3,cq4,cq5,cq6⟩:=cl7 Rq.out;clear M;have fz:=frozen_of_row w8 (w7.heap.size) 0 _ _ Rq.out)
  | (change wpList _ _ _ _ _ (w8.setCell ⟨w7.heap.size,0,none⟩ (.int .u8 10));clear fz co0 co1 co2 co3 co4 co5 co6 ca0 ca1 ca2 ca3 ca4 ca5 ca6 ca7 cb0 cb1 cb2 cb3 cb4 cb5 cb6 cb7 cc0 cc1 cc2 cc3 cc4 cc5 cc6 cc7 cq0 cq1 cq2 cq3 cq4 cq5 cq6;have hs:=below_set (v:=.int .u8 10) B.out (g:=w7.heap.size) (j:=0) Gq.out;replace Ro:=hid (Ro.out.off (g':=w7.heap.size) (j:=0) (.int .u8 10) (Nat.ne_of_lt Dq_o.out));replace Ra:=hid (Ra.out.off (g':=w7.heap.size) (j:=0) (.int .u8 10) (Nat.ne_of_lt Dq_a.out));replace Rb:=hid (Rb.out.off (g':=w7.heap.size) (j:=0) (.int .u8 10) (Nat.ne_of_lt Dq_b.out));replace Rc:=hid (Rc.out.off (g':=w7.heap.size) (j:=0) (.int .u8 10) (Nat.ne_of_lt Dq_c.out));replace Rq:Hid (Rw (w8.setCell ⟨w7.heap.size,0,none⟩ (.int .u8 10)) (w7.heap.size) #[.int .u8 10,.string oP,.string ⟨#[]⟩,.int .u16 0,.int .u32 0,.int .u32 0,.string ⟨#[]⟩] 31):=hid (Rq.out.put 0 (.int .u8 10));replace B3:=hid (below_set (v:=.int .u8 10) B3.out (g:=w7.heap.size) (j:=0) (Nat.le_refl _));replace B:=hid hs;clear hs;generalize w8.setCell ⟨w7.heap.size,0,none⟩ (.int .u8 10)=w9 at *;obtain⟨co0,co1,co2,co3,co4,co5,co6⟩:=cl7 Ro.out;obtain⟨ca0,ca1,ca2,ca3,ca4,ca5,ca6,ca7⟩:=cl8 Ra.out;obtain⟨cb0,cb1,cb2,cb3,cb4,cb5,cb6,cb7⟩:=cl8 Rb.out;obtain⟨cc0,cc1,cc2,cc3,cc4,cc5,cc6,cc7⟩:=cl8 Rc.out;obtain⟨cq0,cq1,cq2,cq3,cq4,cq5,cq6⟩:=cl7 Rq.out;refine wpList_load_row rfl 31 (.tmp 14) rfl (w7.heap.size) rfl 31 #[.int .u8 10,.string oP,.string ⟨#[]⟩,.int .u16 0,.int .u32 0,.int .u32 0,.string ⟨#[]⟩] (0,0) _ Rq.out Tryz.underlying31 rfl (by kernel_rfl) ?_)
  | (go_at_call 14;refine (C4.out w9 A1 n1 c1 (HIM.out.go B3.out) HNM.out.1 HNM.out.2).mono ?_;rintro e w10 ⟨A4,n4,c4,E4,e4,rfl,hn9,hc9,hI9,hb⟩;have HIK:=hid hI9;clear co0 co1 co2 co3 co4 co5 co6 ca0 ca1 ca2 ca3 ca4 ca5 ca6 ca7 cb0 cb1 cb2 cb3 cb4 cb5 cb6 cb7 cc0 cc1 cc2 cc3 cc4 cc5 cc6 cc7 cq0 cq1 cq2 cq3 cq4 cq5 cq6;replace Ro:=gg Ro hb;replace Ra:=gg Ra hb;replace Rb:=gg Rb hb;replace Rc:=gg Rc hb;replace Rq:=gg Rq hb;replace B3:=gb B3 hb;replace B:=gb B hb;clear hI9 hn9 hc9;obtain⟨co0,co1,co2,co3,co4,co5,co6⟩:=cl7 Ro.out;obtain⟨ca0,ca1,ca2,ca3,ca4,ca5,ca6,ca7⟩:=cl8 Ra.out;obtain⟨cb0,cb1,cb2,cb3,cb4,cb5,cb6,cb7⟩:=cl8 Rb.out;obtain⟨cc0,cc1,cc2,cc3,cc4,cc5,cc6,cc7⟩:=cl8 Rc.out;obtain⟨cq0,cq1,cq2,cq3,cq4,cq5,cq6⟩:=cl7 Rq.out;clear hb)
  | (refine new_row rfl 38 (.tmp 16) (.tmp 72) rfl rfl #[.string ⟨#[]⟩,.int .u32 0,.int .u8 0,.int .u16 0,.int .u32 0,.int .u32 0,.string ⟨#[]⟩,.slice E4 0 e4] rfl rfl (by kernel_rfl) rfl (row8 _ _ _ _ _ _ _ _ _ _) ?_;intro w11 M;clear co0 co1 co2 co3 co4 co5 co6 ca0 ca1 ca2 ca3 ca4 ca5 ca6 ca7 cb0 cb1 cb2 cb3 cb4 cb5 cb6 cb7 cc0 cc1 cc2 cc3 cc4 cc5 cc6 cc7 cq0 cq1 cq2 cq3 cq4 cq5 cq6;replace Ro:=gg Ro M.2.1;replace Ra:=gg Ra M.2.1;replace Rb:=gg Rb M.2.1;replace Rc:=gg Rc M.2.1;replace Rq:=gg Rq M.2.1;replace B3:=gb B3 M.2.1;replace HIK:=hid (HIK.out.go M.2.1);replace B:=gb B M.2.1;have Rd:=hid M.1;obtain⟨co0,co1,co2,co3,co4,co5,co6⟩:=cl7 Ro.out;obtain⟨ca0,ca1,ca2,ca3,ca4,ca5,ca6,ca7⟩:=cl8 Ra.out;obtain⟨cb0,cb1,cb2,cb3,cb4,cb5,cb6,cb7⟩:=cl8 Rb.out;obtain⟨cc0,cc1,cc2,cc3,cc4,cc5,cc6,cc7⟩:=cl8 Rc.out;obtain⟨cq0,cq1,cq2,cq3,cq4,cq5,cq6⟩:=cl7 Rq.out;obtain⟨cd0,cd1,cd2,cd3,cd4,cd5,cd6,cd7⟩:=cl8 Rd.out;clear M)
  | (go_at_call 15;refine (same_T (w:=w11) HIK.out (HI.out.go B3.out)).mono ?_;rintro e w12 ⟨rfl,hb⟩;clear co0 co1 co2 co3 co4 co5 co6 ca0 ca1 ca2 ca3 ca4 ca5 ca6 ca7 cb0 cb1 cb2 cb3 cb4 cb5 cb6 cb7 cc0 cc1 cc2 cc3 cc4 cc5 cc6 cc7 cq0 cq1 cq2 cq3 cq4 cq5 cq6 cd0 cd1 cd2 cd3 cd4 cd5 cd6 cd7;replace Ro:=gg Ro hb;replace Ra:=gg Ra hb;replace Rb:=gg Rb hb;replace Rc:=gg Rc hb;replace Rq:=gg Rq hb;replace Rd:=gg Rd hb;replace B3:=gb B3 hb;replace HIK:=hid (HIK.out.go hb);replace B:=gb B hb;obtain⟨co0,co1,co2,co3,co4,co5,co6⟩:=cl7 Ro.out;obtain⟨ca0,ca1,ca2,ca3,ca4,ca5,ca6,ca7⟩:=cl8 Ra.out;obtain⟨cb0,cb1,cb2,cb3,cb4,cb5,cb6,cb7⟩:=cl8 Rb.out;obtain⟨cc0,cc1,cc2,cc3,cc4,cc5,cc6,cc7⟩:=cl8 Rc.out;obtain⟨cq0,cq1,cq2,cq3,cq4,cq5,cq6⟩:=cl7 Rq.out;obtain⟨cd0,cd1,cd2,cd3,cd4,cd5,cd6,cd7⟩:=cl8 Rd.out;clear hb))
 go_ret
 exact⟨rfl,B.out⟩
set_option maxHeartbeats 4000000 in
theorem named_X3 {oQ oO oN:Nat}{oP oT oD:ByteArray}(hI:ItA w A n L) (hc:n≤c) (hcm:c≤maxLen) (hn:n≤1048576) (ho:Op.lim ⟨3,oP,oT,oQ,oO,oN,oD⟩) (h0:dX L ⟨3,oP,oT,oQ,oO,oN,oD⟩≠0):Calls Tryz.prog 5 #[.slice A n c,.agg #[.int .u8 3,.string oP,.string oT,.int .u16 oQ,.int .u32 oO,.int .u32 oN,.string oD]] w fun e w'=>e=.returned (.bool true)∧Below w.heap.size w w':=by
 have hlL:L.length≤1048576:=by have:=hI.1;omega
 have hk:makes ⟨3,oP,oT,oQ,oO,oN,oD⟩:=.inr (.inr rfl)
 have C1:=hid (fun (w:World) (A:Option Addr) (n c:Nat) (hI:ItA w A n (L)) (hc:n≤c) (hcm:c≤maxLen)=>af0 (o:=⟨3,oP,oT,oQ,oO,oN,oD⟩) (L:=L) (L':=L) (d:=zTd) (x:=dX L ⟨3,oP,oT,oQ,oO,oN,oD⟩) hI hc hcm ho rfl (aft_no h0) (dT_ch (mk_t hk)) (by omega) rfl)
 rw [show vOp (⟨3,oP,oT,oQ,oO,oN,oD⟩)=.agg #[.int .u8 3,.string oP,.string oT,.int .u16 oQ,.int .u32 oO,.int .u32 oN,.string oD] from rfl] at C1
 have e5:=ne0 h0
 generalize dX L ⟨3,oP,oT,oQ,oO,oN,oD⟩=x1 at *
 have HI:=hid hI
 have HN:=hid (And.intro hc hcm)
 clear hI hc hcm hn ho hlL h0 hk
 have HN:=hid (one_new w #[.int .u8 3,.string oP,.string oT,.int .u16 oQ,.int .u32 oO,.int .u32 oN,.string oD] 31)
 go_enter Tryz.func5,Tryz.ntmps5
 go_wp2_with fail
 try generalize (w.alloc (.cells #[.int .u8 3,.string oP,.string oT,.int .u16 oQ,.int .u32 oO,.int .u32 oN,.string oD] 31))=w0 at *
 have Ro:=hid HN.out.1
 have B:=hid HN.out.2.1
 replace HI:=hid (HI.out.go B.out)
 clear HN
 obtain⟨co0,co1,co2,co3,co4,co5,co6⟩:=cl7 Ro.out
 refine (lives_any w0).mono ?_
 rintro e w1 ⟨rfl,hb⟩
 clear co0 co1 co2 co3 co4 co5 co6
 replace Ro:=gg Ro hb
 replace HI:=hid (HI.out.go hb)
 replace B:=gb B hb
 obtain⟨co0,co1,co2,co3,co4,co5,co6⟩:=cl7 Ro.out
 clear hb
 go_wp2_with (first
  | (refine wpList_load_row rfl 31 (.tmp 3) rfl (w.heap.size) rfl 31 #[.int .u8 3,.string oP,.string oT,.int .u16 oQ,.int .u32 oO,.int .u32 oN,.string oD] (0,0) _ Ro.out Tryz.underlying31 rfl (by kernel_rfl) ?_)
  | (go_at_call 14;refine (C1.out w1 A n c HI.out HN.out.1 HN.out.2).mono ?_;rintro e w2 ⟨A1,n1,c1,E1,e1,rfl,hn9,hc9,hI9,hb⟩;clear co0 co1 co2 co3 co4 co5 co6;replace Ro:=gg Ro hb;replace HI:=hid (HI.out.go hb);replace B:=gb B hb;clear hI9 hn9 hc9;obtain⟨co0,co1,co2,co3,co4,co5,co6⟩:=cl7 Ro.out;clear hb)
  | (refine new_row rfl 38 (.tmp 6) (.tmp 38) rfl rfl #[.string ⟨#[]⟩,.int .u32 0,.int .u8 0,.int .u16 0,.int .u32 0,.int .u32 0,.string ⟨#[]⟩,.slice E1 0 e1] rfl rfl (by kernel_rfl) rfl (row8 _ _ _ _ _ _ _ _ _ _) ?_;intro w3 M;clear co0 co1 co2 co3 co4 co5 co6;replace Ro:=gg Ro M.2.1;replace HI:=hid (HI.out.go M.2.1);replace B:=gb B M.2.1;have Ra:=hid M.1;obtain⟨co0,co1,co2,co3,co4,co5,co6⟩:=cl7 Ro.out;obtain⟨ca0,ca1,ca2,ca3,ca4,ca5,ca6,ca7⟩:=cl8 Ra.out;clear M))
 go_ret
 exact⟨rfl,B.out⟩
set_option maxHeartbeats 4000000 in
theorem named_B3 {oQ oO oN:Nat}{oP oT oD:ByteArray}(hI:ItA w A n L) (hc:n≤c) (hcm:c≤maxLen) (hn:n≤1048576) (ho:Op.lim ⟨3,oP,oT,oQ,oO,oN,oD⟩) (h0:dX L ⟨3,oP,oT,oQ,oO,oN,oD⟩=0):Calls Tryz.prog 5 #[.slice A n c,.agg #[.int .u8 3,.string oP,.string oT,.int .u16 oQ,.int .u32 oO,.int .u32 oN,.string oD]] w fun e w'=>e=.returned (.bool true)∧Below w.heap.size w w':=by
 have hlL:L.length≤1048576:=by have:=hI.1;omega
 have hk:makes ⟨3,oP,oT,oQ,oO,oN,oD⟩:=.inr (.inr rfl)
 obtain⟨i,nn,k1,k2,k3,k4,k5,k6,k7,k8,k9⟩:=named_all hk ho (by omega) h0
 obtain⟨nK,nM,nL,nS,nT⟩:=nn
 dsimp only at k1 k2
 replace k1:=k1.symm
 subst k1 k2
 have C1:=hid (fun (w:World) (A:Option Addr) (n c:Nat) (hI:ItA w A n (L)) (hc:n≤c) (hcm:c≤maxLen)=>af0 (o:=⟨3,oP,oT,oQ,oO,oN,oD⟩) (L:=L) (L':=aft L ⟨3,oP,oT,oQ,oO,oN,oD⟩) (d:=zTd) (x:=0) hI hc hcm ho h0 rfl (dT_ch (mk_t hk)) (by omega) rfl)
 rw [show vOp (⟨3,oP,oT,oQ,oO,oN,oD⟩)=.agg #[.int .u8 3,.string oP,.string oT,.int .u16 oQ,.int .u32 oO,.int .u32 oN,.string oD] from rfl] at C1
 generalize aft L ⟨3,oP,oT,oQ,oO,oN,oD⟩=M at *
 have C2:=hid (fun (w:World) (A:Option Addr) (n c:Nat) (hI:ItA w A n (M)) (hc:n≤c) (hcm:c≤maxLen)=>af0 (o:=oU oP) (L:=M) (L':=M) (d:={ zTd with i:=i,n:=⟨nK,oQ,1,nS,nT⟩ }) (x:=0) hI hc hcm ⟨show (11:Nat)<256 by decide,show (0:Nat)<65536 by decide,show (0:Nat)<4294967296 by decide,show (1:Nat)<4294967296 by decide,ho.2.2.2.2.1,show (0:Nat)≤1048576 by decide,show (0:Nat)≤1048576 by decide⟩ k4 (aft_tl oU_t) k5 (by omega) rfl)
 rw [show vOp (oU oP)=.agg #[.int .u8 11,.string oP,.string ⟨#[]⟩,.int .u16 0,.int .u32 0,.int .u32 1,.string ⟨#[]⟩] from rfl] at C2
 have C3:=hid (fun (w:World) (A:Option Addr) (n c:Nat) (hI:ItA w A n (L)) (hc:n≤c) (hcm:c≤maxLen)=>af0 (o:=oU oP) (L:=L) (L':=L) (d:=zTd) (x:=5) hI hc hcm ⟨show (11:Nat)<256 by decide,show (0:Nat)<65536 by decide,show (0:Nat)<4294967296 by decide,show (1:Nat)<4294967296 by decide,ho.2.2.2.2.1,show (0:Nat)≤1048576 by decide,show (0:Nat)≤1048576 by decide⟩ k6 (aft_tl oU_t) (dT_no (by rw [k6];decide)) (by omega) rfl)
 rw [show vOp (oU oP)=.agg #[.int .u8 11,.string oP,.string ⟨#[]⟩,.int .u16 0,.int .u32 0,.int .u32 1,.string ⟨#[]⟩] from rfl] at C3
 have C4:=hid (fun (w:World) (A:Option Addr) (n c:Nat) (hI:ItA w A n (M)) (hc:n≤c) (hcm:c≤maxLen)=>af0 (o:=oV oP) (L:=M) (L':=L) (d:=zTd) (x:=0) hI hc hcm ⟨show (9:Nat)<256 by decide,show (0:Nat)<65536 by decide,show (0:Nat)<4294967296 by decide,show (0:Nat)<4294967296 by decide,ho.2.2.2.2.1,show (0:Nat)≤1048576 by decide,show (0:Nat)≤1048576 by decide⟩ k7 k8 (dT_ch oV_t) (by omega) rfl)
 rw [show vOp (oV oP)=.agg #[.int .u8 9,.string oP,.string ⟨#[]⟩,.int .u16 0,.int .u32 0,.int .u32 0,.string ⟨#[]⟩] from rfl] at C4
 clear k3 k4 k5 k6 k7 k8 k9
 have HI:=hid hI
 have HN:=hid (And.intro hc hcm)
 clear hI hc hcm hn ho hlL h0 hk
 have HN:=hid (one_new w #[.int .u8 3,.string oP,.string oT,.int .u16 oQ,.int .u32 oO,.int .u32 oN,.string oD] 31)
 go_enter Tryz.func5,Tryz.ntmps5
 go_wp2_with fail
 try generalize (w.alloc (.cells #[.int .u8 3,.string oP,.string oT,.int .u16 oQ,.int .u32 oO,.int .u32 oN,.string oD] 31))=w0 at *
 have Ro:=hid HN.out.1
 have B:=hid HN.out.2.1
 replace HI:=hid (HI.out.go B.out)
 clear HN
 obtain⟨co0,co1,co2,co3,co4,co5,co6⟩:=cl7 Ro.out
 refine (lives_any w0).mono ?_
 rintro e w1 ⟨rfl,hb⟩
 clear co0 co1 co2 co3 co4 co5 co6
 replace Ro:=gg Ro hb
 replace HI:=hid (HI.out.go hb)
 replace B:=gb B hb
 obtain⟨co0,co1,co2,co3,co4,co5,co6⟩:=cl7 Ro.out
 clear hb
 go_wp2_with (first
  | (refine wpList_load_row rfl 31 (.tmp 3) rfl (w.heap.size) rfl 31 #[.int .u8 3,.string oP,.string oT,.int .u16 oQ,.int .u32 oO,.int .u32 oN,.string oD] (0,0) _ Ro.out Tryz.underlying31 rfl (by kernel_rfl) ?_)
  | (go_at_call 14;refine (C1.out w1 A n c HI.out HN.out.1 HN.out.2).mono ?_;rintro e w2 ⟨A1,n1,c1,E1,e1,rfl,hn9,hc9,hI9,hb⟩;have HIM:=hid hI9;have HNM:=hid (And.intro hn9 hc9);clear co0 co1 co2 co3 co4 co5 co6;replace Ro:=gg Ro hb;replace HI:=hid (HI.out.go hb);replace B:=gb B hb;clear hI9 hn9 hc9;obtain⟨co0,co1,co2,co3,co4,co5,co6⟩:=cl7 Ro.out;clear hb)
  | (refine new_row rfl 38 (.tmp 6) (.tmp 38) rfl rfl #[.string ⟨#[]⟩,.int .u32 0,.int .u8 0,.int .u16 0,.int .u32 0,.int .u32 0,.string ⟨#[]⟩,.slice E1 0 e1] rfl rfl (by kernel_rfl) rfl (row8 _ _ _ _ _ _ _ _ _ _) ?_;intro w3 M;clear co0 co1 co2 co3 co4 co5 co6;replace Ro:=gg Ro M.2.1;replace HI:=hid (HI.out.go M.2.1);replace HIM:=hid (HIM.out.go M.2.1);replace B:=gb B M.2.1;have Ra:=hid M.1;obtain⟨co0,co1,co2,co3,co4,co5,co6⟩:=cl7 Ro.out;obtain⟨ca0,ca1,ca2,ca3,ca4,ca5,ca6,ca7⟩:=cl8 Ra.out;clear M)
  | (go_at_call 14;refine (C2.out w3 A1 n1 c1 HIM.out HNM.out.1 HNM.out.2).mono ?_;rintro e w4 ⟨A2,n2,c2,E2,e2,rfl,hn9,hc9,hI9,hb⟩;clear co0 co1 co2 co3 co4 co5 co6 ca0 ca1 ca2 ca3 ca4 ca5 ca6 ca7;replace Ro:=gg Ro hb;replace Ra:=gg Ra hb;replace HI:=hid (HI.out.go hb);replace HIM:=hid (HIM.out.go hb);replace B:=gb B hb;clear hI9 hn9 hc9;obtain⟨co0,co1,co2,co3,co4,co5,co6⟩:=cl7 Ro.out;obtain⟨ca0,ca1,ca2,ca3,ca4,ca5,ca6,ca7⟩:=cl8 Ra.out;clear hb)
  | (refine new_row rfl 38 (.tmp 9) (.tmp 49) rfl rfl #[.string ⟨#[]⟩,.int .u32 i,.int .u8 nK,.int .u16 oQ,.int .u32 1,.int .u32 nS,.string nT,.slice E2 0 e2] rfl rfl (by kernel_rfl) rfl (row8 _ _ _ _ _ _ _ _ _ _) ?_;intro w5 M;clear co0 co1 co2 co3 co4 co5 co6 ca0 ca1 ca2 ca3 ca4 ca5 ca6 ca7;replace Ro:=gg Ro M.2.1;replace Ra:=gg Ra M.2.1;replace HI:=hid (HI.out.go M.2.1);replace HIM:=hid (HIM.out.go M.2.1);replace B:=gb B M.2.1;have Rb:=hid M.1;obtain⟨co0,co1,co2,co3,co4,co5,co6⟩:=cl7 Ro.out;obtain⟨ca0,ca1,ca2,ca3,ca4,ca5,ca6,ca7⟩:=cl8 Ra.out;obtain⟨cb0,cb1,cb2,cb3,cb4,cb5,cb6,cb7⟩:=cl8 Rb.out;clear M)
  | (go_at_call 14;refine (C3.out w5 A n c HI.out HN.out.1 HN.out.2).mono ?_;rintro e w6 ⟨A3,n3,c3,E3,e3,rfl,hn9,hc9,hI9,hb⟩;clear co0 co1 co2 co3 co4 co5 co6 ca0 ca1 ca2 ca3 ca4 ca5 ca6 ca7 cb0 cb1 cb2 cb3 cb4 cb5 cb6 cb7;replace Ro:=gg Ro hb;replace Ra:=gg Ra hb;replace Rb:=gg Rb hb;replace HI:=hid (HI.out.go hb);replace HIM:=hid (HIM.out.go hb);replace B:=gb B hb;clear hI9 hn9 hc9;obtain⟨co0,co1,co2,co3,co4,co5,co6⟩:=cl7 Ro.out;obtain⟨ca0,ca1,ca2,ca3,ca4,ca5,ca6,ca7⟩:=cl8 Ra.out;obtain⟨cb0,cb1,cb2,cb3,cb4,cb5,cb6,cb7⟩:=cl8 Rb.out;clear hb)
  | (refine new_row rfl 38 (.tmp 12) (.tmp 58) rfl rfl #[.string ⟨#[]⟩,.int .u32 0,.int .u8 0,.int .u16 0,.int .u32 0,.int .u32 0,.string ⟨#[]⟩,.slice E3 0 e3] rfl rfl (by kernel_rfl) rfl (row8 _ _ _ _ _ _ _ _ _ _) ?_;intro w7 M;clear co0 co1 co2 co3 co4 co5 co6 ca0 ca1 ca2 ca3 ca4 ca5 ca6 ca7 cb0 cb1 cb2 cb3 cb4 cb5 cb6 cb7;replace Ro:=gg Ro M.2.1;replace Ra:=gg Ra M.2.1;replace Rb:=gg Rb M.2.1;replace HI:=hid (HI.out.go M.2.1);replace HIM:=hid (HIM.out.go M.2.1);replace B:=gb B M.2.1;have Rc:=hid M.1;obtain⟨co0,co1,co2,co3,co4,co5,co6⟩:=cl7 Ro.out;obtain⟨ca0,ca1,ca2,ca3,ca4,ca5,ca6,ca7⟩:=cl8 Ra.out;obtain⟨cb0,cb1,cb2,cb3,cb4,cb5,cb6,cb7⟩:=cl8 Rb.out;obtain⟨cc0,cc1,cc2,cc3,cc4,cc5,cc6,cc7⟩:=cl8 Rc.out;clear M)
  | (refine new_row rfl 31 (.tmp 14) (.tmp 62) rfl rfl #[.int .u8 9,.string oP,.string ⟨#[]⟩,.int .u16 0,.int .u32 0,.int .u32 0,.string ⟨#[]⟩] rfl rfl (by kernel_rfl) rfl (row7 _ _ _ _ _ _ _) ?_;intro w8 M;clear co0 co1 co2 co3 co4 co5 co6 ca0 ca1 ca2 ca3 ca4 ca5 ca6 ca7 cb0 cb1 cb2 cb3 cb4 cb5 cb6 cb7 cc0 cc1 cc2 cc3 cc4 cc5 cc6 cc7;replace Ro:=gg Ro M.2.1;replace Ra:=gg Ra M.2.1;replace Rb:=gg Rb M.2.1;replace Rc:=gg Rc M.2.1;replace HI:=hid (HI.out.go M.2.1);replace HIM:=hid (HIM.out.go M.2.1);replace B:=gb B M.2.1;have Rq:=hid M.1;obtain⟨co0,co1,co2,co3,co4,co5,co6⟩:=cl7 Ro.out;obtain⟨ca0,ca1,ca2,ca3,ca4,ca5,ca6,ca7⟩:=cl8 Ra.out;obtain⟨cb0,cb1,cb2,cb3,cb4,cb5,cb6,cb7⟩:=cl8 Rb.out;obtain⟨cc0,cc1,cc2,cc3,cc4,cc5,cc6,cc7⟩:=cl8 Rc.out;obtain⟨cq0,cq1,cq2,cq3,cq4,cq5,cq6⟩:=cl7 Rq.out;clear M)
  | (refine wpList_load_row rfl 31 (.tmp 14) rfl (w7.heap.size) rfl 31 #[.int .u8 9,.string oP,.string ⟨#[]⟩,.int .u16 0,.int .u32 0,.int .u32 0,.string ⟨#[]⟩] (0,0) _ Rq.out Tryz.underlying31 rfl (by kernel_rfl) ?_)
  | (go_at_call 14;refine (C4.out w8 A1 n1 c1 HIM.out HNM.out.1 HNM.out.2).mono ?_;rintro e w9 ⟨A4,n4,c4,E4,e4,rfl,hn9,hc9,hI9,hb⟩;have HIK:=hid hI9;have HNK:=hid (And.intro hn9 hc9);clear co0 co1 co2 co3 co4 co5 co6 ca0 ca1 ca2 ca3 ca4 ca5 ca6 ca7 cb0 cb1 cb2 cb3 cb4 cb5 cb6 cb7 cc0 cc1 cc2 cc3 cc4 cc5 cc6 cc7 cq0 cq1 cq2 cq3 cq4 cq5 cq6;replace Ro:=gg Ro hb;replace Ra:=gg Ra hb;replace Rb:=gg Rb hb;replace Rc:=gg Rc hb;replace Rq:=gg Rq hb;replace HI:=hid (HI.out.go hb);replace HIM:=hid (HIM.out.go hb);replace B:=gb B hb;clear hI9 hn9 hc9;obtain⟨co0,co1,co2,co3,co4,co5,co6⟩:=cl7 Ro.out;obtain⟨ca0,ca1,ca2,ca3,ca4,ca5,ca6,ca7⟩:=cl8 Ra.out;obtain⟨cb0,cb1,cb2,cb3,cb4,cb5,cb6,cb7⟩:=cl8 Rb.out;obtain⟨cc0,cc1,cc2,cc3,cc4,cc5,cc6,cc7⟩:=cl8 Rc.out;obtain⟨cq0,cq1,cq2,cq3,cq4,cq5,cq6⟩:=cl7 Rq.out;clear hb)
  | (refine new_row rfl 38 (.tmp 16) (.tmp 72) rfl rfl #[.string ⟨#[]⟩,.int .u32 0,.int .u8 0,.int .u16 0,.int .u32 0,.int .u32 0,.string ⟨#[]⟩,.slice E4 0 e4] rfl rfl (by kernel_rfl) rfl (row8 _ _ _ _ _ _ _ _ _ _) ?_;intro w10 M;clear co0 co1 co2 co3 co4 co5 co6 ca0 ca1 ca2 ca3 ca4 ca5 ca6 ca7 cb0 cb1 cb2 cb3 cb4 cb5 cb6 cb7 cc0 cc1 cc2 cc3 cc4 cc5 cc6 cc7 cq0 cq1 cq2 cq3 cq4 cq5 cq6;replace Ro:=gg Ro M.2.1;replace Ra:=gg Ra M.2.1;replace Rb:=gg Rb M.2.1;replace Rc:=gg Rc M.2.1;replace Rq:=gg Rq M.2.1;replace HI:=hid (HI.out.go M.2.1);replace HIM:=hid (HIM.out.go M.2.1);replace HIK:=hid (HIK.out.go M.2.1);replace B:=gb B M.2.1;have Rd:=hid M.1;obtain⟨co0,co1,co2,co3,co4,co5,co6⟩:=cl7 Ro.out;obtain⟨ca0,ca1,ca2,ca3,ca4,ca5,ca6,ca7⟩:=cl8 Ra.out;obtain⟨cb0,cb1,cb2,cb3,cb4,cb5,cb6,cb7⟩:=cl8 Rb.out;obtain⟨cc0,cc1,cc2,cc3,cc4,cc5,cc6,cc7⟩:=cl8 Rc.out;obtain⟨cq0,cq1,cq2,cq3,cq4,cq5,cq6⟩:=cl7 Rq.out;obtain⟨cd0,cd1,cd2,cd3,cd4,cd5,cd6,cd7⟩:=cl8 Rd.out;clear M)
  | (go_at_call 15;refine (same_T (w:=w10) HIK.out HI.out).mono ?_;rintro e w11 ⟨rfl,hb⟩;clear co0 co1 co2 co3 co4 co5 co6 ca0 ca1 ca2 ca3 ca4 ca5 ca6 ca7 cb0 cb1 cb2 cb3 cb4 cb5 cb6 cb7 cc0 cc1 cc2 cc3 cc4 cc5 cc6 cc7 cq0 cq1 cq2 cq3 cq4 cq5 cq6 cd0 cd1 cd2 cd3 cd4 cd5 cd6 cd7;replace Ro:=gg Ro hb;replace Ra:=gg Ra hb;replace Rb:=gg Rb hb;replace Rc:=gg Rc hb;replace Rq:=gg Rq hb;replace Rd:=gg Rd hb;replace HI:=hid (HI.out.go hb);replace HIM:=hid (HIM.out.go hb);replace HIK:=hid (HIK.out.go hb);replace B:=gb B hb;obtain⟨co0,co1,co2,co3,co4,co5,co6⟩:=cl7 Ro.out;obtain⟨ca0,ca1,ca2,ca3,ca4,ca5,ca6,ca7⟩:=cl8 Ra.out;obtain⟨cb0,cb1,cb2,cb3,cb4,cb5,cb6,cb7⟩:=cl8 Rb.out;obtain⟨cc0,cc1,cc2,cc3,cc4,cc5,cc6,cc7⟩:=cl8 Rc.out;obtain⟨cq0,cq1,cq2,cq3,cq4,cq5,cq6⟩:=cl7 Rq.out;obtain⟨cd0,cd1,cd2,cd3,cd4,cd5,cd6,cd7⟩:=cl8 Rd.out;clear hb))
 go_ret
 exact⟨rfl,B.out⟩
set_option maxHeartbeats 4000000 in
theorem named_N {oQ oO oN oK:Nat}{oP oT oD:ByteArray}(hI:ItA w A n L) (hc:n≤c) (hcm:c≤maxLen) (hn:n≤1048576) (ho:Op.lim ⟨oK,oP,oT,oQ,oO,oN,oD⟩) (h1:oK≠1) (h2:oK≠2) (h3:oK≠3):Calls Tryz.prog 5 #[.slice A n c,.agg #[.int .u8 oK,.string oP,.string oT,.int .u16 oQ,.int .u32 oO,.int .u32 oN,.string oD]] w fun e w'=>e=.returned (.bool true)∧Below w.heap.size w w':=by
 have e1:((oK:Int) != 1)=true:=by rw [bne_iff_ne];omega
 have e2:((oK:Int) != 2)=true:=by rw [bne_iff_ne];omega
 have e3:((oK:Int) != 3)=true:=by rw [bne_iff_ne];omega
 clear h1 h2 h3 hI hc hcm hn ho
 have HN:=hid (one_new w #[.int .u8 oK,.string oP,.string oT,.int .u16 oQ,.int .u32 oO,.int .u32 oN,.string oD] 31)
 go_enter Tryz.func5,Tryz.ntmps5
 go_wp2_with fail
 try generalize (w.alloc (.cells #[.int .u8 oK,.string oP,.string oT,.int .u16 oQ,.int .u32 oO,.int .u32 oN,.string oD] 31))=w0 at *
 have Ro:=hid HN.out.1
 have B:=hid HN.out.2.1
 clear HN
 obtain⟨co0,co1,co2,co3,co4,co5,co6⟩:=cl7 Ro.out
 refine (lives_any w0).mono ?_
 rintro e w1 ⟨rfl,hb⟩
 clear co0 co1 co2 co3 co4 co5 co6
 replace Ro:=gg Ro hb
 replace B:=gb B hb
 obtain⟨co0,co1,co2,co3,co4,co5,co6⟩:=cl7 Ro.out
 clear hb
 go_wp2
 go_ret
 exact⟨rfl,B.out⟩
theorem filesNamed_walk {oQ oO oN oK:Nat}{oP oT oD:ByteArray}(hI:ItA w A n L) (hc:n≤c) (hcm:c≤maxLen) (hn:n≤1048576) (ho:Op.lim ⟨oK,oP,oT,oQ,oO,oN,oD⟩):Calls Tryz.prog 5 #[.slice A n c,.agg #[.int .u8 oK,.string oP,.string oT,.int .u16 oQ,.int .u32 oO,.int .u32 oN,.string oD]] w fun e w'=>e=.returned (.bool true)∧Below w.heap.size w w':=by
 by_cases h1:oK=1
 ·subst h1
  by_cases h0:dX L ⟨1,oP,oT,oQ,oO,oN,oD⟩=0
  ·exact named_B1 hI hc hcm hn ho h0
  ·exact named_X1 hI hc hcm hn ho h0
 ·by_cases h2:oK=2
  ·subst h2
   by_cases h0:dX L ⟨2,oP,oT,oQ,oO,oN,oD⟩=0
   ·exact named_B2 hI hc hcm hn ho h0
   ·exact named_X2 hI hc hcm hn ho h0
  ·by_cases h3:oK=3
   ·subst h3
    by_cases h0:dX L ⟨3,oP,oT,oQ,oO,oN,oD⟩=0
    ·exact named_B3 hI hc hcm hn ho h0
    ·exact named_X3 hI hc hcm hn ho h0
   ·exact named_N hI hc hcm hn ho h1 h2 h3
end Go.Proofs.YtopepebcnaikiaaGreatDoor.Fi
namespace Go.Proofs.YtopepebcnaikiaaGreatDoor.Fr
open Lib (hid)
set_option linter.unusedVariables false
set_option linter.unusedSimpArgs false
set_option maxRecDepth 100000
open Go.Joins Go.ChangeShapes Go.WideShapes Go.RowKit Go.Deep
open Ar
section
variable {H:Type}{enc:TypeId×Value→H}{w:World}{base:Nat}{spare:Nat→Bool}{held:Bool}
theorem wf_v {k:IntKind}{b:Nat}{z:Int}(hmin:k.min=0) (hmax:k.max=(b:Int)) (h:(Lit.int k z).wf=true):∃ n:Nat,z=n∧n<b+1:=by
 have h1:k.min≤z∧z≤k.max:=by simpa [Lit.wf] using h
 exact⟨z.toNat,by omega,by omega⟩
theorem o32:Tryz.prog.cellsOf 29=1:=by kernel_rfl
theorem o16:Tryz.prog.cellsOf 28=1:=by kernel_rfl
theorem oSt:Tryz.prog.cellsOf 9=1:=by kernel_rfl
theorem oOK:Tryz.prog.cellsOf 27=1:=by kernel_rfl
theorem oOp:Tryz.prog.cellsOf 31=7:=by kernel_rfl
theorem argOp {r:Reach}{b0:Nat}{v:Value}{d:DataW H}{p:List MemPlace}{ds:List (DataW H)}(hk:Rows.uptoSmall H ds=true) (hd:d∈ds) (hv:Value.okWide Tryz.prog w r b0 31 v) (h:DataW.Trod enc Tryz.prog w base spare held 31 v d p) :
  ∃ (oK oM oO oN:Nat) (oP oT oD:ByteArray),v=.agg #[.int .u8 oK,.string oP,.string oT,.int .u16 oM,.int .u32 oO,.int .u32 oN,.string oD]∧oK<256∧oM<65536∧oO<4294967296∧oN<4294967296∧oP.size≤1048576∧oT.size≤1048576∧oD.size≤1048576:=by
 have hB:Rows.uptoBulk d≤1048576:=by
  have h1:Rows.uptoBulkAll ds≤1048576:=of_decide_eq_true hk
  have:=bulk_in hd
  omega
 obtain⟨cs,rfl,hsz⟩:=okWide_struct Tryz.underlying31 hv
 obtain⟨l⟩:=cs
 obtain⟨fuel,hf⟩:=h
 have hl:l.length=7:=hsz.trans oOp
 have hf':DataW.trod enc Tryz.prog w base spare held fuel 31 l=some (d,p):=by simpa [Value.cells] using hf
 obtain⟨xs,m,_,hx,_,hxl,hg⟩:=DataW.trod_struct Tryz.underlying31 hf'
 have g0:DataW.trod enc Tryz.prog w base spare held m 27 ((l.drop 0).take (Tryz.prog.cellsOf 27))=xs[0]?:=hg 0 _ rfl
 have g1:DataW.trod enc Tryz.prog w base spare held m 9 ((l.drop 1).take (Tryz.prog.cellsOf 9))=xs[1]?:=hg 1 _ rfl
 have g2:DataW.trod enc Tryz.prog w base spare held m 9 ((l.drop 2).take (Tryz.prog.cellsOf 9))=xs[2]?:=hg 2 _ rfl
 have g3:DataW.trod enc Tryz.prog w base spare held m 28 ((l.drop 3).take (Tryz.prog.cellsOf 28))=xs[3]?:=hg 3 _ rfl
 have g4:DataW.trod enc Tryz.prog w base spare held m 29 ((l.drop 4).take (Tryz.prog.cellsOf 29))=xs[4]?:=hg 4 _ rfl
 have g5:DataW.trod enc Tryz.prog w base spare held m 29 ((l.drop 5).take (Tryz.prog.cellsOf 29))=xs[5]?:=hg 5 _ rfl
 have g6:DataW.trod enc Tryz.prog w base spare held m 9 ((l.drop 6).take (Tryz.prog.cellsOf 9))=xs[6]?:=hg 6 _ rfl
 rw [oOK] at g0
 rw [o16] at g3
 rw [o32] at g4 g5
 rw [oSt] at g1 g2 g6
 match l,hl with
 | [v0,v1,v2,v3,v4,v5,v6],_ =>
  match xs,hxl with
  | [x0,x1,x2,x3,x4,x5,x6],_ =>
   obtain⟨z0,e0,q0,w0⟩:=DataW.trod_int Tryz.underlying27 (g0.trans rfl:_=some x0)
   obtain⟨s1,e1,q1,_⟩:=DataW.trod_string Tryz.underlying9 (g1.trans rfl:_=some x1)
   obtain⟨s2,e2,q2,_⟩:=DataW.trod_string Tryz.underlying9 (g2.trans rfl:_=some x2)
   obtain⟨z3,e3,q3,w3⟩:=DataW.trod_int Tryz.underlying28 (g3.trans rfl:_=some x3)
   obtain⟨z4,e4,q4,w4⟩:=DataW.trod_int Tryz.underlying29 (g4.trans rfl:_=some x4)
   obtain⟨z5,e5,q5,w5⟩:=DataW.trod_int Tryz.underlying29 (g5.trans rfl:_=some x5)
   obtain⟨s6,e6,q6,_⟩:=DataW.trod_string Tryz.underlying9 (g6.trans rfl:_=some x6)
   obtain⟨k0,rfl,l0⟩:=wf_v (b:=255) rfl rfl w0
   obtain⟨k3,rfl,l3⟩:=wf_v (b:=65535) rfl rfl w3
   obtain⟨k4,rfl,l4⟩:=wf_v (b:=4294967295) rfl rfl w4
   obtain⟨k5,rfl,l5⟩:=wf_v (b:=4294967295) rfl rfl w5
   simp at e0 e1 e2 e3 e4 e5 e6
   subst e0 e1 e2 e3 e4 e5 e6
   have hd2:=congrArg Prod.fst hx
   subst q0 q1 q2 q3 q4 q5 q6
   have hd3:d=.agg [.lit (.int .u8 k0),.lit (.string s1.data.toList),.lit (.string s2.data.toList),.lit (.int .u16 k3),.lit (.int .u32 k4),.lit (.int .u32 k5),.lit (.string s6.data.toList)]:=hd2
   rw [hd3] at hB
   simp only [Rows.uptoBulk,Rows.uptoBulkAll,Array.length_toList] at hB
   have a1:s1.data.size=s1.size:=rfl
   have a2:s2.data.size=s2.size:=rfl
   have a6:s6.data.size=s6.size:=rfl
   exact⟨k0,k3,k4,k5,s1,s2,s6,rfl,by omega,by omega,by omega,by omega,by omega,by omega,by omega⟩
end
end Go.Proofs.YtopepebcnaikiaaGreatDoor.Fr
