import Derived.Test.YtopepebcnaikiaaGreatDoorGb3
import Derived.Test.YtopepebcnaikiaaGreatDoorGb5
import Derived.Test.YtopepebcnaikiaaGreatDoorGw1ight
import Derived.Test.YtopepebcnaikiaaGreatDoorGw2ight
set_option maxRecDepth 100000
set_option maxHeartbeats 20000000
set_option linter.unusedVariables false
set_option linter.unusedSimpArgs false
set_option maxRecDepth 100000
namespace Go.Proofs.YtopepebcnaikiaaGreatDoor.Fi
open Lib (hid)
open Go.ChangeShapes Go.WideShapes Go.ChangeAt Go.RowKit
open BigFrame
open Ar Rg
open Ino
open It (Itm Ch get und app dif rt rc enc er getV get_any under_any apply_any diff_any MkI MkC)
open Di (ItA wlk rgt rgt_iff numOf Vo vo pts lsX lsL up En NmA Walk_any Up MkE List_any)
open Ph (nb spX spB laX laD laN)
open Pk (nB nE tN tR tE number_any take_any)
variable {w w' wr:World}{A:Option Addr}{n c:Nat}{L:List Itm}
theorem dX_rgt {o:Op}(h:dX L o=0):rgt L=true:=by
 unfold dX at h;cases hr:rgt L
 ·rw [hr] at h;cases h
 ·rfl
theorem apC_rt (h:rt L=true) (C:List Ch):rt (if rc C=true then app L C else [])=true:=by
 split
 ·exact It.rt_app h (by assumption)
 ·rfl
theorem dC_rc {o:Op}(h:rt L=true):rc (dC L o)=true:=by
 unfold dC;split
 ·split
  ·exact It.rc_dif h (apC_rt h _)
  ·exact It.rc_dif h (apC_rt h _)
 ·rfl
theorem dT_no {o:Op}(h:dX L o≠0):dT L o=zTd:=by unfold dT;rw [if_neg h]
theorem dC_no {o:Op}(h:dX L o≠0):dC L o=[]:=by unfold dC;rw [if_neg h]
theorem apC_len (C:List Ch):(apC L C).length≤L.length+(L.length+C.length):=by
 unfold apC;refine Nat.le_trans (It.dif_len L _) (Nat.add_le_add_left ?_ _);split
 ·exact It.app_len _ _
 ·exact Nat.zero_le _
theorem dC_len (o:Op):(dC L o).length≤L.length+(L.length+(chC L o).length):=by
 unfold dC;split
 ·split
  ·have:=apC_len (L:=L) [];rw [List.length_nil] at this;omega
  ·exact apC_len _
 ·exact Nat.zero_le _
def AfPost (w:World) (L:List Itm) (o:Op) (e:Ending) (w':World):Prop:=∃ (A':Option Addr) (n' c':Nat) (ev:Value),e=.returned (.tuple #[.slice A' n' c',vTd (dT L o) ev,.int .i64 (dX L o)])∧n'=(aft L o).length∧n'≤c'∧c'≤maxLen∧Ls It.enc 2 w' w'.heap.size A' (aft L o)∧MkE w w' ev (dT L o).e∧Below w.heap.size w w'
theorem after_any (hI:ItA w A n L) (hc:n≤c) (hcm:c≤maxLen) (o:Op) (ho:o.lim):Calls Tryz.prog 14 #[.slice A n c,vOp o] w (AfPost w L o):=by
 by_cases h0:dX L o=0
 ·
  have HF:=hid (fun (w1:World) (hb:Below w.heap.size w w1)=>Do_any (hI.go hb) hc hcm o ho);unfold DPost at HF;unfold AfPost;have hr:=dX_rgt h0;have hV:VA w A n c L:=⟨hI,hc,hcm,hr⟩;have hrt:=hV.rt;have hrc:=dC_rc (o:=o) hrt;have hDL:(dC L o).length≤1099511627776:=by
   have h1:=dC_len (L:=L) o;have h2:=chC_len hV ho;have h3:=hI.1;have h4:=hI.2.1;omega
  have e1:aft L o=app L (dC L o):=by unfold aft;rw [if_pos h0]
  have HAP:=hid (fun (w1:World) (hb:Below w.heap.size w w1) (A8:Option Addr) (m8 c8:Nat) (h8:m8=(dC L o).length) (hL8:Ls Sc.enc 3 w1 w1.heap.size A8 (dC L o))=>apply_any L (dC L o) A A8 n c m8 c8 w1.heap.size w1.heap.size (hI.go hb).1 hc hcm h8 (by have:=hI.2.1;omega) (by omega) w1 (Nat.le_refl _) (Nat.le_refl _) (hI.go hb).2.2 hL8);rw [hrt,hrc] at HAP;rw [h0] at HF ⊢;rw [if_pos rfl,if_pos rfl,if_pos rfl] at HF;rw [e1];generalize app L (dC L o)=Y at *;generalize dC L o=C at *;generalize dT L o=d at *;obtain⟨ds,di,⟨nK,nM,nL,nS,nT⟩,de⟩:=d;obtain⟨oK,oP,oT,oM,oO,oN,oD⟩:=o;try dsimp only at *
  clear ho hI hr hV h0 e1 hc hcm hDL hrt hrc;have HN:=hid (two_new w #[.int .u8 oK,.string oP,.string oT,.int .u16 oM,.int .u32 oO,.int .u32 oN,.string oD] #[.string ⟨#[]⟩,.int .u32 0,.int .u8 0,.int .u16 0,.int .u32 0,.int .u32 0,.string ⟨#[]⟩,.slice none 0 0] 31 38)
  go_enter Tryz.func14,Tryz.ntmps14
  go_wp2_with fail
  try generalize ((w.alloc (.cells #[.int .u8 oK,.string oP,.string oT,.int .u16 oM,.int .u32 oO,.int .u32 oN,.string oD] 31)).alloc (.cells #[.string ⟨#[]⟩,.int .u32 0,.int .u8 0,.int .u16 0,.int .u32 0,.int .u32 0,.string ⟨#[]⟩,.slice none 0 0] 38))=w0 at *
  have Ro:=hid HN.out.1;have Rz:=hid HN.out.2.1;have B:=hid HN.out.2.2.1;clear HN;obtain⟨co0,co1,co2,co3,co4,co5,co6⟩:=cl7 Ro.out;obtain⟨cz0,cz1,cz2,cz3,cz4,cz5,cz6,cz7⟩:=cl8 Rz.out;refine (HF.out _ B.out).mono ?_;rintro e w1 ⟨v,ev,rfl,hm0,hm⟩;have hb:=hm.2;have HM:=hid hm;have HC:=hid hm0;have BK:=hid B.out;have GK:=hid Rz.out.lt;obtain⟨A9,c9,hv9,_⟩:=hm.ls Di.encEn_len;generalize de.length=m9 at hv9;subst hv9;obtain⟨A8,c8,hv8,_⟩:=hm0.ls Sc.enc_len;generalize C.length=m8 at hv8;subst hv8;clear co0 co1 co2 co3 co4 co5 co6 cz0 cz1 cz2 cz3 cz4 cz5 cz6 cz7;replace Ro:=gg Ro hb;replace Rz:=gg Rz hb;replace B:=gb B hb;clear hm hm0;obtain⟨co0,co1,co2,co3,co4,co5,co6⟩:=cl7 Ro.out;obtain⟨cz0,cz1,cz2,cz3,cz4,cz5,cz6,cz7⟩:=cl8 Rz.out;clear hb
  go_wp2_with (first|(refine new_row rfl 38 (.tmp 8) (.tmp 17) rfl rfl #[.string ds,.int .u32 di,.int .u8 nK,.int .u16 nM,.int .u32 nL,.int .u32 nS,.string nT,.slice A9 m9 c9] rfl rfl (by kernel_rfl) rfl (row8 _ _ _ _ _ _ _ _ _ _) ?_;intro w2 M;have Dd_z:=hid Rz.out.lt;clear co0 co1 co2 co3 co4 co5 co6 cz0 cz1 cz2 cz3 cz4 cz5 cz6 cz7;replace Ro:=gg Ro M.2.1;replace Rz:=gg Rz M.2.1;replace HM:=hid (HM.out.go M.2.1);replace HC:=hid (HC.out.go M.2.1);replace B:=gb B M.2.1;have Rd:=hid M.1;obtain⟨co0,co1,co2,co3,co4,co5,co6⟩:=cl7 Ro.out;obtain⟨cz0,cz1,cz2,cz3,cz4,cz5,cz6,cz7⟩:=cl8 Rz.out;obtain⟨cd0,cd1,cd2,cd3,cd4,cd5,cd6,cd7⟩:=cl8 Rd.out;clear M)|(go_at_call 25;refine (HAP.out _ B.out A8 m8 c8 (mk_sl Sc.enc_len HC.out).1 (mk_sl Sc.enc_len HC.out).2.2.2).mono ?_;rintro e w3 ⟨v2,rfl,hm⟩;have hb:=hm.2;have HY:=hid hm;have BY:=hid B.out;have GY:=hid Rz.out.lt;obtain⟨A7,c7,hv7,_⟩:=hm.ls It.enc_len;generalize hm7:List.length _=m7 at hv7;subst hv7;clear co0 co1 co2 co3 co4 co5 co6 cz0 cz1 cz2 cz3 cz4 cz5 cz6 cz7 cd0 cd1 cd2 cd3 cd4 cd5 cd6 cd7;replace Ro:=gg Ro hb;replace Rz:=gg Rz hb;replace Rd:=gg Rd hb;replace HM:=hid (HM.out.go hb);replace HC:=hid (HC.out.go hb);replace B:=gb B hb;clear hm hm7;have HY2:=hid HY.out;obtain⟨co0,co1,co2,co3,co4,co5,co6⟩:=cl7 Ro.out;obtain⟨cz0,cz1,cz2,cz3,cz4,cz5,cz6,cz7⟩:=cl8 Rz.out;obtain⟨cd0,cd1,cd2,cd3,cd4,cd5,cd6,cd7⟩:=cl8 Rd.out;clear hb))
  refine wp_region_X (Till 3 (fun (w':World)=>Below w3.heap.size w3 w')) (by kernel_rfl) ?_;have hd:Below w3.heap.size w3 w3.drew:=(Below.refl _ _).drew;generalize hW1:w3.drew=w4 at *;have hS:=hd;clear hW1;have Qo:=hid (Ro.out);have Qz:=hid (Rz.out);have Qd:=hid (Rd.out);clear co0 co1 co2 co3 co4 co5 co6 cz0 cz1 cz2 cz3 cz4 cz5 cz6 cz7 cd0 cd1 cd2 cd3 cd4 cd5 cd6 cd7;replace Ro:=gg Ro hd;replace Rz:=gg Rz hd;replace Rd:=gg Rd hd;replace HM:=hid (HM.out.go hd);replace HY2:=hid (HY2.out.go hd);replace B:=gb B hd;obtain⟨co0,co1,co2,co3,co4,co5,co6⟩:=cl7 Ro.out;obtain⟨cz0,cz1,cz2,cz3,cz4,cz5,cz6,cz7⟩:=cl8 Rz.out;obtain⟨cd0,cd1,cd2,cd3,cd4,cd5,cd6,cd7⟩:=cl8 Rd.out;clear hd;refine take_X 0 36 (.slice A7 m7 c7) rfl (by rfl) (by kernel_rfl) (by kernel_rfl) (by kernel_rfl) (by kernel_rfl) (fun _ _ _ h=>h) (Till.mono (by decide)) (Or.inl ⟨by rfl,fun w' hB=>by go_simp⟩) (fun _=>hS) ?_;simp only [List.setIfInBounds_toArray,List.set_cons_zero,List.set_cons_succ];refine take_X 1 37 (.agg #[.string ds,.int .u32 di,.int .u8 nK,.int .u16 nM,.int .u32 nL,.int .u32 nS,.string nT,.slice A9 m9 c9]) rfl (by rfl) (by kernel_rfl) (by kernel_rfl) (by kernel_rfl) (by kernel_rfl) (fun _ _ _ h=>h) (Till.mono (by decide)) (Or.inl ⟨by rfl,fun w' hB=>by have hSw:=Till.bef hB (by kernel_rfl);exact load_all 38 (.tmp 8) rfl (w1.heap.size) rfl (Qd.out.go hSw) Tryz.underlying38 rfl (by kernel_rfl)⟩) (fun _=>hS) ?_;simp only [List.setIfInBounds_toArray,List.set_cons_zero,List.set_cons_succ];refine take_X 2 4 (.slice A7 m7 c7) rfl (by rfl) (by kernel_rfl) (by kernel_rfl) (by kernel_rfl) (by kernel_rfl) (fun _ _ _ h=>h) (Till.mono (by decide)) (Or.inl ⟨by rfl,fun w' hB=>by go_simp⟩) (fun _=>hS) ?_;simp only [List.setIfInBounds_toArray,List.set_cons_zero,List.set_cons_succ];refine only_X 3 rfl (by kernel_rfl) (by rfl) (fun K hK=>?_);refine wp_store_row 38 (.tmp 5) (.tmp 37) rfl (w.heap.size+1) #[.string ds,.int .u32 di,.int .u8 nK,.int .u16 nM,.int .u32 nL,.int .u32 nS,.string nT,.slice A9 m9 c9] rfl rfl 38 #[.string ⟨#[]⟩,.int .u32 0,.int .u8 0,.int .u16 0,.int .u32 0,.int .u32 0,.string ⟨#[]⟩,.slice none 0 0] Rz.out (by kernel_rfl) rfl (row8 _ _ _ _ _ _ _ _ _ _) ?_;clear co0 co1 co2 co3 co4 co5 co6 cz0 cz1 cz2 cz3 cz4 cz5 cz6 cz7 cd0 cd1 cd2 cd3 cd4 cd5 cd6 cd7;replace HM:=hid (mk_row (g:=w.heap.size+1) (cs:=#[.string ds,.int .u32 di,.int .u8 nK,.int .u16 nM,.int .u32 nL,.int .u32 nS,.string nT,.slice A9 m9 c9]) HM.out BK.out (by omega) GK.out);replace HY2:=hid (mk_row (g:=w.heap.size+1) (cs:=#[.string ds,.int .u32 di,.int .u8 nK,.int .u16 nM,.int .u32 nL,.int .u32 nS,.string nT,.slice A9 m9 c9]) HY2.out BY.out (by omega) GY.out);replace B:=hid (below_setRow B.out (g:=w.heap.size+1) (by omega) #[.string ds,.int .u32 di,.int .u8 nK,.int .u16 nM,.int .u32 nL,.int .u32 nS,.string nT,.slice A9 m9 c9]);replace Ro:=hid (Ro.out.keep (g':=w.heap.size+1) (old:=#[.string ds,.int .u32 di,.int .u8 nK,.int .u16 nM,.int .u32 nL,.int .u32 nS,.string nT,.slice A9 m9 c9]) (by omega));replace Rd:=hid (Rd.out.keep (g':=w.heap.size+1) (old:=#[.string ds,.int .u32 di,.int .u8 nK,.int .u16 nM,.int .u32 nL,.int .u32 nS,.string nT,.slice A9 m9 c9]) (Nat.ne_of_gt Dd_z.out))
  replace Rz:=hid (Rz.out.set (cs:=#[.string ds,.int .u32 di,.int .u8 nK,.int .u16 nM,.int .u32 nL,.int .u32 nS,.string nT,.slice A9 m9 c9]));refine hK.out _ _ (fun h=>absurd h (by decide)) ?_;clear hK K;try simp only [Act.put,List.setIfInBounds_toArray,List.set_cons_zero,List.set_cons_succ]
  generalize w4.setRow (w.heap.size+1) #[.string ds,.int .u32 di,.int .u8 nK,.int .u16 nM,.int .u32 nL,.int .u32 nS,.string nT,.slice A9 m9 c9]=w5 at *;obtain⟨co0,co1,co2,co3,co4,co5,co6⟩:=cl7 Ro.out;obtain⟨cz0,cz1,cz2,cz3,cz4,cz5,cz6,cz7⟩:=cl8 Rz.out;obtain⟨cd0,cd1,cd2,cd3,cd4,cd5,cd6,cd7⟩:=cl8 Rd.out;refine take_X 4 6 (.int .i64 0) rfl (by rfl) (by kernel_rfl) (by kernel_rfl) (by kernel_rfl) (by kernel_rfl) (fun _ _ _ h=>h) (Till.mono (by decide)) (Or.inl ⟨by rfl,fun w' hB=>by go_simp⟩) (fun h=>absurd h (by decide)) ?_;simp only [List.setIfInBounds_toArray,List.set_cons_zero,List.set_cons_succ];refine done_X (by kernel_rfl) ?_ _;clear hS Qo Qz Qd
  go_wp2
  refine bodyPost_ret (v:=.tuple #[.slice A7 m7 c7,.agg #[.string ds,.int .u32 di,.int .u8 nK,.int .u16 nM,.int .u32 nL,.int .u32 nS,.string nT,.slice A9 m9 c9],.int .i64 0]) (results_row3 rfl _ _ (w.heap.size+1) 38 #[.string ds,.int .u32 di,.int .u8 nK,.int .u16 nM,.int .u32 nL,.int .u32 nS,.string nT,.slice A9 m9 c9] (0,0) _ _ _ rfl rfl rfl Rz.out Tryz.underlying38 rfl (by kernel_rfl)) rfl ?_;exact⟨A7,m7,c7,.slice A9 m9 c9,rfl,(mk_sl It.enc_len HY2.out).1,(mk_sl It.enc_len HY2.out).2.1,(mk_sl It.enc_len HY2.out).2.2.1,(mk_sl It.enc_len HY2.out).2.2.2,HM.out,B.out⟩
 ·
  have HF:=hid (fun (w1:World) (hb:Below w.heap.size w w1)=>Do_any (hI.go hb) hc hcm o ho);unfold DPost at HF;unfold AfPost;have e1:aft L o=L:=by unfold aft;rw [if_neg h0]
  have e2:=dT_no h0;have e3:=dC_no h0;have HAP:=hid (fun (w1:World) (hb:Below w.heap.size w w1) (A8:Option Addr) (c8:Nat)=>apply_any L [] A A8 n c 0 c8 w1.heap.size w1.heap.size (hI.go hb).1 hc hcm rfl (by have:=hI.2.1;omega) (by omega) w1 (Nat.le_refl _) (Nat.le_refl _) (hI.go hb).2.2 Ls.nil);have HI:=hid (fun (w1:World) (hb:Below w.heap.size w w1)=>(hI.go hb));have HCC:=hid (show n≤c∧c≤maxLen from⟨hc,hcm⟩);rw [if_neg h0,if_neg h0,if_neg h0] at HF;rw [e1,e2];generalize er (rt L&&rc [])=y at *;have HE:=hid h0;have e5:=ne0 h0;generalize dX L o=x at *;obtain⟨oK,oP,oT,oM,oO,oN,oD⟩:=o;try dsimp only at *
  clear ho hI hc hcm h0 e1 e2 e3;have HN:=hid (two_new w #[.int .u8 oK,.string oP,.string oT,.int .u16 oM,.int .u32 oO,.int .u32 oN,.string oD] #[.string ⟨#[]⟩,.int .u32 0,.int .u8 0,.int .u16 0,.int .u32 0,.int .u32 0,.string ⟨#[]⟩,.slice none 0 0] 31 38)
  go_enter Tryz.func14,Tryz.ntmps14
  go_wp2_with fail
  try generalize ((w.alloc (.cells #[.int .u8 oK,.string oP,.string oT,.int .u16 oM,.int .u32 oO,.int .u32 oN,.string oD] 31)).alloc (.cells #[.string ⟨#[]⟩,.int .u32 0,.int .u8 0,.int .u16 0,.int .u32 0,.int .u32 0,.string ⟨#[]⟩,.slice none 0 0] 38))=w0 at *
  have Ro:=hid HN.out.1;have Rz:=hid HN.out.2.1;have B:=hid HN.out.2.2.1;clear HN;obtain⟨co0,co1,co2,co3,co4,co5,co6⟩:=cl7 Ro.out;obtain⟨cz0,cz1,cz2,cz3,cz4,cz5,cz6,cz7⟩:=cl8 Rz.out;refine (HF.out _ B.out).mono ?_;rintro e w1 ⟨v,ev,rfl,hm0,hm⟩;have hb:=hm.2;have HM:=hid hm;have HC:=hid hm0;have BK:=hid B.out;have GK:=hid Rz.out.lt;obtain⟨A9,c9,hv9,_⟩:=hm.ls Di.encEn_len;subst hv9;obtain⟨A8,c8,hv8,_⟩:=hm0.ls Sc.enc_len;subst hv8;clear co0 co1 co2 co3 co4 co5 co6 cz0 cz1 cz2 cz3 cz4 cz5 cz6 cz7;replace Ro:=gg Ro hb;replace Rz:=gg Rz hb;replace B:=gb B hb;clear hm hm0;obtain⟨co0,co1,co2,co3,co4,co5,co6⟩:=cl7 Ro.out;obtain⟨cz0,cz1,cz2,cz3,cz4,cz5,cz6,cz7⟩:=cl8 Rz.out;clear hb
  go_wp2_with (first|(refine new_row rfl 38 (.tmp 8) (.tmp 17) rfl rfl #[.string ⟨#[]⟩,.int .u32 0,.int .u8 0,.int .u16 0,.int .u32 0,.int .u32 0,.string ⟨#[]⟩,.slice A9 0 c9] rfl rfl (by kernel_rfl) rfl (row8 _ _ _ _ _ _ _ _ _ _) ?_;intro w2 M;have Dd_z:=hid Rz.out.lt;clear co0 co1 co2 co3 co4 co5 co6 cz0 cz1 cz2 cz3 cz4 cz5 cz6 cz7;replace Ro:=gg Ro M.2.1;replace Rz:=gg Rz M.2.1;replace HM:=hid (HM.out.go M.2.1);replace B:=gb B M.2.1;have Rd:=hid M.1;obtain⟨co0,co1,co2,co3,co4,co5,co6⟩:=cl7 Ro.out;obtain⟨cz0,cz1,cz2,cz3,cz4,cz5,cz6,cz7⟩:=cl8 Rz.out;obtain⟨cd0,cd1,cd2,cd3,cd4,cd5,cd6,cd7⟩:=cl8 Rd.out;clear M)|(go_at_call 25;refine (HAP.out _ B.out A8 c8).mono ?_;rintro e w3 ⟨v2,rfl,hm⟩;have hb:=hm.2;clear co0 co1 co2 co3 co4 co5 co6 cz0 cz1 cz2 cz3 cz4 cz5 cz6 cz7 cd0 cd1 cd2 cd3 cd4 cd5 cd6 cd7;replace Ro:=gg Ro hb;replace Rz:=gg Rz hb;replace Rd:=gg Rd hb;replace HM:=hid (HM.out.go hb);replace B:=gb B hb;clear hm;obtain⟨co0,co1,co2,co3,co4,co5,co6⟩:=cl7 Ro.out;obtain⟨cz0,cz1,cz2,cz3,cz4,cz5,cz6,cz7⟩:=cl8 Rz.out;obtain⟨cd0,cd1,cd2,cd3,cd4,cd5,cd6,cd7⟩:=cl8 Rd.out;clear hb))
  refine wp_region_X (Till 4 (fun (w':World)=>Below w3.heap.size w3 w')) (by kernel_rfl) ?_;have hd:Below w3.heap.size w3 w3.drew:=(Below.refl _ _).drew;generalize hW1:w3.drew=w4 at *;have hS:=hd;clear hW1;have Qo:=hid (Ro.out);have Qz:=hid (Rz.out);have Qd:=hid (Rd.out);clear co0 co1 co2 co3 co4 co5 co6 cz0 cz1 cz2 cz3 cz4 cz5 cz6 cz7 cd0 cd1 cd2 cd3 cd4 cd5 cd6 cd7;replace Ro:=gg Ro hd;replace Rz:=gg Rz hd;replace Rd:=gg Rd hd;replace HM:=hid (HM.out.go hd);replace B:=gb B hd;obtain⟨co0,co1,co2,co3,co4,co5,co6⟩:=cl7 Ro.out;obtain⟨cz0,cz1,cz2,cz3,cz4,cz5,cz6,cz7⟩:=cl8 Rz.out;obtain⟨cd0,cd1,cd2,cd3,cd4,cd5,cd6,cd7⟩:=cl8 Rd.out;clear hd;refine take_X 0 33 (.slice A n c) rfl (by rfl) (by kernel_rfl) (by kernel_rfl) (by kernel_rfl) (by kernel_rfl) (fun _ _ _ h=>h) (Till.mono (by decide)) (Or.inl ⟨by rfl,fun w' hB=>by go_simp⟩) (fun _=>hS) ?_;simp only [List.setIfInBounds_toArray,List.set_cons_zero,List.set_cons_succ];refine take_X 1 34 (.agg #[.string ⟨#[]⟩,.int .u32 0,.int .u8 0,.int .u16 0,.int .u32 0,.int .u32 0,.string ⟨#[]⟩,.slice A9 0 c9]) rfl (by rfl) (by kernel_rfl) (by kernel_rfl) (by kernel_rfl) (by kernel_rfl) (fun _ _ _ h=>h) (Till.mono (by decide)) (Or.inl ⟨by rfl,fun w' hB=>by have hSw:=Till.bef hB (by kernel_rfl);exact load_all 38 (.tmp 8) rfl (w1.heap.size) rfl (Qd.out.go hSw) Tryz.underlying38 rfl (by kernel_rfl)⟩) (fun _=>hS) ?_;simp only [List.setIfInBounds_toArray,List.set_cons_zero,List.set_cons_succ];refine take_X 2 35 (.int .i64 x) rfl (by rfl) (by kernel_rfl) (by kernel_rfl) (by kernel_rfl) (by kernel_rfl) (fun _ _ _ h=>h) (Till.mono (by decide)) (Or.inl ⟨by rfl,fun w' hB=>by go_simp⟩) (fun _=>hS) ?_;simp only [List.setIfInBounds_toArray,List.set_cons_zero,List.set_cons_succ];refine take_X 3 4 (.slice A n c) rfl (by rfl) (by kernel_rfl) (by kernel_rfl) (by kernel_rfl) (by kernel_rfl) (fun _ _ _ h=>h) (Till.mono (by decide)) (Or.inl ⟨by rfl,fun w' hB=>by go_simp⟩) (fun _=>hS) ?_;simp only [List.setIfInBounds_toArray,List.set_cons_zero,List.set_cons_succ];refine only_X 4 rfl (by kernel_rfl) (by rfl) (fun K hK=>?_);refine wp_store_row 38 (.tmp 5) (.tmp 34) rfl (w.heap.size+1) #[.string ⟨#[]⟩,.int .u32 0,.int .u8 0,.int .u16 0,.int .u32 0,.int .u32 0,.string ⟨#[]⟩,.slice A9 0 c9] rfl rfl 38 #[.string ⟨#[]⟩,.int .u32 0,.int .u8 0,.int .u16 0,.int .u32 0,.int .u32 0,.string ⟨#[]⟩,.slice none 0 0] Rz.out (by kernel_rfl) rfl (row8 _ _ _ _ _ _ _ _ _ _) ?_;clear co0 co1 co2 co3 co4 co5 co6 cz0 cz1 cz2 cz3 cz4 cz5 cz6 cz7 cd0 cd1 cd2 cd3 cd4 cd5 cd6 cd7;replace HM:=hid (mk_row (g:=w.heap.size+1) (cs:=#[.string ⟨#[]⟩,.int .u32 0,.int .u8 0,.int .u16 0,.int .u32 0,.int .u32 0,.string ⟨#[]⟩,.slice A9 0 c9]) HM.out BK.out (by omega) GK.out);replace B:=hid (below_setRow B.out (g:=w.heap.size+1) (by omega) #[.string ⟨#[]⟩,.int .u32 0,.int .u8 0,.int .u16 0,.int .u32 0,.int .u32 0,.string ⟨#[]⟩,.slice A9 0 c9]);replace Ro:=hid (Ro.out.keep (g':=w.heap.size+1) (old:=#[.string ⟨#[]⟩,.int .u32 0,.int .u8 0,.int .u16 0,.int .u32 0,.int .u32 0,.string ⟨#[]⟩,.slice A9 0 c9]) (by omega))
  replace Rd:=hid (Rd.out.keep (g':=w.heap.size+1) (old:=#[.string ⟨#[]⟩,.int .u32 0,.int .u8 0,.int .u16 0,.int .u32 0,.int .u32 0,.string ⟨#[]⟩,.slice A9 0 c9]) (Nat.ne_of_gt Dd_z.out));replace Rz:=hid (Rz.out.set (cs:=#[.string ⟨#[]⟩,.int .u32 0,.int .u8 0,.int .u16 0,.int .u32 0,.int .u32 0,.string ⟨#[]⟩,.slice A9 0 c9]));refine hK.out _ _ (fun h=>absurd h (by decide)) ?_;clear hK K;try simp only [Act.put,List.setIfInBounds_toArray,List.set_cons_zero,List.set_cons_succ]
  generalize w4.setRow (w.heap.size+1) #[.string ⟨#[]⟩,.int .u32 0,.int .u8 0,.int .u16 0,.int .u32 0,.int .u32 0,.string ⟨#[]⟩,.slice A9 0 c9]=w5 at *;obtain⟨co0,co1,co2,co3,co4,co5,co6⟩:=cl7 Ro.out;obtain⟨cz0,cz1,cz2,cz3,cz4,cz5,cz6,cz7⟩:=cl8 Rz.out;obtain⟨cd0,cd1,cd2,cd3,cd4,cd5,cd6,cd7⟩:=cl8 Rd.out;refine take_X 5 6 (.int .i64 x) rfl (by rfl) (by kernel_rfl) (by kernel_rfl) (by kernel_rfl) (by kernel_rfl) (fun _ _ _ h=>h) (Till.mono (by decide)) (Or.inl ⟨by rfl,fun w' hB=>by go_simp⟩) (fun h=>absurd h (by decide)) ?_;simp only [List.setIfInBounds_toArray,List.set_cons_zero,List.set_cons_succ];refine done_X (by kernel_rfl) ?_ _;clear hS Qo Qz Qd
  go_wp2
  refine bodyPost_ret (v:=.tuple #[.slice A n c,.agg #[.string ⟨#[]⟩,.int .u32 0,.int .u8 0,.int .u16 0,.int .u32 0,.int .u32 0,.string ⟨#[]⟩,.slice A9 0 c9],.int .i64 x]) (results_row3 rfl _ _ (w.heap.size+1) 38 #[.string ⟨#[]⟩,.int .u32 0,.int .u8 0,.int .u16 0,.int .u32 0,.int .u32 0,.string ⟨#[]⟩,.slice A9 0 c9] (0,0) _ _ _ rfl rfl rfl Rz.out Tryz.underlying38 rfl (by kernel_rfl)) rfl ?_;exact⟨A,n,c,.slice A9 0 c9,rfl,(HI.out _ B.out).1,HCC.out.1,HCC.out.2,(HI.out _ B.out).2.2,HM.out,B.out⟩
end Go.Proofs.YtopepebcnaikiaaGreatDoor.Fi
namespace Go.Proofs.YtopepebcnaikiaaGreatDoor.Di
open Lib (hid)
open Go.ChangeShapes Go.WideShapes Go.ChangeAt Go.RowKit
open BigFrame
open Ar Rg
open Ino
open It (Itm)
open Ph (en1 en1_len spX spB)
variable {w w' wr:World}{g bi be bn ba bu N M bb:Nat}{s:Vo}
theorem root_pt:ptOf rootI=⟨kR,wrI nR⟩:=by
 unfold ptOf rootI;dsimp only;rw [(deK_back kR_lim kR_ok).1]
def L0:List Itm:=[rootI]
theorem pts0:pts L0=[⟨kR,wrI nR⟩]:=by
 unfold pts L0;rw [List.map_cons,List.map_nil,root_pt]
theorem vo_0:vo (pts L0)=takeI vo0 ⟨kR,wrI nR⟩:=by
 rw [pts0];show takeP vo0 ⟨kR,wrI nR⟩=_
 exact if_pos (show (⟨kR,wrI nR⟩:Pt).k.K=1 from rfl)
theorem ino_0 (i:Nat):(vo (pts L0)).ino i=if i=1 then some nR else none:=by
 rw [vo_0];show (if i=kR.I then some (deI (wrI nR)) else none)=_
 rw [(deI_back nR_lim nR_ok).1];rfl
theorem kind_0:kind (vo (pts L0)) 1=1:=by
 unfold kind;rw [ino_0,if_pos rfl];rfl
theorem rgt_0:rgt L0=true:=by
 have hs:(wrK kR).size=5:=by
  have h:=wrK_pfx kR_ok;rw [h.1,ByteArray.size_append,(pfx_ok kR_ok).2];rfl
 have hv:(wrI nR).size=13:=by rw [wrI_size nR (by decide)];rfl
 refine rgt_iff.2 ⟨?_,?_,kind_0,?_,?_⟩
 ·show It.rtFrom none [rootI]=true
  simp only [It.rtFrom,Bool.and_true];unfold It.okI It.okKey rootI;dsimp only;rw [hs,hv];decide
 ·intro x hx;obtain rfl:x=rootI:=by simpa [L0] using hx
  unfold okX;rw [root_pt];have h1:deKE rootI.k=0:=(deK_back kR_lim kR_ok).2;rw [h1];unfold okP;rw [if_pos (show (⟨kR,wrI nR⟩:Pt).k.K=1 from rfl)];dsimp only;rw [(deI_back nR_lim nR_ok).2];rfl
 ·intro p hp;rw [pts0] at hp;obtain rfl:p=⟨kR,wrI nR⟩:=by simpa using hp
  unfold stray;dsimp only;rw [ino_0,if_pos (show kR.I=1 from rfl)];rfl
 ·intro i n hn hk;rw [ino_0] at hn;split at hn
  ·rename_i h;rw [h];exact Up.one _
  ·cases hn
end Go.Proofs.YtopepebcnaikiaaGreatDoor.Di
namespace Go.Proofs.YtopepebcnaikiaaGreatDoor.Fi
open Lib (hid)
open Ino
open It (Itm Ch get und app dif rt rc rt_up)
open Di (wlk wkL rgt rgt_iff numOf Vo vo pts lsX lsL up En Up AllUp Nx okX stray kind L0 rgt_0 gtE gtI lsE snocRec ptOf)
open Ph (nb spX spB laX laD laN)
variable {L:List Itm}
def upsB (L:List Itm):Bool:=(pts L).all fun p=>!decide (p.k.K=1)||(!decide ((deI p.v).K=1)||(List.range 4).any fun k=>decide (up (vo (pts L)) k p.k.I=1))
theorem ups_of (h:upsB L=true):AllUp (vo (pts L)):=by
 intro i n hn hk;obtain⟨p,hp,h1,h2,h3⟩:=Di.ino_of _ hn;have:=List.all_eq_true.1 h p hp;rw [← h3,decide_eq_true h1,decide_eq_true hk] at this;simp only [Bool.not_true,Bool.false_or] at this;obtain⟨k,_,h4⟩:=List.any_eq_true.1 this;rw [h2] at h4;exact⟨k,of_decide_eq_true h4⟩
theorem rgt_of (h:rt L=true) (h1:L.all okX=true) (h2:kind (vo (pts L)) 1=1) (h3:(pts L).any (stray (vo (pts L)))=false) (h4:upsB L=true):rgt L=true :=
 rgt_iff.2 ⟨h,fun x hx=>List.all_eq_true.1 h1 x hx,h2,fun p hp=>(by
  cases e:stray (vo (pts L)) p with
  | false=>rfl
  | true=>exact absurd (List.any_eq_true.2 ⟨p,hp,e⟩) (by rw [h3];decide)),ups_of h4⟩
theorem wlk_C (h:rgt L=true) (fo:Bool) (D:List ByteArray):wlk L fo D=wkL (vo (pts L)) fo 8 1 D:=by unfold wlk;rw [h,if_pos rfl]
theorem dX_ch (h:rgt L=true){o:Op}(ht:¬ tells o):dX L o=chX L o:=by unfold dX;rw [h,if_pos rfl,if_neg ht]
theorem dX_td (h:rgt L=true){o:Op}(ht:tells o):dX L o=tdX L o:=by unfold dX;rw [h,if_pos rfl,if_pos ht]
theorem dT_td {o:Op}(ht:tells o) (h0:dX L o=0):dT L o=tdT L o:=by unfold dT;rw [if_pos h0,if_pos ht]
theorem app_apC (h:rt L=true) (C:List Ch) (hc:rc C=true):app L (apC L C)=app L C:=by
 unfold apC;rw [if_pos hc];exact It.app_dif (rt_up h).1 (rt_up (It.rt_app h hc)).1
theorem aft_ch (h:rgt L=true){o:Op}(ht:¬ tells o) (h0:dX L o=0) (hc:rc (chC L o)=true):aft L o=app L (chC L o):=by
 unfold aft dC;rw [if_pos h0,if_pos h0,if_neg ht,app_apC (rgt_iff.1 h).rt _ hc]
theorem aft_td (h:rgt L=true){o:Op}(ht:tells o):aft L o=L:=by
 unfold aft dC;split
 ·first
   | (rw [if_pos ht,app_apC (rgt_iff.1 h).rt [] rfl];rfl)
   | (rw [app_apC (rgt_iff.1 h).rt [] rfl];rfl)
 ·rfl
theorem aft_no {o:Op}(h0:dX L o≠0):aft L o=L:=by unfold aft;rw [if_neg h0]
def pA:ByteArray:=⟨#[47,97]⟩
def pAB:ByteArray:=⟨#[47,97,47,98]⟩
def pC:ByteArray:=⟨#[47,99]⟩
def pCB:ByteArray:=⟨#[47,99,47,98]⟩
def pR:ByteArray:=⟨#[47]⟩
def nE:ByteArray:=⟨#[]⟩
def o1:Op:=⟨2,pA,nE,0,0,0,nE⟩
def o2:Op:=⟨1,pAB,nE,5,0,0,nE⟩
def o3:Op:=⟨6,pAB,nE,0,2,0,⟨#[120]⟩⟩
def o4:Op:=⟨8,pA,pC,0,0,0,nE⟩
def q1:Op:=⟨5,pCB,nE,0,0,9,nE⟩
def q2:Op:=⟨11,pCB,nE,0,0,0,nE⟩
def q3:Op:=⟨10,pC,nE,0,0,0,nE⟩
def q4:Op:=⟨12,pR,nE,0,0,0,nE⟩
def iD:ByteArray:=⟨#[1,0,0,0,0,0,1,0,0,0,0,0,0]⟩
def kN (i:UInt8):ByteArray:=⟨#[105,0,0,0,i]⟩
def T1:List Itm:=[⟨⟨#[100,0,0,0,1,97]⟩,⟨#[0,0,0,2]⟩⟩,⟨kN 1,iD⟩,⟨kN 2,iD⟩]
def T2:List Itm:=[⟨⟨#[100,0,0,0,1,97]⟩,⟨#[0,0,0,2]⟩⟩,⟨⟨#[100,0,0,0,2,98]⟩,⟨#[0,0,0,3]⟩⟩,⟨kN 1,iD⟩,⟨kN 2,iD⟩,⟨kN 3,⟨#[2,0,5,0,0,0,1,0,0,0,0,0,0]⟩⟩]
def T3:List Itm:=[⟨⟨#[99,0,0,0,3,0,0,0,0]⟩,⟨#[0,0,120]⟩⟩,⟨⟨#[100,0,0,0,1,97]⟩,⟨#[0,0,0,2]⟩⟩,⟨⟨#[100,0,0,0,2,98]⟩,⟨#[0,0,0,3]⟩⟩,⟨kN 1,iD⟩,⟨kN 2,iD⟩,⟨kN 3,⟨#[2,0,5,0,0,0,1,0,0,0,3,0,0]⟩⟩]
def T4:List Itm:=[⟨⟨#[99,0,0,0,3,0,0,0,0]⟩,⟨#[0,0,120]⟩⟩,⟨⟨#[100,0,0,0,1,99]⟩,⟨#[0,0,0,2]⟩⟩,⟨⟨#[100,0,0,0,2,98]⟩,⟨#[0,0,0,3]⟩⟩,⟨kN 1,iD⟩,⟨kN 2,iD⟩,⟨kN 3,⟨#[2,0,5,0,0,0,1,0,0,0,3,0,0]⟩⟩]
theorem r1:rgt T1=true:=rgt_of (by kernel_rfl) (by kernel_rfl) (by kernel_rfl) (by kernel_rfl) (by kernel_rfl)
theorem r2:rgt T2=true:=rgt_of (by kernel_rfl) (by kernel_rfl) (by kernel_rfl) (by kernel_rfl) (by kernel_rfl)
theorem r3:rgt T3=true:=rgt_of (by kernel_rfl) (by kernel_rfl) (by kernel_rfl) (by kernel_rfl) (by kernel_rfl)
theorem r4:rgt T4=true:=rgt_of (by kernel_rfl) (by kernel_rfl) (by kernel_rfl) (by kernel_rfl) (by kernel_rfl)
theorem x0:nxt L0=2:=nxt_of ⟨by decide,by decide,by kernel_rfl,fun k h1 h2=>absurd h2 (by omega)⟩
theorem x1:nxt T1=3:=nxt_of ⟨by decide,by decide,by kernel_rfl,fun k h1 h2=>by
 obtain rfl:k=2:=by omega
 kernel_rfl⟩
theorem n1:¬ tells o1:=by decide
theorem n2:¬ tells o2:=by decide
theorem n3:¬ tells o3:=by decide
theorem n4:¬ tells o4:=by decide
theorem c1:chX L0 o1=0:=by
 show crX L0 pA ⟨1,0,1,0,ByteArray.empty⟩=0
 unfold crX frX plX pl pl0;unfold plX;simp only [wlk_C rgt_0]
 kernel_rfl
theorem a1:chC L0 o1=[⟨kN 2,true,iD⟩,⟨⟨#[100,0,0,0,1,97]⟩,true,⟨#[0,0,0,2]⟩⟩]:=by
 show crC L0 pA ⟨1,0,1,0,ByteArray.empty⟩=_
 unfold crC pl pl0 plX;rw [x0];simp only [wlk_C rgt_0]
 kernel_rfl
theorem f1:dX L0 o1=0∧aft L0 o1=T1:=by
 have h:=(dX_ch rgt_0 n1).trans c1;refine⟨h,?_⟩;rw [aft_ch rgt_0 n1 h (by rw [a1];kernel_rfl),a1]
 kernel_rfl
theorem c2:chX T1 o2=0:=by
 show crX T1 pAB ⟨2,5,1,0,ByteArray.empty⟩=0
 unfold crX frX plX pl pl0;unfold plX;simp only [wlk_C r1]
 kernel_rfl
theorem a2:chC T1 o2=[⟨kN 3,true,⟨#[2,0,5,0,0,0,1,0,0,0,0,0,0]⟩⟩,⟨⟨#[100,0,0,0,2,98]⟩,true,⟨#[0,0,0,3]⟩⟩]:=by
 show crC T1 pAB ⟨2,5,1,0,ByteArray.empty⟩=_
 unfold crC pl pl0 plX;rw [x1];simp only [wlk_C r1]
 kernel_rfl
theorem f2:dX T1 o2=0∧aft T1 o2=T2:=by
 have h:=(dX_ch r1 n2).trans c2;refine⟨h,?_⟩;rw [aft_ch r1 n2 h (by rw [a2];kernel_rfl),a2]
 kernel_rfl
theorem c3:chX T2 o3=0:=by
 show wtX T2 o3=0
 unfold wtX fnX ldI ldN ldX;unfold ldI ldX;simp only [wlk_C r2]
 kernel_rfl
theorem a3:chC T2 o3=[⟨⟨#[99,0,0,0,3,0,0,0,0]⟩,true,⟨#[0,0,120]⟩⟩,⟨kN 3,true,⟨#[2,0,5,0,0,0,1,0,0,0,3,0,0]⟩⟩]:=by
 show wtC T2 o3=_
 unfold wtC wtS ldI ldN ldX;unfold ldI ldX;simp only [wlk_C r2]
 kernel_rfl
theorem f3:dX T2 o3=0∧aft T2 o3=T3:=by
 have h:=(dX_ch r2 n3).trans c3;refine⟨h,?_⟩;rw [aft_ch r2 n3 h (by rw [a3];kernel_rfl),a3]
 kernel_rfl
theorem u3:undr T3 1 2=false:=undr_no (k:=0) rfl (by decide) (fun j hj=>absurd hj (by omega))
theorem p3:pl T3 pA=⟨1,⟨#[100,0,0,0,1,97]⟩,2⟩∧pl T3 pC=⟨1,⟨#[100,0,0,0,1,99]⟩,0⟩:=by
 unfold pl pl0 plX;simp only [wlk_C r3];exact⟨by kernel_rfl,by kernel_rfl⟩
theorem p3x:nmX T3 pA=0∧plX T3 pC=0:=by
 unfold nmX;rw [p3.1];unfold plX;simp only [wlk_C r3];exact⟨by kernel_rfl,by kernel_rfl⟩
theorem c4:chX T3 o4=0:=by
 show rnX T3 o4=0
 unfold rnX;show (if nmX T3 pA≠0 then nmX T3 pA else if plX T3 pC≠0 then plX T3 pC else if undr T3 (pl T3 pC).d (pl T3 pA).i=true then 7 else if (pl T3 pC).i=(pl T3 pA).i then 0 else if (pl T3 pC).i=0 then 0 else rpX T3 (pl T3 pA).i (pl T3 pC).i)=0
 rw [p3x.1,p3x.2,p3.1,p3.2];show (if (0:Int)≠0 then _ else if (0:Int)≠0 then _ else if undr T3 1 2=true then 7 else _)=(0:Int)
 rw [u3]
 kernel_rfl
theorem a4:chC T3 o4=[⟨⟨#[100,0,0,0,1,97]⟩,false,nE⟩,⟨⟨#[100,0,0,0,1,99]⟩,true,⟨#[0,0,0,2]⟩⟩]:=by
 show rnC T3 o4=_
 unfold rnC;show (if (pl T3 pC).i=(pl T3 pA).i then [] else (if (pl T3 pC).i=0 then [] else letGo T3 (pl T3 pC))++[isFree (pl T3 pA),names (pl T3 pC) (pl T3 pA).i])=_
 rw [p3.1,p3.2]
 kernel_rfl
theorem f4:dX T3 o4=0∧aft T3 o4=T4:=by
 have h:=(dX_ch r3 n4).trans c4;refine⟨h,?_⟩;rw [aft_ch r3 n4 h (by rw [a4];kernel_rfl),a4]
 kernel_rfl
theorem m1:tells q1:=by decide
theorem m2:tells q2:=by decide
theorem m3:¬ tells q3:=by decide
theorem m4:tells q4:=by decide
theorem g1:dX T4 q1=0∧dT T4 q1={ zTd with s:=⟨#[0,0,120]⟩ }:=by
 have h:dX T4 q1=0:=by
  rw [dX_td r4 m1];show reX T4 q1=0
  unfold reX fnX ldI ldN ldX;unfold ldI ldX;simp only [wlk_C r4]
  kernel_rfl
 refine⟨h,?_⟩;rw [dT_td m1 h];show reT T4 q1=_
 unfold reT ldI ldN ldX;unfold ldI ldX;simp only [wlk_C r4]
 kernel_rfl
theorem g2:dX T4 q2=0∧dT T4 q2={ zTd with i:=3,n:=⟨2,5,1,3,ByteArray.empty⟩ }:=by
 have h:dX T4 q2=0:=by
  rw [dX_td r4 m2];show ldX T4 pCB true=0
  unfold ldX;simp only [wlk_C r4]
  kernel_rfl
 refine⟨h,?_⟩;rw [dT_td m2 h];show stT T4 q2=_
 unfold stT ldI ldN ldX;unfold ldI ldX;simp only [wlk_C r4]
 kernel_rfl
theorem g3:dX T4 q3=13:=by
 rw [dX_ch r4 m3];show rmX T4 q3=13
 unfold rmX nmX pl pl0 plX;simp only [wlk_C r4]
 kernel_rfl
theorem ls4:lsX T4 1=0∧lsL T4 1=[⟨⟨#[99]⟩,2,1⟩]:=by
 have h:lsX T4 1=0:=by
  unfold lsX gtE gtI;rw [r4]
  kernel_rfl
 refine⟨h,?_⟩;unfold lsL;rw [h,if_pos rfl]
 kernel_rfl
theorem l4:ldX T4 pR true=0∧ldI T4 pR true=1:=by
 unfold ldI ldX;simp only [wlk_C r4];exact⟨by kernel_rfl,by kernel_rfl⟩
theorem g4:dX T4 q4=0∧dT T4 q4={ zTd with e:=[⟨⟨#[99]⟩,2,1⟩] }:=by
 have h:dX T4 q4=0:=by
  rw [dX_td r4 m4];show liX T4 q4=0
  unfold liX;show (if ldX T4 pR true≠0 then ldX T4 pR true else lsX T4 (ldI T4 pR true))=0
  rw [l4.1,l4.2,ls4.1];rfl
 refine⟨h,?_⟩;rw [dT_td m4 h];show liT T4 q4=_
 unfold liT;show ({ zTd with e:=lsL T4 (ldI T4 pR true) }:Td)=_
 rw [l4.2,ls4.2]
end Go.Proofs.YtopepebcnaikiaaGreatDoor.Fi
namespace Go.Proofs.YtopepebcnaikiaaGreatDoor.Fi
open Lib (hid)
open Go.ChangeShapes Go.WideShapes Go.ChangeAt Go.RowKit
open BigFrame
open Ar Rg
open Ino
open It (Itm Ch get und app dif rt rc enc er getV get_any under_any apply_any diff_any MkI MkC)
open Di (ItA wlk rgt rgt_iff numOf Vo vo pts lsX lsL up En NmA Walk_any Up MkE List_any New_any L0 encEn encEn_len)
open Ph (nb spX spB laX laD laN)
open Pk (nB nE tN tR tE number_any take_any)
variable {w w' wr:World}{A:Option Addr}{n c:Nat}{L:List Itm}
theorem af {o:Op}{L':List Itm}{d:Td}{x:Int}(hI:ItA w A n L) (hc:n≤c) (hcm:c≤maxLen) (ho:o.lim) (hx:dX L o=x) (ha:aft L o=L') (hd:dT L o=d) (hl:L'.length≤1390000):Calls Tryz.prog 14 #[.slice A n c,vOp o] w fun e w' =>
  ∃ (A':Option Addr) (n' c':Nat) (A9:Option Addr) (m9 c9:Nat),e=.returned (.tuple #[.slice A' n' c',vTd d (.slice A9 m9 c9),.int .i64 x])∧m9=d.e.length∧n'≤c'∧c'≤maxLen∧ItA w' A' n' L'∧Ls encEn 3 w' w'.heap.size A9 d.e∧Below w.heap.size w w':=by
 refine (after_any hI hc hcm o ho).mono ?_;rintro e w' ⟨A',n',c',ev,rfl,h1,h2,h3,h4,h5,h6⟩;rw [ha] at h1 h4;rw [hd] at h5 ⊢;rw [hx];obtain⟨A9,c9,rfl,_,_,hl9⟩:=h5.ls encEn_len;exact⟨A',n',c',A9,_,c9,rfl,rfl,h2,h3,⟨h1,by omega,h4⟩,hl9,h6⟩
def tl:Nat→List Itm
 | 0=>L0
 | 1=>T1
 | 2=>T2
 | 3=>T3
 | _=>T4
def ol:Nat→Op
 | 0=>o1
 | 1=>o2
 | 2=>o3
 | _=>o4
theorem tl_len (i:Nat):(tl i).length≤1390000:=by
 unfold tl;split<;>decide
theorem tl_next {i:Nat}(h:i<4):dX (tl i) (ol i)=0∧aft (tl i) (ol i)=tl (i+1)∧dT (tl i) (ol i)=zTd:=by
 have key:∀ (L:List Itm) (o:Op),¬ tells o→dT L o=zTd:=fun L o ht=>by unfold dT;split;all_goals first | rfl | (rw [if_neg ht])
 obtain rfl | rfl | rfl | rfl:i=0∨i=1∨i=2∨i=3:=by omega
 ·exact⟨f1.1,f1.2,key _ _ n1⟩
 ·exact⟨f2.1,f2.2,key _ _ n2⟩
 ·exact⟨f3.1,f3.2,key _ _ n3⟩
 ·exact⟨f4.1,f4.2,key _ _ n4⟩
theorem ol_lim (i:Nat):(ol i).lim:=by
 unfold ol;split<;>exact⟨by decide,by decide,by decide,by decide,by decide,by decide,by decide⟩
theorem lives_any (w:World):Calls Tryz.prog 11 #[] w fun e w'=>e=.returned (.bool true)∧Below w.heap.size w w':=by
 have CN:=hid (New_any w);have CA0:=hid (fun (w:World) (A:Option Addr) (n c:Nat) (hI:ItA w A n (tl 0)) (hc:n≤c) (hcm:c≤maxLen)=>af (o:=ol 0) (L:=tl 0) (L':=tl 1) (d:=zTd) (x:=0) hI hc hcm (ol_lim 0) (tl_next (i:=0) (by decide)).1 (tl_next (i:=0) (by decide)).2.1 (tl_next (i:=0) (by decide)).2.2 (tl_len 1));rw [show vOp (ol 0)=.agg #[.int .u8 2,.string ⟨#[47,97]⟩,.string ⟨#[]⟩,.int .u16 0,.int .u32 0,.int .u32 0,.string ⟨#[]⟩] from rfl] at CA0;have CA1:=hid (fun (w:World) (A:Option Addr) (n c:Nat) (hI:ItA w A n (tl 1)) (hc:n≤c) (hcm:c≤maxLen)=>af (o:=ol 1) (L:=tl 1) (L':=tl 2) (d:=zTd) (x:=0) hI hc hcm (ol_lim 1) (tl_next (i:=1) (by decide)).1 (tl_next (i:=1) (by decide)).2.1 (tl_next (i:=1) (by decide)).2.2 (tl_len 2));rw [show vOp (ol 1)=.agg #[.int .u8 1,.string ⟨#[47,97,47,98]⟩,.string ⟨#[]⟩,.int .u16 5,.int .u32 0,.int .u32 0,.string ⟨#[]⟩] from rfl] at CA1;have CA2:=hid (fun (w:World) (A:Option Addr) (n c:Nat) (hI:ItA w A n (tl 2)) (hc:n≤c) (hcm:c≤maxLen)=>af (o:=ol 2) (L:=tl 2) (L':=tl 3) (d:=zTd) (x:=0) hI hc hcm (ol_lim 2) (tl_next (i:=2) (by decide)).1 (tl_next (i:=2) (by decide)).2.1 (tl_next (i:=2) (by decide)).2.2 (tl_len 3));rw [show vOp (ol 2)=.agg #[.int .u8 6,.string ⟨#[47,97,47,98]⟩,.string ⟨#[]⟩,.int .u16 0,.int .u32 2,.int .u32 0,.string ⟨#[120]⟩] from rfl] at CA2;have CA3:=hid (fun (w:World) (A:Option Addr) (n c:Nat) (hI:ItA w A n (tl 3)) (hc:n≤c) (hcm:c≤maxLen)=>af (o:=ol 3) (L:=tl 3) (L':=tl 4) (d:=zTd) (x:=0) hI hc hcm (ol_lim 3) (tl_next (i:=3) (by decide)).1 (tl_next (i:=3) (by decide)).2.1 (tl_next (i:=3) (by decide)).2.2 (tl_len 4));rw [show vOp (ol 3)=.agg #[.int .u8 8,.string ⟨#[47,97]⟩,.string ⟨#[47,99]⟩,.int .u16 0,.int .u32 0,.int .u32 0,.string ⟨#[]⟩] from rfl] at CA3;have CQ1:=hid (fun (w:World) (A:Option Addr) (n c:Nat) (hI:ItA w A n T4) (hc:n≤c) (hcm:c≤maxLen)=>af (o:=q1) (L:=T4) (L':=T4) (d:={ zTd with s:=⟨#[0,0,120]⟩ }) (x:=0) hI hc hcm ⟨by decide,by decide,by decide,by decide,by decide,by decide,by decide⟩ g1.1 (aft_td r4 m1) (g1.2) (tl_len 4));rw [show vOp q1=.agg #[.int .u8 5,.string ⟨#[47,99,47,98]⟩,.string ⟨#[]⟩,.int .u16 0,.int .u32 0,.int .u32 9,.string ⟨#[]⟩] from rfl] at CQ1;have CQ2:=hid (fun (w:World) (A:Option Addr) (n c:Nat) (hI:ItA w A n T4) (hc:n≤c) (hcm:c≤maxLen)=>af (o:=q2) (L:=T4) (L':=T4) (d:={ zTd with i:=3,n:=⟨2,5,1,3,ByteArray.empty⟩ }) (x:=0) hI hc hcm ⟨by decide,by decide,by decide,by decide,by decide,by decide,by decide⟩ g2.1 (aft_td r4 m2) (g2.2) (tl_len 4));rw [show vOp q2=.agg #[.int .u8 11,.string ⟨#[47,99,47,98]⟩,.string ⟨#[]⟩,.int .u16 0,.int .u32 0,.int .u32 0,.string ⟨#[]⟩] from rfl] at CQ2;have CQ3:=hid (fun (w:World) (A:Option Addr) (n c:Nat) (hI:ItA w A n T4) (hc:n≤c) (hcm:c≤maxLen)=>af (o:=q3) (L:=T4) (L':=T4) (d:=zTd) (x:=13) hI hc hcm ⟨by decide,by decide,by decide,by decide,by decide,by decide,by decide⟩ g3 (aft_no (by rw [g3];decide)) (dT_no (by rw [g3];decide)) (tl_len 4));rw [show vOp q3=.agg #[.int .u8 10,.string ⟨#[47,99]⟩,.string ⟨#[]⟩,.int .u16 0,.int .u32 0,.int .u32 0,.string ⟨#[]⟩] from rfl] at CQ3
 have CQ4:=hid (fun (w:World) (A:Option Addr) (n c:Nat) (hI:ItA w A n T4) (hc:n≤c) (hcm:c≤maxLen)=>af (o:=q4) (L:=T4) (L':=T4) (d:={ zTd with e:=[⟨⟨#[99]⟩,2,1⟩] }) (x:=0) hI hc hcm ⟨by decide,by decide,by decide,by decide,by decide,by decide,by decide⟩ g4.1 (aft_td r4 m4) (g4.2) (tl_len 4));rw [show vOp q4=.agg #[.int .u8 12,.string ⟨#[47]⟩,.string ⟨#[]⟩,.int .u16 0,.int .u32 0,.int .u32 0,.string ⟨#[]⟩] from rfl] at CQ4
 go_enter Tryz.func11,Tryz.ntmps11
 go_wp2_with fail
 refine CN.out.mono ?_;rintro e w1 ⟨A,rfl,hA,hb1⟩;have H1:=hid (show ItA w1 A 1 (tl 0) from hA);have B1:=hid hb1;have hal:Below w1.heap.size w1 (w1.alloc (.cells #[.int .u8 2,.string ⟨#[47,97]⟩,.string ⟨#[]⟩,.int .u16 0,.int .u32 0,.int .u32 0,.string ⟨#[]⟩,.int .u8 1,.string ⟨#[47,97,47,98]⟩,.string ⟨#[]⟩,.int .u16 5,.int .u32 0,.int .u32 0,.string ⟨#[]⟩,.int .u8 6,.string ⟨#[47,97,47,98]⟩,.string ⟨#[]⟩,.int .u16 0,.int .u32 2,.int .u32 0,.string ⟨#[120]⟩,.int .u8 8,.string ⟨#[47,97]⟩,.string ⟨#[47,99]⟩,.int .u16 0,.int .u32 0,.int .u32 0,.string ⟨#[]⟩] 31)):=(Below.refl _ _).alloc (Nat.le_refl _) _;have R0:=hid (Rw.new w1 #[.int .u8 2,.string ⟨#[47,97]⟩,.string ⟨#[]⟩,.int .u16 0,.int .u32 0,.int .u32 0,.string ⟨#[]⟩,.int .u8 1,.string ⟨#[47,97,47,98]⟩,.string ⟨#[]⟩,.int .u16 5,.int .u32 0,.int .u32 0,.string ⟨#[]⟩,.int .u8 6,.string ⟨#[47,97,47,98]⟩,.string ⟨#[]⟩,.int .u16 0,.int .u32 2,.int .u32 0,.string ⟨#[120]⟩,.int .u8 8,.string ⟨#[47,97]⟩,.string ⟨#[47,99]⟩,.int .u16 0,.int .u32 0,.int .u32 0,.string ⟨#[]⟩] 31);have H0:=hid (H1.out.go hal);have B0:=hid (B1.out.trans (hal.mono B1.out.size));clear hA hb1 CN H1 hal
 go_wp2_with fail
 go_loopw [1,26] (fun v1 v26 wr=>∃ (i:Nat) (A':Option Addr) (n' c':Nat),i≤4∧v26=.int .i64 i∧v1=.slice A' n' c'∧n'≤c'∧c'≤maxLen∧Hid (ItA wr A' n' (tl i))∧Hid (Below w.heap.size w wr)∧Hid (Rw wr w1.heap.size #[.int .u8 2,.string ⟨#[47,97]⟩,.string ⟨#[]⟩,.int .u16 0,.int .u32 0,.int .u32 0,.string ⟨#[]⟩,.int .u8 1,.string ⟨#[47,97,47,98]⟩,.string ⟨#[]⟩,.int .u16 5,.int .u32 0,.int .u32 0,.string ⟨#[]⟩,.int .u8 6,.string ⟨#[47,97,47,98]⟩,.string ⟨#[]⟩,.int .u16 0,.int .u32 2,.int .u32 0,.string ⟨#[120]⟩,.int .u8 8,.string ⟨#[47,97]⟩,.string ⟨#[47,99]⟩,.int .u16 0,.int .u32 0,.int .u32 0,.string ⟨#[]⟩] 31)) (fun _ v26 _=>4-(intOf v26).toNat)
 case atStart=>exact⟨0,A,1,1,by decide,by go_num,rfl,Nat.le_refl _,by unfold maxLen;omega,H0.out,B0.out,R0.out⟩
 case round =>
  obtain⟨i,A',n',c',hi,rfl,rfl,hn',hc',hI,hB,hR⟩:=hrel;have HI:=hid (Hid.out hI);have B:=hid (Hid.out hB);have Rg:=hid (Hid.out hR);have HN:=hid (show n'≤c'∧c'≤maxLen from⟨hn',hc'⟩);clear hI hB hR hn' hc' H0 B0 R0;obtain rfl | rfl | rfl | rfl | rfl:i=0∨i=1∨i=2∨i=3∨i=4:=by omega
  ·have k0:=Rg.out.cell 0 _ rfl;have k1:=Rg.out.cell 1 _ rfl;have k2:=Rg.out.cell 2 _ rfl;have k3:=Rg.out.cell 3 _ rfl;have k4:=Rg.out.cell 4 _ rfl;have k5:=Rg.out.cell 5 _ rfl;have k6:=Rg.out.cell 6 _ rfl;have hal:Below wr.heap.size wr (wr.alloc (.cells #[.int .u8 2,.string ⟨#[47,97]⟩,.string ⟨#[]⟩,.int .u16 0,.int .u32 0,.int .u32 0,.string ⟨#[]⟩] 31)):=(Below.refl _ _).alloc (Nat.le_refl _) _;have HIa:=hid (HI.out.go hal);have Ba:=hid (B.out.trans (hal.mono B.out.size));have Ra:=hid (Rg.out.go hal);clear hal HI B Rg
   go_wp2_with fail
   generalize wr.alloc (.cells #[.int .u8 2,.string ⟨#[47,97]⟩,.string ⟨#[]⟩,.int .u16 0,.int .u32 0,.int .u32 0,.string ⟨#[]⟩] 31)=W at *;clear k0 k1 k2 k3 k4 k5 k6;refine (CA0.out W A' n' c' HIa.out HN.out.1 HN.out.2).mono ?_;rintro e w2 ⟨A2,n2,c2,A9,m9,c9,rfl,hm9,hn2,hc2,hI2,_,hb⟩;replace hm9:m9=0:=hm9;subst hm9;have HI2:=hid hI2;have B2:=hid (Ba.out.trans (hb.mono Ba.out.size));have R2:=hid (Ra.out.go hb);have HN2:=hid (show n2≤c2∧c2≤maxLen from⟨hn2,hc2⟩);clear hI2 hb hn2 hc2 HIa Ba Ra;have M:=made w2 #[.string ⟨#[]⟩,.int .u32 0,.int .u8 0,.int .u16 0,.int .u32 0,.int .u32 0,.string ⟨#[]⟩,.slice none 0 0] #[.string ⟨#[]⟩,.int .u32 0,.int .u8 0,.int .u16 0,.int .u32 0,.int .u32 0,.string ⟨#[]⟩,.slice A9 0 c9] 38
   go_wp2_with (refine wpList_store_row rfl 38 (.tmp 5) (.tmp 35) rfl w2.heap.size #[.string ⟨#[]⟩,.int .u32 0,.int .u8 0,.int .u16 0,.int .u32 0,.int .u32 0,.string ⟨#[]⟩,.slice A9 0 c9] rfl rfl 38 #[.string ⟨#[]⟩,.int .u32 0,.int .u8 0,.int .u16 0,.int .u32 0,.int .u32 0,.string ⟨#[]⟩,.slice none 0 0] (heap_alloc_new w2 _) (by kernel_rfl) rfl (row8 _ _ _ _ _ _ _ _ _ _) ?_)
   exact⟨⟨1,A2,n2,c2,by decide,by go_num,rfl,HN2.out.1,HN2.out.2,HI2.out.go M.2.1,B2.out.trans (M.2.1.mono B2.out.size),R2.out.go M.2.1⟩,by simp [intOf]⟩
  ·have k0:=Rg.out.cell 7 _ rfl;have k1:=Rg.out.cell 8 _ rfl;have k2:=Rg.out.cell 9 _ rfl;have k3:=Rg.out.cell 10 _ rfl;have k4:=Rg.out.cell 11 _ rfl;have k5:=Rg.out.cell 12 _ rfl;have k6:=Rg.out.cell 13 _ rfl;have hal:Below wr.heap.size wr (wr.alloc (.cells #[.int .u8 1,.string ⟨#[47,97,47,98]⟩,.string ⟨#[]⟩,.int .u16 5,.int .u32 0,.int .u32 0,.string ⟨#[]⟩] 31)):=(Below.refl _ _).alloc (Nat.le_refl _) _;have HIa:=hid (HI.out.go hal);have Ba:=hid (B.out.trans (hal.mono B.out.size));have Ra:=hid (Rg.out.go hal);clear hal HI B Rg
   go_wp2_with fail
   generalize wr.alloc (.cells #[.int .u8 1,.string ⟨#[47,97,47,98]⟩,.string ⟨#[]⟩,.int .u16 5,.int .u32 0,.int .u32 0,.string ⟨#[]⟩] 31)=W at *;clear k0 k1 k2 k3 k4 k5 k6;refine (CA1.out W A' n' c' HIa.out HN.out.1 HN.out.2).mono ?_;rintro e w2 ⟨A2,n2,c2,A9,m9,c9,rfl,hm9,hn2,hc2,hI2,_,hb⟩;replace hm9:m9=0:=hm9;subst hm9;have HI2:=hid hI2;have B2:=hid (Ba.out.trans (hb.mono Ba.out.size));have R2:=hid (Ra.out.go hb);have HN2:=hid (show n2≤c2∧c2≤maxLen from⟨hn2,hc2⟩);clear hI2 hb hn2 hc2 HIa Ba Ra;have M:=made w2 #[.string ⟨#[]⟩,.int .u32 0,.int .u8 0,.int .u16 0,.int .u32 0,.int .u32 0,.string ⟨#[]⟩,.slice none 0 0] #[.string ⟨#[]⟩,.int .u32 0,.int .u8 0,.int .u16 0,.int .u32 0,.int .u32 0,.string ⟨#[]⟩,.slice A9 0 c9] 38
   go_wp2_with (refine wpList_store_row rfl 38 (.tmp 5) (.tmp 35) rfl w2.heap.size #[.string ⟨#[]⟩,.int .u32 0,.int .u8 0,.int .u16 0,.int .u32 0,.int .u32 0,.string ⟨#[]⟩,.slice A9 0 c9] rfl rfl 38 #[.string ⟨#[]⟩,.int .u32 0,.int .u8 0,.int .u16 0,.int .u32 0,.int .u32 0,.string ⟨#[]⟩,.slice none 0 0] (heap_alloc_new w2 _) (by kernel_rfl) rfl (row8 _ _ _ _ _ _ _ _ _ _) ?_)
   exact⟨⟨2,A2,n2,c2,by decide,by go_num,rfl,HN2.out.1,HN2.out.2,HI2.out.go M.2.1,B2.out.trans (M.2.1.mono B2.out.size),R2.out.go M.2.1⟩,by simp [intOf]⟩
  ·have k0:=Rg.out.cell 14 _ rfl;have k1:=Rg.out.cell 15 _ rfl;have k2:=Rg.out.cell 16 _ rfl;have k3:=Rg.out.cell 17 _ rfl;have k4:=Rg.out.cell 18 _ rfl;have k5:=Rg.out.cell 19 _ rfl;have k6:=Rg.out.cell 20 _ rfl;have hal:Below wr.heap.size wr (wr.alloc (.cells #[.int .u8 6,.string ⟨#[47,97,47,98]⟩,.string ⟨#[]⟩,.int .u16 0,.int .u32 2,.int .u32 0,.string ⟨#[120]⟩] 31)):=(Below.refl _ _).alloc (Nat.le_refl _) _;have HIa:=hid (HI.out.go hal);have Ba:=hid (B.out.trans (hal.mono B.out.size));have Ra:=hid (Rg.out.go hal);clear hal HI B Rg
   go_wp2_with fail
   generalize wr.alloc (.cells #[.int .u8 6,.string ⟨#[47,97,47,98]⟩,.string ⟨#[]⟩,.int .u16 0,.int .u32 2,.int .u32 0,.string ⟨#[120]⟩] 31)=W at *;clear k0 k1 k2 k3 k4 k5 k6;refine (CA2.out W A' n' c' HIa.out HN.out.1 HN.out.2).mono ?_;rintro e w2 ⟨A2,n2,c2,A9,m9,c9,rfl,hm9,hn2,hc2,hI2,_,hb⟩;replace hm9:m9=0:=hm9;subst hm9;have HI2:=hid hI2;have B2:=hid (Ba.out.trans (hb.mono Ba.out.size));have R2:=hid (Ra.out.go hb);have HN2:=hid (show n2≤c2∧c2≤maxLen from⟨hn2,hc2⟩);clear hI2 hb hn2 hc2 HIa Ba Ra;have M:=made w2 #[.string ⟨#[]⟩,.int .u32 0,.int .u8 0,.int .u16 0,.int .u32 0,.int .u32 0,.string ⟨#[]⟩,.slice none 0 0] #[.string ⟨#[]⟩,.int .u32 0,.int .u8 0,.int .u16 0,.int .u32 0,.int .u32 0,.string ⟨#[]⟩,.slice A9 0 c9] 38
   go_wp2_with (refine wpList_store_row rfl 38 (.tmp 5) (.tmp 35) rfl w2.heap.size #[.string ⟨#[]⟩,.int .u32 0,.int .u8 0,.int .u16 0,.int .u32 0,.int .u32 0,.string ⟨#[]⟩,.slice A9 0 c9] rfl rfl 38 #[.string ⟨#[]⟩,.int .u32 0,.int .u8 0,.int .u16 0,.int .u32 0,.int .u32 0,.string ⟨#[]⟩,.slice none 0 0] (heap_alloc_new w2 _) (by kernel_rfl) rfl (row8 _ _ _ _ _ _ _ _ _ _) ?_)
   exact⟨⟨3,A2,n2,c2,by decide,by go_num,rfl,HN2.out.1,HN2.out.2,HI2.out.go M.2.1,B2.out.trans (M.2.1.mono B2.out.size),R2.out.go M.2.1⟩,by simp [intOf]⟩
  ·have k0:=Rg.out.cell 21 _ rfl;have k1:=Rg.out.cell 22 _ rfl;have k2:=Rg.out.cell 23 _ rfl;have k3:=Rg.out.cell 24 _ rfl;have k4:=Rg.out.cell 25 _ rfl;have k5:=Rg.out.cell 26 _ rfl;have k6:=Rg.out.cell 27 _ rfl;have hal:Below wr.heap.size wr (wr.alloc (.cells #[.int .u8 8,.string ⟨#[47,97]⟩,.string ⟨#[47,99]⟩,.int .u16 0,.int .u32 0,.int .u32 0,.string ⟨#[]⟩] 31)):=(Below.refl _ _).alloc (Nat.le_refl _) _;have HIa:=hid (HI.out.go hal);have Ba:=hid (B.out.trans (hal.mono B.out.size));have Ra:=hid (Rg.out.go hal);clear hal HI B Rg
   go_wp2_with fail
   generalize wr.alloc (.cells #[.int .u8 8,.string ⟨#[47,97]⟩,.string ⟨#[47,99]⟩,.int .u16 0,.int .u32 0,.int .u32 0,.string ⟨#[]⟩] 31)=W at *;clear k0 k1 k2 k3 k4 k5 k6;refine (CA3.out W A' n' c' HIa.out HN.out.1 HN.out.2).mono ?_;rintro e w2 ⟨A2,n2,c2,A9,m9,c9,rfl,hm9,hn2,hc2,hI2,_,hb⟩;replace hm9:m9=0:=hm9;subst hm9;have HI2:=hid hI2;have B2:=hid (Ba.out.trans (hb.mono Ba.out.size));have R2:=hid (Ra.out.go hb);have HN2:=hid (show n2≤c2∧c2≤maxLen from⟨hn2,hc2⟩);clear hI2 hb hn2 hc2 HIa Ba Ra;have M:=made w2 #[.string ⟨#[]⟩,.int .u32 0,.int .u8 0,.int .u16 0,.int .u32 0,.int .u32 0,.string ⟨#[]⟩,.slice none 0 0] #[.string ⟨#[]⟩,.int .u32 0,.int .u8 0,.int .u16 0,.int .u32 0,.int .u32 0,.string ⟨#[]⟩,.slice A9 0 c9] 38
   go_wp2_with (refine wpList_store_row rfl 38 (.tmp 5) (.tmp 35) rfl w2.heap.size #[.string ⟨#[]⟩,.int .u32 0,.int .u8 0,.int .u16 0,.int .u32 0,.int .u32 0,.string ⟨#[]⟩,.slice A9 0 c9] rfl rfl 38 #[.string ⟨#[]⟩,.int .u32 0,.int .u8 0,.int .u16 0,.int .u32 0,.int .u32 0,.string ⟨#[]⟩,.slice none 0 0] (heap_alloc_new w2 _) (by kernel_rfl) rfl (row8 _ _ _ _ _ _ _ _ _ _) ?_)
   exact⟨⟨4,A2,n2,c2,by decide,by go_num,rfl,HN2.out.1,HN2.out.2,HI2.out.go M.2.1,B2.out.trans (M.2.1.mono B2.out.size),R2.out.go M.2.1⟩,by simp [intOf]⟩
  ·have HI:=hid (show ItA wr A' n' T4 from HI.out)
   go_wp2_with fail
   refine (CQ1.out wr A' n' c' HI.out HN.out.1 HN.out.2).mono ?_;rintro e w2 ⟨A11,n11,c11,A21,m21,c21,rfl,hm9,hn9,hc9,hI9,hl9,hb⟩;replace hm9:m21=0:=hm9;subst hm9;replace HI:=hid (HI.out.go hb);replace B:=gb B hb;clear hI9 hn9 hc9 hl9;clear hb
   go_wp2_with (first|(refine new_row rfl 38 (.tmp 8) (.tmp 46) rfl rfl #[.string ⟨#[0,0,120]⟩,.int .u32 0,.int .u8 0,.int .u16 0,.int .u32 0,.int .u32 0,.string ⟨#[]⟩,.slice A21 0 c21] rfl rfl (by kernel_rfl) rfl (row8 _ _ _ _ _ _ _ _ _ _) ?_;intro w3 M;replace HI:=hid (HI.out.go M.2.1);replace B:=gb B M.2.1;have Ra:=hid M.1;obtain⟨ca0,ca1,ca2,ca3,ca4,ca5,ca6,ca7⟩:=cl8 Ra.out;clear M)|(go_at_call 14;refine (CQ2.out w3 A' n' c' HI.out HN.out.1 HN.out.2).mono ?_;rintro e w4 ⟨A12,n12,c12,A22,m22,c22,rfl,hm9,hn9,hc9,hI9,hl9,hb⟩;replace hm9:m22=0:=hm9;subst hm9;clear ca0 ca1 ca2 ca3 ca4 ca5 ca6 ca7;replace Ra:=gg Ra hb;replace HI:=hid (HI.out.go hb);replace B:=gb B hb;clear hI9 hn9 hc9 hl9;obtain⟨ca0,ca1,ca2,ca3,ca4,ca5,ca6,ca7⟩:=cl8 Ra.out;clear hb)|(refine new_row rfl 38 (.tmp 11) (.tmp 53) rfl rfl #[.string ⟨#[]⟩,.int .u32 3,.int .u8 2,.int .u16 5,.int .u32 1,.int .u32 3,.string ⟨#[]⟩,.slice A22 0 c22] rfl rfl (by kernel_rfl) rfl (row8 _ _ _ _ _ _ _ _ _ _) ?_;intro w5 M;clear ca0 ca1 ca2 ca3 ca4 ca5 ca6 ca7;replace Ra:=gg Ra M.2.1;replace HI:=hid (HI.out.go M.2.1);replace B:=gb B M.2.1;have Rb:=hid M.1;obtain⟨ca0,ca1,ca2,ca3,ca4,ca5,ca6,ca7⟩:=cl8 Ra.out;obtain⟨cb0,cb1,cb2,cb3,cb4,cb5,cb6,cb7⟩:=cl8 Rb.out;clear M)|(go_at_call 14;refine (CQ3.out w5 A' n' c' HI.out HN.out.1 HN.out.2).mono ?_;rintro e w6 ⟨A13,n13,c13,A23,m23,c23,rfl,hm9,hn9,hc9,hI9,hl9,hb⟩;replace hm9:m23=0:=hm9;subst hm9;clear ca0 ca1 ca2 ca3 ca4 ca5 ca6 ca7 cb0 cb1 cb2 cb3 cb4 cb5 cb6 cb7;replace Ra:=gg Ra hb;replace Rb:=gg Rb hb;replace HI:=hid (HI.out.go hb);replace B:=gb B hb;clear hI9 hn9 hc9 hl9;obtain⟨ca0,ca1,ca2,ca3,ca4,ca5,ca6,ca7⟩:=cl8 Ra.out;obtain⟨cb0,cb1,cb2,cb3,cb4,cb5,cb6,cb7⟩:=cl8 Rb.out;clear hb)|(refine new_row rfl 38 (.tmp 14) (.tmp 60) rfl rfl #[.string ⟨#[]⟩,.int .u32 0,.int .u8 0,.int .u16 0,.int .u32 0,.int .u32 0,.string ⟨#[]⟩,.slice A23 0 c23] rfl rfl (by kernel_rfl) rfl (row8 _ _ _ _ _ _ _ _ _ _) ?_;intro w7 M;clear ca0 ca1 ca2 ca3 ca4 ca5 ca6 ca7 cb0 cb1 cb2 cb3 cb4 cb5 cb6 cb7;replace Ra:=gg Ra M.2.1;replace Rb:=gg Rb M.2.1;replace HI:=hid (HI.out.go M.2.1);replace B:=gb B M.2.1;have Rc:=hid M.1;obtain⟨ca0,ca1,ca2,ca3,ca4,ca5,ca6,ca7⟩:=cl8 Ra.out;obtain⟨cb0,cb1,cb2,cb3,cb4,cb5,cb6,cb7⟩:=cl8 Rb.out;obtain⟨cc0,cc1,cc2,cc3,cc4,cc5,cc6,cc7⟩:=cl8 Rc.out;clear M)|(go_at_call 14;refine (CQ4.out w7 A' n' c' HI.out HN.out.1 HN.out.2).mono ?_;rintro e w8 ⟨A14,n14,c14,A24,m24,c24,rfl,hm9,hn9,hc9,hI9,hl9,hb⟩;replace hm9:m24=1:=hm9;subst hm9;have HL9:=hid hl9;clear ca0 ca1 ca2 ca3 ca4 ca5 ca6 ca7 cb0 cb1 cb2 cb3 cb4 cb5 cb6 cb7 cc0 cc1 cc2 cc3 cc4 cc5 cc6 cc7;replace Ra:=gg Ra hb;replace Rb:=gg Rb hb;replace Rc:=gg Rc hb;replace HI:=hid (HI.out.go hb);replace B:=gb B hb;clear hI9 hn9 hc9 hl9;obtain⟨ca0,ca1,ca2,ca3,ca4,ca5,ca6,ca7⟩:=cl8 Ra.out;obtain⟨cb0,cb1,cb2,cb3,cb4,cb5,cb6,cb7⟩:=cl8 Rb.out;obtain⟨cc0,cc1,cc2,cc3,cc4,cc5,cc6,cc7⟩:=cl8 Rc.out;clear hb)|(refine new_row rfl 38 (.tmp 17) (.tmp 67) rfl rfl #[.string ⟨#[]⟩,.int .u32 0,.int .u8 0,.int .u16 0,.int .u32 0,.int .u32 0,.string ⟨#[]⟩,.slice A24 1 c24] rfl rfl (by kernel_rfl) rfl (row8 _ _ _ _ _ _ _ _ _ _) ?_;intro w9 M;clear ca0 ca1 ca2 ca3 ca4 ca5 ca6 ca7 cb0 cb1 cb2 cb3 cb4 cb5 cb6 cb7 cc0 cc1 cc2 cc3 cc4 cc5 cc6 cc7;replace Ra:=gg Ra M.2.1;replace Rb:=gg Rb M.2.1;replace Rc:=gg Rc M.2.1;replace HI:=hid (HI.out.go M.2.1);obtain⟨eb,eo,he9,hlt9,hr9⟩:=HL9.out 0 ⟨⟨#[99]⟩,2,1⟩ rfl;have e90:=hr9 0 _ rfl;have e91:World.cell? _ ⟨eb,eo,none⟩=some (Value.string ⟨#[99]⟩):=(World.cell?_of_block (a:=⟨eb,eo,none⟩) (M.2.1.block eb hlt9)).trans (by have e92:=e90;simp only [Nat.zero_mul,Nat.add_zero] at e92;exact e92);clear hr9 e90;subst he9;replace B:=gb B M.2.1;have Rd:=hid M.1;obtain⟨ca0,ca1,ca2,ca3,ca4,ca5,ca6,ca7⟩:=cl8 Ra.out;obtain⟨cb0,cb1,cb2,cb3,cb4,cb5,cb6,cb7⟩:=cl8 Rb.out;obtain⟨cc0,cc1,cc2,cc3,cc4,cc5,cc6,cc7⟩:=cl8 Rc.out;obtain⟨cd0,cd1,cd2,cd3,cd4,cd5,cd6,cd7⟩:=cl8 Rd.out;clear M))
   go_ret
   exact⟨rfl,B.out⟩
end Go.Proofs.YtopepebcnaikiaaGreatDoor.Fi
namespace Go.Proofs.YtopepebcnaikiaaGreatDoor.Fi
open Lib (hid)
open Ino
open It (Itm Ch get und app dif rt rc key ckey UpK get_iff rt_iff rt_up don donL donL_true lt mem_app mem_don up_app itm get_don app_cons app_nil)
open Di
open Ph (nb spX spB laX laD laN)
variable {L M:List Itm}{p q v:ByteArray}
theorem don_len (c:Ch):∀ (D:List Itm) (put:Bool),(donL c put D).length≤D.length+1
 | [],put=>by cases put<;>simp [donL]
 | x::r,true=>by
  rw [donL_true];exact Nat.le_trans (List.length_filter_le _ _) (by simp)
 | x::r,false=>by
  rw [donL];have h2:(if key x=ckey c then [] else [x]).length≤1:=by split<;>simp
  by_cases h:lt (key x) (ckey c)=true
  ·rw [h];have:=don_len c r false;simp only [Bool.not_true,Bool.and_false,Bool.false_eq_true,if_false,List.nil_append,List.length_append,Bool.or_false,List.length_cons];omega
  ·have h:lt (key x) (ckey c)=false:=by simpa using h
   rw [h,show (false||!false)=true from rfl,donL_true];have h1:=List.length_filter_le (fun x=>decide (key x≠ckey c)) r;simp only [Bool.not_false,Bool.and_true,if_true,List.length_append,List.length_cons,List.length_nil];omega
theorem app_len:∀ (C:List Ch) (D:List Itm),(app D C).length≤D.length+C.length
 | [],D=>by simp [app]
 | c::C,D=>by
  rw [app_cons];have h1:=app_len C (don c D);have h2:(don c D).length≤D.length+1:=don_len c D _;simp only [List.length_cons];omega
theorem aft_tl {o:Op}(ht:tells o):aft L o=L:=by
 by_cases h:dX L o=0
 ·exact aft_td (dX_rgt h) ht
 ·exact aft_no h
theorem ld_some (h:rgt L=true){fo:Bool}(h0:ldX L p fo=0):∃ n,(vo (pts L)).ino (ldI L p fo)=some n∧(fo=true→n.K≠3):=by
 unfold ldI;rw [if_pos h0];unfold ldX at h0;split at h0
 ·exact wlk_some h h0
 ·exact absurd h0 (by assumption)
theorem at_some (h:rgt L=true){o:Op}(h0:atX L o=0):∃ n,(vo (pts L)).ino (ldI L o.P true)=some n∧nb o.T=true∧atK L o=wrK ⟨4,ldI L o.P true,o.T,0⟩:=by
 unfold atX at h0;by_cases h1:ldX L o.P true=0
 ·rw [if_neg (by rw [h1];decide)] at h0;obtain⟨n,hn,_⟩:=ld_some h h1;by_cases h2:nb o.T=true
  ·rw [if_neg (by rw [h2];decide)] at h0;cases h3:okK ⟨4,ldI L o.P true,o.T,0⟩ with
   | false=>rw [(chK_no h3).1] at h0;cases h0
   | true =>
    refine⟨n,hn,h2,?_⟩;unfold atK;rw [if_pos ⟨h1,h2⟩,(chK_yes h3).2]
  ·have h2:nb o.T=false:=by simpa using h2
   rw [if_pos h2] at h0;cases h0
 ·rw [if_pos h1] at h0;exact absurd h0 h1
def oD (p q:ByteArray):Op:=⟨16,p,q,0,0,0,⟨#[]⟩⟩
theorem get_1 (h:rgt L=true) (k k':ByteArray) (b:Bool) (v:ByteArray):get (app L [⟨k,b,v⟩]) k'=if k=k' then (if b then some v else none) else get L k':=by
 rw [app_cons,app_nil,get_don (rgt_up h)];have:(ckey (⟨k,b,v⟩:Ch)=k'.data.toList)↔k=k':=⟨fun e=>ByteArray.ext (Array.toList_inj.1 e),fun e=>by rw [e];rfl⟩;simp only [this]
variable {L M:List Itm}{p:ByteArray}{a:Nat}
def oT (p:ByteArray):Op:=⟨11,p,⟨#[]⟩,0,0,0,⟨#[]⟩⟩
def oM (p:ByteArray) (a:Nat):Op:=⟨13,p,⟨#[]⟩,a,0,0,⟨#[]⟩⟩
theorem nd_some (h:rgt L=true){i:Nat}{n:In}(hn:(vo (pts L)).ino i=some n):nd L i=n:=by
 have:=ino_num h hn;rw [nd_ino h this.1 this.2.1,hn];rfl
end Go.Proofs.YtopepebcnaikiaaGreatDoor.Fi
namespace Go.Proofs.YtopepebcnaikiaaGreatDoor.Fi
open Lib (hid)
open Ino
open It (Itm Ch get und app dif rt rc key ckey UpK get_iff rt_iff rt_up don mem_app mem_don up_app itm get_don app_cons app_nil okC okKey)
open Di
open Ph (nb spX spB laX laD laN la_ok la_err la_none)
variable {L M:List Itm}{s s':Vo}{C:List Ch}{p:ByteArray}
theorem okC_gone {q:Ky}(h:okK q=true):okC ⟨wrK q,false,ByteArray.empty⟩=true:=by
 have:=rc_one h false ByteArray.empty (by decide) (fun _=>rfl);unfold rc at this;rw [List.all_cons,List.all_nil,Bool.and_true] at this;exact this
theorem gone_mem (h:rgt L=true){i:Nat}(hi1:1≤i) (hi2:i<4294967296){k0:Ky}(hk:okK k0=true) (hC:C=gn L i++[⟨wrK k0,false,ByteArray.empty⟩]):(∀ x,x∈app L C↔x∈L∧(deK x.k).I≠i∧x.k≠wrK k0)∧rc C=true:=by
 have hgn:∀ c,c∈C↔(∃ x∈L,(deK x.k).I=i∧c=It.gone x)∨c=⟨wrK k0,false,ByteArray.empty⟩:=fun c=>by
  rw [hC,List.mem_append,mem_gn h hi1 hi2,List.mem_singleton]
 have hrc:rc C=true:=by
  unfold rc;rw [List.all_eq_true];intro c hc;rcases (hgn c).1 hc with ⟨x,hx,_,rfl⟩ | rfl
  ·have:=okC_gone (key_of h hx).1;rw [(key_of h hx).2.1] at this;exact this
  ·exact okC_gone hk
 have hno:∀ c∈C,c.h=false:=fun c hc=>by
  rcases (hgn c).1 hc with ⟨x,hx,_,rfl⟩ | rfl<;>rfl
 have hmem:∀ x,x∈app L C↔x∈L∧(deK x.k).I≠i∧x.k≠wrK k0:=by
  intro x;rw [app_gone hno];constructor
  ·rintro ⟨hx,hc⟩;refine⟨hx,fun e=>?_,fun e=>?_⟩
   ·exact hc (It.gone x) ((hgn _).2 (.inl ⟨x,hx,e,rfl⟩)) rfl
   ·exact hc ⟨wrK k0,false,ByteArray.empty⟩ ((hgn _).2 (.inr rfl)) (by show (wrK k0).data.toList=x.k.data.toList;rw [e])
  ·rintro ⟨hx,h3,h4⟩;refine⟨hx,fun c hc e=>?_⟩;have e2:c.k=x.k:=ByteArray.ext (Array.toList_inj.1 e);rcases (hgn c).1 hc with ⟨y,hy,h5,rfl⟩ | rfl
   ·have e3:y.k=x.k:=e2;rw [e3] at h5;exact h3 h5
   ·exact h4 e2.symm
 exact⟨hmem,hrc⟩
theorem rm_right1 (h:rgt L=true) (hlen:L.length<4294967296){i:Nat}{n:In}(hn:(vo (pts L)).ino i=some n) (hL1:n.L=1){k0:Ky}(hk:okK k0=true) (lk:k0.lim) (h2:k0.K=2) (he:(vo (pts L)).ent k0=some i) (hb:∀ x∈L,(deK x.k).K=2→(deK x.k).I≠i)
  (hC:C=gn L i++[⟨wrK k0,false,ByteArray.empty⟩]):rgt (app L C)=true∧(vo (pts (app L C))).ino i=none∧rc C=true∧(app L C).length≤L.length∧(∀ j,j≠i→(vo (pts (app L C))).ino j=(vo (pts L)).ino j)∧(∀ j,j≠i→(vo (pts (app L C))).abv j=(vo (pts L)).abv j)∧(∀ x,x∈app L C↔x∈L∧(deK x.k).I≠i∧x.k≠wrK k0):=by
 have hr:=rgt_iff.1 h;obtain⟨hi1,hi2,hi3,_⟩:=ino_num h hn;obtain⟨v0,hv0,hnum⟩:∃ v,get L (wrK k0)=some v∧numOf v=i:=by
  have:=ent_get hr.rt hr.ok hk lk h2;rw [he] at this;cases hg:get L (wrK k0) with
  | none=>rw [hg] at this;cases this
  | some v=>rw [hg] at this;exact⟨v,rfl,(Option.some.inj this).symm⟩
 have hx0:=(get_some hr.rt).1 hv0;have hd0:deK (wrK k0)=k0:=(deK_back lk hk).1;have hi0:2≤i:=by
  have:=(key_of h hx0).2.2.2;unfold okP ptOf at this;dsimp only at this;rw [hd0,if_neg (by omega),if_pos h2] at this;simp only [Bool.and_eq_true,decide_eq_true_eq] at this;omega
 obtain⟨hmem,hrc⟩:=gone_mem h hi1 hi2 hk hC;clear hC;have hrt:=It.rt_app hr.rt hrc;generalize app L C=M at *;have hfil:M=L.filter (fun x=>decide ((deK x.k).I≠i)&&decide (x.k≠wrK k0)) :=
  It.up_ext (rt_up hrt).1 (UpK.sub (rt_up hr.rt).1 List.filter_sublist) fun x=>by
   rw [hmem,List.mem_filter,Bool.and_eq_true,decide_eq_true_iff,decide_eq_true_iff]
 have hdrop:∀ x∈L,¬ ((deK x.k).I≠i∧x.k≠wrK k0)→(deK x.k).K=2→numOf x.v=i:=by
  intro x hx hnot hx2;have h3:=hb x hx hx2;have h4:x.k=wrK k0:=Decidable.byContradiction fun e=>hnot ⟨h3,e⟩
  have h5:=ent_item h hx hx2;rw [h4,hd0,he] at h5;exact (Option.some.inj h5).symm
 have hsame:∀ j,j≠i→(vo (pts M)).nmd j=(vo (pts L)).nmd j∧(vo (pts M)).abv j=(vo (pts L)).abv j:=by
  intro j hj;rw [hfil];refine fil_same _ j L fun x hx hf hx2 e=>?_
  refine hj (e.symm.trans (hdrop x hx (fun hh=>?_) hx2));rw [decide_eq_true hh.1,decide_eq_true hh.2] at hf;cases hf
 have hokM:∀ x∈M,okX x=true:=fun x hx=>hr.ok x ((hmem x).1 hx).1
 have hnone:(vo (pts M)).ino i=none:=by
  cases e:(vo (pts M)).ino i with
  | none=>rfl
  | some m =>
   obtain⟨p,hp,_,hpi,_⟩:=ino_of _ e;obtain⟨x,hx,rfl⟩:=pts_mem hp;exact absurd hpi ((hmem x).1 hx).2.1
 have hino:∀ j,j≠i→(vo (pts M)).ino j=(vo (pts L)).ino j:=by
  intro j hj;rw [ino_all hrt hokM,ino_all hr.rt hr.ok];by_cases hj1:1≤j∧j<4294967296
  ·rw [if_pos hj1,if_pos hj1,get_same hr.rt hrt];intro v;rw [hmem];have e1:deK (Fi.kI j)=Di.kI j:=by rw [kI_wr hj1.1];exact (deK_back (kI_lim hj1.2) (kI_ok hj1.1)).1
   refine⟨fun h=>h.1,fun hx=>⟨hx,?_,?_⟩⟩
   ·show (deK (Fi.kI j)).I≠i
    rw [e1];exact hj
   ·intro e;have e':Fi.kI j=wrK k0:=e;rw [e',hd0] at e1;rw [e1] at h2;exact absurd (show (1:Nat)=2 from h2) (by decide)
  ·rw [if_neg hj1,if_neg hj1]
 have hent:∀ x∈M,(deK x.k).K=2→(vo (pts M)).ent (deK x.k)=(vo (pts L)).ent (deK x.k):=by
  intro x hx hx2;obtain⟨a,b,c,_⟩:=key_of h ((hmem x).1 hx).1;rw [ent_get hrt hokM a c hx2,ent_get hr.rt hr.ok a c hx2,b,get_same hr.rt hrt];intro v;rw [hmem];exact⟨fun h=>h.1,fun hy=>⟨hy,((hmem x).1 hx).2⟩⟩
 have hst:(vo (pts L)).nmd i=1:=by
  obtain⟨p,hp,hp1,hpi,hpn⟩:=ino_of _ hn;have:=stray_1 (hr.str p hp) hp1 (by rw [hpi];exact hn);rw [hpi] at this;rcases this with h4 | h4
  ·omega
  ·rw [h4];exact hL1
 have hname:∀ x∈M,(deK x.k).K=2→numOf x.v≠i:=by
  intro x hx hx2 e;obtain⟨hxL,hxi,hxk⟩:=(hmem x).1 hx;rw [nmd_cnt] at hst;have hle:=List.countP_le_length (p:=fun x:Itm=>decide ((deK x.k).K=2)&&decide (numOf x.v=i)) (l:=L);have hsp:=List.countP_eq_countP_filter_add L (fun x:Itm=>decide ((deK x.k).K=2)&&decide (numOf x.v=i)) (fun y=>decide (y.k≠wrK k0));have h5:0<(L.filter fun y=>decide (y.k≠wrK k0)).countP (fun x:Itm=>decide ((deK x.k).K=2)&&decide (numOf x.v=i)) :=
   List.countP_pos_iff.2 ⟨x,List.mem_filter.2 ⟨hxL,decide_eq_true hxk⟩,by rw [decide_eq_true hx2,decide_eq_true e];rfl⟩
  have h6:0<(L.filter fun y=>!decide (y.k≠wrK k0)).countP (fun x:Itm=>decide ((deK x.k).K=2)&&decide (numOf x.v=i)) :=
   List.countP_pos_iff.2 ⟨⟨wrK k0,v0⟩,List.mem_filter.2 ⟨hx0,by simp⟩,by dsimp only;rw [hd0,decide_eq_true h2,decide_eq_true hnum];rfl⟩
  omega
 have hstr:∀ x∈M,stray (vo (pts M)) (ptOf x)=false:=by
  intro x hx;obtain⟨hxL,hxi,hxk⟩:=(hmem x).1 hx;have h4:stray (vo (pts M)) (ptOf x)=stray (vo (pts L)) (ptOf x):=by
   unfold stray;rw [hino (ptOf x).k.I hxi];cases (vo (pts L)).ino (ptOf x).k.I with
   | none=>rfl
   | some m =>
    dsimp only;by_cases a1:(ptOf x).k.K=1
    ·rw [if_pos a1,if_pos a1,(hsame (ptOf x).k.I hxi).1]
    ·rw [if_neg a1,if_neg a1];by_cases a2:(ptOf x).k.K=2
     ·have a3:(vo (pts L)).ent (ptOf x).k=some (numOf x.v):=ent_item h hxL a2;have a4:(vo (pts M)).ent (ptOf x).k=some (numOf x.v):=(hent x hx a2).trans a3;rw [if_pos a2,if_pos a2,a3,a4,Option.getD_some,hino _ (hname x hx a2)]
     ·rw [if_neg a2,if_neg a2]
  rw [h4];exact hr.str (ptOf x) (List.mem_map.2 ⟨x,hxL,rfl⟩)
 have hups:AllUp (vo (pts M)):=by
  intro j m hj hm;have hji:j≠i:=fun e=>by rw [e,hnone] at hj;cases hj
  rw [hino j hji] at hj;obtain⟨k,hk2⟩:=hr.ups j m hj hm;have key:∀ k j,j≠i→up (vo (pts L)) k j=1→up (vo (pts M)) k j=1:=by
   intro k;induction k with
   | zero=>intro j _ e;exact e
   | succ k ih =>
    intro j hji e;show up _ k ((vo (pts M)).abv j)=1
    rw [(hsame j hji).2];refine ih _ (fun e2=>?_) e;obtain⟨p,hp,q1,_,q3⟩:=abv_of (pts L) (i:=j) (by rw [e2];omega);obtain⟨x,hx,rfl⟩:=pts_mem hp;exact hb x hx q1 (q3.symm.trans e2)
  exact⟨k,key k j hji hk2⟩
 refine⟨rgt_iff.2 ⟨hrt,hokM,?_,fun p hp=>?_,hups⟩,hnone,hrc,?_,hino,fun j hj=>(hsame j hj).2,hmem⟩
 ·unfold kind;rw [hino 1 (by omega)];exact hr.root
 ·obtain⟨x,hx,rfl⟩:=pts_mem hp;exact hstr x hx
 ·rw [hfil];exact List.length_filter_le _ _
theorem la_all (h0:laX p=0):spX p=0∧laD p++[laN p]=spB p∧nb (laN p)=true:=by
 have h1:spX p=0:=by
  by_cases h:spX p=0
  ·exact h
  ·rw [(la_err h).1] at h0;exact h0
 have h2:spB p≠[]:=fun e=>by rw [(la_none h1 e).1] at h0;cases h0
 obtain⟨_,e2,e3⟩:=la_ok h1 h2;have hl:0<(spB p).length:=by cases hh:spB p with | nil=>exact absurd hh h2 | cons a l=>simp
 obtain⟨h4,h5⟩:=List.getElem?_eq_some_iff.1 e3;have e1:laD p++[laN p]=spB p:=by
  rw [e2,← h5,← List.take_succ_eq_append_getElem h4,List.take_of_length_le (by omega)]
 refine⟨h1,e1,?_⟩;have hall:(spB p).all nb=true:=by
  unfold spB;rw [Ph.map_all];exact (Ph.sp_ok h1).2.1
 rw [← e1,List.all_append,Bool.and_eq_true] at hall;simpa using hall.2
variable {L M:List Itm}{p:ByteArray}
theorem busy_iff (h:rgt L=true){i:Nat}(hi:1≤i) (hi2:i<4294967296):busy L i=true↔∃ x∈L,(deK x.k).K=2∧(deK x.k).I=i:=by
 unfold busy;rw [Bool.not_eq_true',List.isEmpty_eq_false_iff_exists_mem];constructor
 ·rintro ⟨x,hx⟩;exact⟨x,(mem_und h (by decide) (by decide) hi hi2).1 hx⟩
 ·rintro ⟨x,hx⟩;exact⟨x,(mem_und h (by decide) (by decide) hi hi2).2 hx⟩
open Pk (nB)
variable {L M:List Itm}{s s':Vo}{C:List Ch}{p:ByteArray}
theorem nx_ex (hlen:L.length<4294967290):∃ j,Nx (vo (pts L)) j:=by
 have h1:∃ j,2≤j∧j≤L.length+2∧(vo (pts L)).ino j=none:=by
  refine Classical.byContradiction fun hno=>?_
  have hall:∀ j,2≤j→j≤L.length+2→j∈L.map fun x=>(deK x.k).I:=fun j h2 h3=>by
   cases e:(vo (pts L)).ino j with
   | none=>exact absurd ⟨j,h2,h3,e⟩ hno
   | some m =>
    obtain⟨q,hq,_,hi,_⟩:=ino_of _ e;obtain⟨x,hx,rfl⟩:=pts_mem hq;exact List.mem_map.2 ⟨x,hx,hi⟩
  have:=Mq.nodup_sub ((List.range (L.length+1)).map (·+2)) (L.map fun x=>(deK x.k).I) (List.Pairwise.map _ (fun a b h=>by omega) List.nodup_range) fun j hj=>by
   obtain⟨k,hk,rfl⟩:=List.mem_map.1 hj;have:=List.mem_range.1 hk;exact hall _ (by omega) (by omega)
  rw [List.length_map,List.length_map,List.length_range] at this;omega
 obtain⟨j,h2,h3,h4⟩:=h1;have key:∀ n j,j≤n→2≤j→j≤L.length+2→(vo (pts L)).ino j=none→∃ j,Nx (vo (pts L)) j:=by
  intro n;induction n with
  | zero=>intro j h1 h2;omega
  | succ n ih =>
   intro j hj h2 h3 h4;by_cases hx:∃ k,2≤k∧k<j∧(vo (pts L)).ino k=none
   ·obtain⟨k,k1,k2,k3⟩:=hx;exact ih k (by omega) k1 (by omega) k3
   ·refine⟨j,h2,by omega,h4,fun k k1 k2=>?_⟩;cases e:(vo (pts L)).ino k with
    | none=>exact absurd ⟨k,k1,k2,e⟩ hx
    | some m=>rfl
 exact key j j (Nat.le_refl _) h2 h3 h4
theorem nB4 {i:Nat}(hi:i<4294967296):numOf (Pk.nB i 4)=i∧Pk.tE (Pk.nB i 4) 4=0∧Pk.tR (Pk.nB i 4) 4=ByteArray.empty∧(Pk.nB i 4).size=4:=by
 have h:Pk.numOk i 4=true:=numOk_of (n:=i) (k:=4) (by decide) (by decide) (by rw [show (256 ^ 4:Nat)=4294967296 by decide];exact hi);have e1:=Pk.tN_back h ByteArray.empty;have e2:=Pk.tE_back h ByteArray.empty;have e3:=Pk.tR_back h ByteArray.empty;have e4:=Pk.nB_size h;rw [ByteArray.append_empty] at e1 e2 e3;refine⟨?_,e2,e3,by omega⟩;unfold numOf;rw [e1];rfl
theorem filter_one {P:Itm→Bool}{b:Itm}(hu:UpK key M) (hb:b∈M) (hP:P b=true) (h1:∀ a∈M,P a=true→a=b):M.countP P=1:=by
 have e:M.filter P=[b]:=It.up_ext (UpK.sub hu List.filter_sublist) (List.pairwise_singleton _ _) fun x=>by
  rw [List.mem_filter,List.mem_singleton];exact⟨fun h=>h1 x h.1 h.2,fun h=>by rw [h];exact⟨hb,hP⟩⟩
 rw [List.countP_eq_length_filter,e];rfl
theorem mk_right (h:rgt L=true){i:Nat}{n m:In}(hi2:2≤i) (hi:i<4294967296) (hn:(vo (pts L)).ino i=none) (ho:okI n=true) (hl:n.lim) (h1:n.L=1){k0:Ky}(hk:okK k0=true) (lk:k0.lim) (h2:k0.K=2) (he:(vo (pts L)).ent k0=none) (hd:(vo (pts L)).ino k0.I=some m) (hm:m.K=1)
  (hC:C=[kept n i,⟨wrK k0,true,nB i 4⟩]):rgt (app L C)=true∧rc C=true∧(vo (pts (app L C))).ino i=some n∧(vo (pts (app L C))).ent k0=some i∧(∀ j,j≠i→(vo (pts (app L C))).ino j=(vo (pts L)).ino j)∧(∀ k,k≠k0→(vo (pts (app L C))).ent k=(vo (pts L)).ent k) ∧
  (∀ x,x∈app L C↔x∈L∨x=⟨Fi.kI i,enI n⟩∨x=⟨wrK k0,nB i 4⟩)∧(∀ x∈L,(deK x.k).I≠i∧x.k≠wrK k0):=by
 have hr:=rgt_iff.1 h;have hd0:deK (wrK k0)=k0:=(deK_back lk hk).1;have hi1:1≤i:=by omega
 have hkI:deK (Fi.kI i)=Di.kI i:=by rw [kI_wr hi1];exact (deK_back (kI_lim hi) (kI_ok hi1)).1
 obtain⟨hnum,hnE,hnR,hnS⟩:=nB4 hi
 -- what is new is new
 have hnew:∀ x∈L,(deK x.k).I≠i∧x.k≠wrK k0:=fun x hx=>by
  constructor
  ·intro e;have:=hr.str (ptOf x) (List.mem_map.2 ⟨x,hx,rfl⟩);unfold stray at this;rw [show (ptOf x).k.I=i from e,hn] at this;cases this
  ·intro e;have:=ent_item h hx (by rw [e,hd0];exact h2);rw [e,hd0,he] at this;cases this
 have hnot:∀ x∈L,(deK x.k).K=2→numOf x.v≠i:=fun x hx hx2 e=>by
  have h3:=ent_item h hx hx2;have h4:=ent_ino h _ _ h3;rw [e,hn] at h4;cases h4
 have hsz:(enI n).size≤160:=by
  rw [(chI_yes ho).2,wrI_size _ (by have:=(okI_size ho).1;omega)];have:=(okI_size ho).1;omega
 have hrc:rc C=true:=by
  have e1:=rc_one (kI_ok hi1) true (enI n) hsz (fun h=>by cases h);have e2:=rc_one hk true (nB i 4) (by omega) (fun h=>by cases h);rw [hC];unfold rc kept at *;rw [List.all_cons,List.all_nil,Bool.and_true] at e1 e2;rw [List.all_cons,List.all_cons,List.all_nil,Bool.and_true,Bool.and_eq_true];exact⟨by rw [kI_wr hi1];exact e1,e2⟩
 have hne:Fi.kI i≠wrK k0:=fun e=>by
  rw [e,hd0] at hkI;rw [hkI] at h2;exact absurd (show (1:Nat)=2 from h2) (by decide)
 have hget:∀ k',get (app L C) k'=if wrK k0=k' then some (nB i 4) else if Fi.kI i=k' then some (enI n) else get L k':=fun k'=>by
  have e:app L C=app (app L [⟨Fi.kI i,true,enI n⟩]) [⟨wrK k0,true,nB i 4⟩]:=by rw [hC];rfl
  have hu:UpK key (app L [⟨Fi.kI i,true,enI n⟩]):=up_app _ (rgt_up h);rw [e,app_cons,app_nil,get_don hu];have e3:(ckey (⟨wrK k0,true,nB i 4⟩:Ch)=k'.data.toList)↔wrK k0=k':=⟨fun e=>ByteArray.ext (Array.toList_inj.1 e),fun e=>by rw [e];rfl⟩;simp only [e3,get_1 h];rfl
 have hrt:=It.rt_app hr.rt hrc;clear hC;have hmem:∀ x,x∈app L C↔x∈L∨x=⟨Fi.kI i,enI n⟩∨x=⟨wrK k0,nB i 4⟩:=by
  intro x;obtain⟨a,b⟩:=x;rw [← get_some hrt,hget];by_cases e1:wrK k0=a
  ·subst e1;rw [if_pos rfl];constructor
   ·intro e;cases e;exact .inr (.inr rfl)
   ·rintro (e | e | e)
    ·exact absurd rfl (hnew _ e).2
    ·exact absurd (congrArg Itm.k e).symm hne
    ·cases e;rfl
  ·rw [if_neg e1];by_cases e2:Fi.kI i=a
   ·subst e2;rw [if_pos rfl];constructor
    ·intro e;cases e;exact .inr (.inl rfl)
    ·rintro (e | e | e)
     ·exact absurd (show (deK (Fi.kI i)).I=i by rw [hkI];rfl) (hnew _ e).1
     ·cases e;rfl
     ·exact absurd (congrArg Itm.k e).symm e1
   ·rw [if_neg e2,get_some hr.rt];constructor
    ·exact .inl
    ·rintro (e | e | e)
     ·exact e
     ·exact absurd (congrArg Itm.k e).symm e2
     ·exact absurd (congrArg Itm.k e).symm e1
 generalize app L C=M at *;have hokM:∀ x∈M,okX x=true:=fun x hx=>by
  rcases (hmem x).1 hx with h3 | rfl | rfl
  ·exact hr.ok x h3
  ·unfold okX;dsimp only;rw [kI_wr hi1,(deK_back (kI_lim hi) (kI_ok hi1)).2];unfold okP ptOf;dsimp only;rw [← kI_wr hi1,hkI,if_pos (show (Di.kI i).K=1 from rfl),(chI_yes ho).2,(deI_back hl ho).2];rfl
  ·unfold okX;dsimp only;rw [(deK_back lk hk).2];unfold okP ptOf;dsimp only;rw [hd0,if_neg (by omega),if_pos h2,hnum,hnE,hnR,decide_eq_true hi2];rfl
 have hx1:(⟨Fi.kI i,enI n⟩:Itm)∈M:=(hmem _).2 (.inr (.inl rfl));have hx2:(⟨wrK k0,nB i 4⟩:Itm)∈M:=(hmem _).2 (.inr (.inr rfl));have hinoi:(vo (pts M)).ino i=some n:=by
  rw [ino_all hrt hokM,if_pos ⟨hi1,hi⟩,(get_some hrt).2 hx1,Option.map_some,(chI_yes ho).2,(deI_back hl ho).1]
 have hino:∀ j,j≠i→(vo (pts M)).ino j=(vo (pts L)).ino j:=by
  intro j hj;rw [ino_all hrt hokM,ino_all hr.rt hr.ok];by_cases hj1:1≤j∧j<4294967296
  ·have e1:deK (Fi.kI j)=Di.kI j:=by rw [kI_wr hj1.1];exact (deK_back (kI_lim hj1.2) (kI_ok hj1.1)).1
   rw [if_pos hj1,if_pos hj1,hget,if_neg,if_neg]
   ·intro e;rw [e,e1] at hkI;exact hj (congrArg Ky.I hkI)
   ·intro e;rw [← e,hd0] at e1;rw [e1] at h2;exact absurd (show (1:Nat)=2 from h2) (by decide)
  ·rw [if_neg hj1,if_neg hj1]
 have henk:(vo (pts M)).ent k0=some i:=by
  rw [ent_get hrt hokM hk lk h2,(get_some hrt).2 hx2,Option.map_some,hnum]
 have hent:∀ k,k≠k0→(vo (pts M)).ent k=(vo (pts L)).ent k:=by
  intro k hkk;have sub:∀ j,(vo (pts L)).ent k=some j→(vo (pts M)).ent k=some j:=fun j e=>by
   obtain⟨q,hq,q2,q3,q4⟩:=ent_of _ e;obtain⟨x,hx,rfl⟩:=pts_mem hq;have hxM:=(hmem x).2 (.inl hx);obtain⟨a,b,c,_⟩:=key_of h hx;have q3':deK x.k=k:=q3;rw [← q3',ent_get hrt hokM a c q2,b,(get_some hrt).2 (show (⟨x.k,x.v⟩:Itm)∈M from hxM),q4];rfl
  cases e:(vo (pts L)).ent k with
  | some j=>exact sub j e
  | none =>
   cases e2:(vo (pts M)).ent k with
   | none=>rfl
   | some j =>
    obtain⟨q,hq,q2,q3,q4⟩:=ent_of _ e2;obtain⟨x,hx,rfl⟩:=pts_mem hq;have q3':deK x.k=k:=q3;have q2':(deK x.k).K=2:=q2;rcases (hmem x).1 hx with h3 | rfl | rfl
    ·have:=ent_item h h3 q2';rw [q3',e] at this;cases this
    ·dsimp only at q2';rw [hkI] at q2';exact absurd (show (1:Nat)=2 from q2') (by decide)
    ·dsimp only at q3';rw [hd0] at q3';exact absurd q3'.symm hkk
 have hfil:L=M.filter (fun x=>decide (x.k≠Fi.kI i)&&decide (x.k≠wrK k0)) :=
  It.up_ext (rgt_up h) (UpK.sub (rt_up hrt).1 List.filter_sublist) fun x=>by
   rw [List.mem_filter,Bool.and_eq_true,decide_eq_true_iff,decide_eq_true_iff,hmem];constructor
   ·intro hx;exact⟨.inl hx,fun e=>(hnew x hx).1 (by rw [e,hkI];rfl),(hnew x hx).2⟩
   ·rintro ⟨e | rfl | rfl,e2,e3⟩
    ·exact e
    ·exact absurd rfl e2
    ·exact absurd rfl e3
 have hdrop:∀ x∈M,(decide (x.k≠Fi.kI i)&&decide (x.k≠wrK k0))=false→(deK x.k).K=2→numOf x.v=i:=fun x hx hf hx2=>by
  rcases (hmem x).1 hx with h3 | rfl | rfl
  ·have e1:decide (x.k≠Fi.kI i)=true:=decide_eq_true fun e=>(hnew x h3).1 (by rw [e,hkI];rfl)
   have e2:decide (x.k≠wrK k0)=true:=decide_eq_true (hnew x h3).2;rw [e1,e2] at hf;cases hf
  ·dsimp only at hx2;rw [hkI] at hx2;exact absurd (show (1:Nat)=2 from hx2) (by decide)
  ·exact hnum
 have hsame:∀ j,j≠i→(vo (pts M)).nmd j=(vo (pts L)).nmd j∧(vo (pts M)).abv j=(vo (pts L)).abv j:=by
  intro j hj;have:=fil_same (fun x=>decide (x.k≠Fi.kI i)&&decide (x.k≠wrK k0)) j M fun x hx hf hx2 e=>hj (e.symm.trans (hdrop x hx hf hx2))
  rw [← hfil] at this;exact⟨this.1.symm,this.2.symm⟩
 have hst:(vo (pts M)).nmd i=1:=by
  rw [nmd_cnt,filter_one (rt_up hrt).1 hx2]
  ·dsimp only;rw [hd0,decide_eq_true h2,decide_eq_true hnum];rfl
  ·intro a ha hP;rw [Bool.and_eq_true,decide_eq_true_iff,decide_eq_true_iff] at hP;rcases (hmem a).1 ha with h3 | rfl | rfl
   ·exact absurd hP.2 (hnot a h3 hP.1)
   ·have h4:=hP.1;dsimp only at h4;rw [hkI] at h4;exact absurd (show (1:Nat)=2 from h4) (by decide)
   ·rfl
 have habv:(vo (pts M)).abv i=k0.I:=by
  obtain⟨q,hq,q1,q2,q3⟩:=nmd_of (pts M) (i:=i) (by rw [hst];decide);obtain⟨x,hx,rfl⟩:=pts_mem hq;rw [q3];have q1':(deK x.k).K=2:=q1;have q2':numOf x.v=i:=q2;show (deK x.k).I=k0.I
  rcases (hmem x).1 hx with h3 | rfl | rfl
  ·exact absurd q2' (hnot x h3 q1')
  ·dsimp only at q1';rw [hkI] at q1';exact absurd (show (1:Nat)=2 from q1') (by decide)
  ·dsimp only;rw [hd0]
 have hki:k0.I≠i:=fun e=>by rw [e,hn] at hd;cases hd
 refine⟨rgt_iff.2 ⟨hrt,hokM,?_,fun q hq=>?_,?_⟩,hrc,hinoi,henk,hino,hent,hmem,hnew⟩
 ·unfold kind;rw [hino 1 (by omega)];exact hr.root
 ·obtain⟨x,hx,rfl⟩:=pts_mem hq;rcases (hmem x).1 hx with hxL | rfl | rfl
  ·have hxi:=(hnew x hxL).1;have h4:stray (vo (pts M)) (ptOf x)=stray (vo (pts L)) (ptOf x):=by
    unfold stray;rw [hino (ptOf x).k.I hxi];cases (vo (pts L)).ino (ptOf x).k.I with
    | none=>rfl
    | some m =>
     dsimp only;by_cases a1:(ptOf x).k.K=1
     ·rw [if_pos a1,if_pos a1,(hsame (ptOf x).k.I hxi).1]
     ·rw [if_neg a1,if_neg a1];by_cases a2:(ptOf x).k.K=2
      ·have a3:(vo (pts L)).ent (ptOf x).k=some (numOf x.v):=ent_item h hxL a2;have a4:(vo (pts M)).ent (ptOf x).k=some (numOf x.v):=by
        rw [hent,a3];intro e;rw [e,he] at a3;cases a3
       rw [if_pos a2,if_pos a2,a3,a4,Option.getD_some,hino _ (hnot x hxL a2)]
      ·rw [if_neg a2,if_neg a2]
   rw [h4];exact hr.str (ptOf x) (List.mem_map.2 ⟨x,hxL,rfl⟩)
  ·refine stray_of_1 (n:=n) ?_ ?_ (.inr ?_)
   ·show (deK (Fi.kI i)).K=1
    rw [hkI];rfl
   ·show (vo (pts M)).ino (deK (Fi.kI i)).I=some n
    rw [hkI];exact hinoi
   ·show (vo (pts M)).nmd (deK (Fi.kI i)).I=n.L
    rw [hkI,h1];exact hst
  ·unfold stray;have e1:(ptOf (⟨wrK k0,nB i 4⟩:Itm)).k=k0:=hd0;rw [e1,hino _ hki,hd];dsimp only;rw [if_neg (by omega),if_pos h2,henk,Option.getD_some,hinoi,hm];rfl
 ·have hupL:∀ k j,j≠i→up (vo (pts L)) k j=1→up (vo (pts M)) k j=1:=by
   intro k;induction k with
   | zero=>intro j _ e;exact e
   | succ k ih =>
    intro j hji e;show up _ k ((vo (pts M)).abv j)=1
    rw [(hsame j hji).2];refine ih _ (fun e2=>?_) e;obtain⟨q,hq,q1,_,q3⟩:=abv_of (pts L) (i:=j) (by rw [e2];omega);obtain⟨x,hx,rfl⟩:=pts_mem hq;exact (hnew x hx).1 (q3.symm.trans e2)
  intro j m' hj hm';by_cases hji:j=i
  ·obtain⟨k,hk2⟩:=hr.ups _ _ hd hm;refine⟨k+1,?_⟩;show up _ k ((vo (pts M)).abv j)=1
   rw [hji,habv];exact hupL k _ hki hk2
  ·rw [hino j hji] at hj;obtain⟨k,hk2⟩:=hr.ups j m' hj hm';exact⟨k,hupL k j hji hk2⟩
variable {L M:List Itm}{s s':Vo}{C:List Ch}{p:ByteArray}
theorem wkN_mono {fo:Bool}(hE:∀ k j,s.ent k=some j→s'.ent k=some j∧kind s' j=kind s j∧tgtOf s' j=tgtOf s j){nx nx':ByteArray→List ByteArray→Nat×Int}(h:∀ t ys,(nx t ys).2=0→nx' t ys=nx t ys):∀ (xs:List ByteArray) (a:Nat),kind s' a=kind s a→(wkN s fo nx a xs).2=0→wkN s' fo nx' a xs=wkN s fo nx a xs
 | [],a,_,_=>rfl
 | x::xs,a,ha,h0=>by
  simp only [wkN] at h0 ⊢;rw [ha];by_cases hk:kind s a≠1
  ·rw [if_pos hk] at h0;cases h0
  ·rw [if_neg hk] at h0 ⊢;cases he:s.ent ⟨2,a,x,0⟩ with
   | none=>rw [he] at h0;cases h0
   | some j =>
    obtain⟨e1,e2,e3⟩:=hE _ _ he;rw [he] at h0;rw [e1,if_neg hk];dsimp only at h0 ⊢;rw [e2,e3];split at h0
    ·rename_i h1;rw [if_pos h1,if_pos h1];exact wkN_mono hE h xs j e2 h0
    ·rename_i h1;rw [if_neg h1,if_neg h1];exact h _ _ h0
theorem wkL_mono {fo:Bool}(hE:∀ k j,s.ent k=some j→s'.ent k=some j∧kind s' j=kind s j∧tgtOf s' j=tgtOf s j) (h1:kind s' 1=kind s 1):∀ (r a:Nat) (xs:List ByteArray),kind s' a=kind s a→(wkL s fo r a xs).2=0→wkL s' fo r a xs=wkL s fo r a xs
 | 0,a,xs,ha,h0=>wkN_mono hE (fun _ _ _=>rfl) xs a ha h0
 | r+1,a,xs,ha,h0=>wkN_mono hE (fun t ys h2=>by
  split
  ·rename_i h3;rw [if_pos h3] at h2;exact wkL_mono hE h1 r 1 _ h1 h2
  ·rfl) xs a ha h0
theorem fr_at (h:rgt L=true) (hx:frX L p=0):∃ (k0:Ky) (m:In),okK k0=true∧k0.lim∧k0=⟨2,(wlk L true (laD p)).1,laN p,0⟩∧(vo (pts L)).ent k0=none∧(vo (pts L)).ino k0.I=some m∧m.K=1∧(pl L p).k=wrK k0∧laX p=0∧(wlk L true (laD p)).2=0∧ldX L p false=5:=by
 unfold frX at hx;by_cases hc:plX L p=0∧(pl L p).i≠0
 ·rw [if_pos hc] at hx;cases hx
 rw [if_neg hc] at hx;have hz:(pl L p).i=0:=Decidable.not_not.1 fun e=>hc ⟨hx,e⟩
 obtain⟨h1,h2,h3,h4⟩:=pl_yes hx;obtain⟨g1,g2,g3⟩:=la_all h1;obtain⟨m,hm,_⟩:=wlk_some h h2;obtain⟨m1,m2,_,_⟩:=ino_num h hm;have hK:okK ⟨2,(wlk L true (laD p)).1,laN p,0⟩=true:=okK_iff.2 ⟨m1,.inr (.inl ⟨.inl rfl,g3,rfl⟩)⟩;have hlim:Ky.lim ⟨2,(wlk L true (laD p)).1,laN p,0⟩:=⟨show (2:Nat)<256 by decide,m2,show (0:Nat)<4294967296 by decide⟩;have he:(vo (pts L)).ent ⟨2,(wlk L true (laD p)).1,laN p,0⟩=none:=by
  cases e:(vo (pts L)).ent ⟨2,(wlk L true (laD p)).1,laN p,0⟩ with
  | none=>rfl
  | some j =>
   have hi:(pl L p).i=((vo (pts L)).ent ⟨2,(wlk L true (laD p)).1,laN p,0⟩).getD 0:=by
    rw [h4];exact enn_ent h hK hlim rfl
   rw [hz,e] at hi;have hj:=ent_ino h _ _ e;obtain⟨q,hq⟩:=Option.isSome_iff_exists.1 hj;have:=(ino_num h hq).1;have hi':0=j:=hi;omega
 have hkd:m.K=1:=by
  rw [nd_some h hm] at h3;exact h3
 refine⟨_,m,hK,hlim,rfl,he,hm,hkd,?_,h1,h2,?_⟩
 ·rw [h4];exact (chK_yes hK).2
 ·unfold ldX;rw [if_pos g1];have e1:wlk L false (spB p)=one (vo (pts L)) (laN p) (wlk L true (laD p)):=by rw [wlk_C h,wlk_C h,← g2,wkL_snoc]
  have hk2:kind (vo (pts L)) (wlk L true (laD p)).1=1:=by
   unfold kind;rw [hm];exact hkd
  rw [e1];unfold one;rw [if_pos h2,if_neg (by rw [hk2];decide),he]
def nwI (o:Op):In:=if o.K=1 then ⟨2,o.M,1,0,ByteArray.empty⟩ else if o.K=2 then ⟨1,o.M,1,0,ByteArray.empty⟩ else ⟨3,o.M,1,o.T.size,o.T⟩
theorem nwI_is {o:Op}(ho:o.lim):(nwI o).lim∧(nwI o).M=o.M∧(nwI o).L=1∧((nwI o).K=1↔o.K=2):=by
 obtain⟨h1,h2,h3,h4,h5,h6,h7⟩:=ho;unfold nwI;split
 ·rename_i h;exact⟨⟨show (2:Nat)<256 by decide,h2,show (1:Nat)<4294967296 by decide,show (0:Nat)<4294967296 by decide⟩,rfl,rfl,⟨fun e=>absurd (show (2:Nat)=1 from e) (by decide),fun e=>by omega⟩⟩
 ·split
  ·rename_i h;exact⟨⟨show (1:Nat)<256 by decide,h2,show (1:Nat)<4294967296 by decide,show (0:Nat)<4294967296 by decide⟩,rfl,rfl,⟨fun _=>h,fun _=>rfl⟩⟩
  ·rename_i ha hb;exact⟨⟨show (3:Nat)<256 by decide,h2,show (1:Nat)<4294967296 by decide,by show o.T.size<4294967296;omega⟩,rfl,rfl,⟨fun e=>absurd (show (3:Nat)=1 from e) (by decide),fun e=>absurd e hb⟩⟩
def makes (o:Op):Prop:=o.K=1∨o.K=2∨o.K=3
theorem mk_ch {o:Op}(h:makes o):chX L o=crX L o.P (nwI o)∧chC L o=crC L o.P (nwI o):=by
 obtain⟨K,P,T,m,O,N,D⟩:=o;unfold makes at h;dsimp only at h;rcases h with rfl | rfl | rfl<;>exact⟨rfl,rfl⟩
end Go.Proofs.YtopepebcnaikiaaGreatDoor.Fi
namespace Go.Proofs.YtopepebcnaikiaaGreatDoor.Da
open Lib (hid)
open It (Itm Ch ckey key get app lastV get_app get_iff rt rt_iff rc rc_iff UpK okC okI okKey rt_app up_app)
theorem wrE_zero {D:List Itm}{I o:Nat}{s:ByteArray}(h:wrE D I o s=0):ec D I=0∧o+s.size≤65536:=by
 unfold wrE at h;split at h
 ·rename_i he;split at h
  ·cases h
  ·exact⟨he,by omega⟩
 ·rename_i he;exact absurd h he
theorem ec_ok {D:List Itm}(hD:rt D=true){I:Nat}(hI:1≤I):ec D I=0:=by unfold ec;rw [hD,if_pos rfl,if_neg (by omega)]
theorem rdE_of {D:List Itm}{I z:Nat}(h:ec D I=0) (hz:z≤65536):rdE D I z=0:=by unfold rdE;rw [if_pos h,if_neg (by omega)]
theorem rdV_of {D:List Itm}{I z o n:Nat}(h:rdE D I z=0):rdV D I z o n=⟨(rdC (chs D I) o (min (o+n) z)).toArray⟩:=by unfold rdV;rw [if_pos h]
section
variable {D:List Itm}{I o:Nat}{s:ByteArray}
end
open It (Itm Ch ckey key get app lastV get_app get_iff rt rt_iff rc rc_iff UpK okC okI okKey rt_app up_app)
open Tm (cutL cutB)
theorem ct_cons (c:Ck) (cs:List Ck) (z:Nat):ctL (c::cs) z=ctC z c++ctL cs z:=by unfold ctL;rw [List.flatMap_cons]
theorem ct_one (z:Nat) (c:Ck) (K:ByteArray) (o:Option ByteArray):lastV K o (ctC z c)=if c.k=K∧(z-c.n*128=0∨z-c.n*128<c.v.size) then ov (kpC c.k (c.v.extract 0 (z-c.n*128))) else o:=by
 unfold ctC;by_cases h:z-c.n*128=0∨z-c.n*128<c.v.size
 ·rw [if_pos h];show (if ckey (kpC c.k (c.v.extract 0 (z-c.n*128)))=K.data.toList then ov (kpC c.k (c.v.extract 0 (z-c.n*128))) else o)=_
  have:ckey (kpC c.k (c.v.extract 0 (z-c.n*128)))=K.data.toList↔c.k=K:=ba_list;by_cases hk:c.k=K
  ·rw [if_pos (this.2 hk),if_pos ⟨hk,h⟩]
  ·rw [if_neg (fun e=>hk (this.1 e)),if_neg (fun e=>hk e.1)]
 ·rw [if_neg h,if_neg (fun e=>h e.2)];rfl
theorem ct_last1 (z:Nat) (K:ByteArray):∀ (cs:List Ck) (o:Option ByteArray),(∀ c∈cs,c.k≠K)→lastV K o (ctL cs z)=o
 | [],_,_=>rfl
 | c::cs,o,h=>by
  rw [ct_cons,lastV_app,ct_one,if_neg (fun e=>h c List.mem_cons_self e.1)];exact ct_last1 z K cs o fun d hd=>h d (List.mem_cons_of_mem _ hd)
theorem ct_last2 (z:Nat):∀ (cs:List Ck) (o:Option ByteArray) (c:Ck),cs.Pairwise (fun a b=>a.k≠b.k)→c∈cs→lastV c.k o (ctL cs z)=if z-c.n*128=0∨z-c.n*128<c.v.size then ov (kpC c.k (c.v.extract 0 (z-c.n*128))) else o
 | d::cs,o,c,hp,hc=>by
  obtain⟨h1,h2⟩:=List.pairwise_cons.1 hp;rw [ct_cons,lastV_app,ct_one];rcases List.mem_cons.1 hc with rfl | hc
  ·rw [ct_last1 z c.k cs _ fun d hd e=>h1 d hd e.symm];by_cases h:z-c.n*128=0∨z-c.n*128<c.v.size
   ·rw [if_pos h,if_pos ⟨rfl,h⟩]
   ·rw [if_neg h,if_neg (fun e=>h e.2)]
  ·rw [if_neg (fun e=>h1 c hc e.1)];exact ct_last2 z cs o c h2 hc
theorem chs_keys {D:List Itm}{I:Nat}(hr:rt D=true) (hI:1≤I) (hI2:I<4294967296):(chs D I).Pairwise fun a b=>a.k≠b.k :=
 List.Pairwise.imp_of_mem (fun {a b} ha hb hlt e=>by
  obtain⟨k,v,hk,_,rfl⟩:=(mem_chs hI hI2 a).1 ha;obtain⟨l,u,hl,_,rfl⟩:=(mem_chs hI hI2 b).1 hb;have h1:k<l:=hlt;have h2:=(cky_inj hI hI2 hI hI2 hk hl e).2;omega) (chs_up hr hI hI2)
def ctD (D:List Itm) (I z:Nat):List Itm:=app D (ctL (chs D I) z)
section
variable {D:List Itm}{I z:Nat}
theorem ctD_rt (hr:rt D=true) (hI:1≤I) (hI2:I<4294967296):rc (ctL (chs D I) z)=true∧rt (ctD D I z)=true:=by
 have h:rc (ctL (chs D I) z)=true:=rc_iff.2 fun x hx=>by
  obtain⟨c,hc,hx⟩:=List.mem_flatMap.1 hx;obtain⟨k,v,hk,_,rfl⟩:=(mem_chs hI hI2 c).1 hc;have hv:=(chs_sz hr hI hI2 _ hc).2;unfold ctC at hx;split at hx
  ·rw [List.mem_singleton.1 hx];refine okC_kp (cky_ok hI hk) ?_;have hv:v.size≤160:=hv;show (v.extract 0 (z-k*128)).size≤160
   simp;omega
  ·cases hx
 exact⟨h,rt_app hr h⟩
theorem ctD_get (hr:rt D=true) (K:ByteArray):get (ctD D I z) K=lastV K (get D K) (ctL (chs D I) z):=get_app K _ (rt_iff.1 hr).1
theorem ct_yes (hr:rt D=true) (hI:1≤I) (hI2:I<4294967296){k:Nat}(hk:k<512){v:ByteArray}(hg:get D (cky I k)=some v) :
  get (ctD D I z) (cky I k)=if z-k*128=0∨z-k*128<v.size then ov (kpC (cky I k) (v.extract 0 (z-k*128))) else some v:=by
 have hm:(⟨k,cky I k,true,v⟩:Ck)∈chs D I:=(mem_chs hI hI2 _).2 ⟨k,v,hk,(get_iff (rt_iff.1 hr).1 _ _).1 hg,rfl⟩;rw [ctD_get hr,hg];exact ct_last2 z (chs D I) (some v) ⟨k,cky I k,true,v⟩ (chs_keys hr hI hI2) hm
theorem ct_far (hr:rt D=true) (hI:1≤I) (hI2:I<4294967296){K:ByteArray}(hK:∀ k v,k<512→get D (cky I k)=some v→cky I k≠K):get (ctD D I z) K=get D K:=by
 rw [ctD_get hr];exact ct_last1 z K _ _ fun c hc=>by
  obtain⟨k,v,hk,hm,rfl⟩:=(mem_chs hI hI2 c).1 hc;exact hK k v hk ((get_iff (rt_iff.1 hr).1 _ _).2 hm)
theorem ct_none (hr:rt D=true) (hI:1≤I) (hI2:I<4294967296){k:Nat}(hk:k<512) (hg:get D (cky I k)=none):get (ctD D I z) (cky I k)=none:=by
 rw [ct_far hr hI hI2 fun l v hl hv e=>by rw [e,hg] at hv;cases hv];exact hg
theorem zb_ext0 (v:ByteArray) (a j:Nat):zb (v.extract 0 a).data.toList j=if j<a then zb v.data.toList j else 0:=by
 unfold zb;rw [ByteArray.data_extract,Array.toList_extract,List.extract_eq_take_drop,List.drop_zero,Nat.sub_zero,List.getElem?_take];split<;>rfl
theorem ctD_bt (hr:rt D=true) (hI:1≤I) (hI2:I<4294967296){P:Nat}(hP:P<65536):btC (chs (ctD D I z) I) P=if P<z then btC (chs D I) P else 0:=by
 rw [btC_get (ctD_rt hr hI hI2).2 hI hI2 hP,btC_get hr hI hI2 hP];cases hg:get D (cky I (P / 128)) with
 | none =>
  rw [ct_none hr hI hI2 (by omega) hg];show (0:UInt8)=if P<z then 0 else 0
  split<;>rfl
 | some v =>
  rw [ct_yes hr hI hI2 (by omega) hg];by_cases h:z-P / 128*128=0∨z-P / 128*128<v.size
  ·rw [if_pos h,bo_kp,zb_ext0];have e:(P%128<z-P / 128*128)↔P<z:=by omega
   by_cases hz:P<z
   ·rw [if_pos (e.2 hz),if_pos hz];rfl
   ·rw [if_neg (fun x=>hz (e.1 x)),if_neg hz]
  ·rw [if_neg h];by_cases hz:P<z
   ·rw [if_pos hz]
   ·rw [if_neg hz];exact zb_out (by rw [bsl];omega)
end
end Go.Proofs.YtopepebcnaikiaaGreatDoor.Da
namespace Go.Proofs.YtopepebcnaikiaaGreatDoor.Fi
open Lib (hid)
open Ino
open It (Itm Ch get und app dif rt rc key ckey UpK get_iff rt_iff rt_up don mem_app mem_don up_app itm get_don app_cons app_nil okC okKey)
open Di
open Da (chs cky kyC kyC_ok kyC_lim cky_parse cky_inj)
open Pk (nB)
open Ph (nb spX spB laX laD laN la_ok la_err la_none)
variable {L M:List Itm}{s s':Vo}{C:List Ch}{p:ByteArray}
theorem lz_iff {v:ByteArray}(h:0<v.size):lz v=true↔v.data.toList.getLast?=some 0:=by
 unfold lz;rw [beq_iff_eq,ByteArray.toList_eq,ByteArray.data_extract,Array.toList_extract,List.extract_eq_take_drop];have hl:v.data.toList.length=v.size:=by rw [Array.length_toList];rfl
 generalize v.data.toList=l at *;rcases List.eq_nil_or_concat l with rfl | ⟨r,a,rfl⟩
 ·simp at hl;omega
 ·rw [List.length_concat] at hl;have e:v.size-1=r.length:=by omega
  rw [e,show v.size-r.length=1 by omega];simp
theorem okX_I {i:Nat}{n:In}(hi1:1≤i) (hi:i<4294967296) (ho:okI n=true) (hl:n.lim):okX ⟨Fi.kI i,enI n⟩=true:=by
 unfold okX;dsimp only;rw [kI_wr hi1,(deK_back (kI_lim hi) (kI_ok hi1)).2];unfold okP ptOf;dsimp only;rw [(deK_back (kI_lim hi) (kI_ok hi1)).1,if_pos (show (Di.kI i).K=1 from rfl),(chI_yes ho).2,(deI_back hl ho).2];rfl
theorem up_same (h:s'.abv=s.abv):∀ k i,up s' k i=up s k i
 | 0,_=>rfl
 | k+1,i=>by
  show up s' k (s'.abv i)=up s k (s.abv i)
  rw [h,up_same h k]
theorem chunk_right (h:rgt L=true){i z:Nat}{n:In}(hn:(vo (pts L)).ino i=some n) (hK:n.K=2) (hz:z≤65536) (hM:rt M=true) (hgI:get M (Fi.kI i)=some (enI { n with S:=z })) (hfar:∀ K,K≠Fi.kI i→(∀ k,k<512→K≠cky i k)→get M K=get L K)
  (hck:∀ k v,k<512→get M (cky i k)=some v→v.size≤128∧0<v.size∧v.data.toList.getLast?≠some 0∧k*128+v.size≤z):rgt M=true∧(vo (pts M)).ino i=some { n with S:=z }∧(∀ j,j≠i→(vo (pts M)).ino j=(vo (pts L)).ino j)∧(vo (pts M)).ent=(vo (pts L)).ent:=by
 have hr:=rgt_iff.1 h;obtain⟨hi1,hi2,hi3,hi4⟩:=ino_num h hn;have hoi:okI { n with S:=z }=true:=by
  rw [okI_iff] at hi3 ⊢;dsimp only;omega
 have hlim:In.lim { n with S:=z }:=⟨hi4.1,hi4.2.1,hi4.2.2.1,by show z<4294967296;omega⟩;have hzK:({ n with S:=z }:In).K=2:=hK;have hzL:({ n with S:=z }:In).L=n.L:=rfl;have hzS:({ n with S:=z }:In).S=z:=rfl;generalize hn':({ n with S:=z }:In)=n' at *;have hkI:deK (Fi.kI i)=Di.kI i:=by rw [kI_wr hi1];exact (deK_back (kI_lim hi2) (kI_ok hi1)).1
 have hgm:∀ x,x∈M↔get M x.k=some x.v:=fun x=>(get_some hM (k:=x.k) (v:=x.v)).symm
 have hgl:∀ x,x∈L↔get L x.k=some x.v:=fun x=>(get_some hr.rt (k:=x.k) (v:=x.v)).symm
 -- three kinds of items
 have hcls:∀ x∈M,x=⟨Fi.kI i,enI n'⟩∨(∃ k,k<512∧x.k=cky i k)∨(x∈L∧x.k≠Fi.kI i∧∀ k,k<512→x.k≠cky i k):=fun x hx=>by
  by_cases h1:x.k=Fi.kI i
  ·left;have:=(hgm x).1 hx;rw [h1,hgI] at this;obtain⟨a,b⟩:=x;dsimp only at h1 this;rw [h1,Option.some.inj this]
  ·by_cases h2:∃ k,k<512∧x.k=cky i k
   ·exact .inr (.inl h2)
   ·have h3:∀ k,k<512→x.k≠cky i k:=fun k hk e=>h2 ⟨k,hk,e⟩
    exact .inr (.inr ⟨(hgl x).2 (by rw [← hfar _ h1 h3];exact (hgm x).1 hx),h1,h3⟩)
 have hokM:∀ x∈M,okX x=true:=fun x hx=>by
  rcases hcls x hx with rfl | ⟨k,hk,e⟩ | ⟨h3,_⟩
  ·exact okX_I hi1 hi2 hoi hlim
  ·obtain⟨c1,c2⟩:=cky_parse hi1 hi2 hk;obtain⟨d1,d2,d3,_⟩:=hck k x.v hk (by rw [← e];exact (hgm x).1 hx);unfold okX;rw [e,c2];unfold okP ptOf;rw [e,c1];have e4:lz x.v=false:=by
    cases e5:lz x.v with
    | false=>rfl
    | true=>exact absurd ((lz_iff d2).1 e5) d3
   dsimp only;rw [if_neg (show ¬ (kyC i k).K=1 by show ¬ (3:Nat)=1;decide),if_neg (show ¬ (kyC i k).K=2 by show ¬ (3:Nat)=2;decide),if_pos (show (kyC i k).K=3 from rfl),e4,decide_eq_true (show x.v.size≠0 by omega),decide_eq_true d1];rfl
  ·exact hr.ok x h3
 -- entries
 have hen:M.filter isEn=L.filter isEn:=It.up_ext (UpK.sub (rt_up hM).1 List.filter_sublist) (UpK.sub (rgt_up h) List.filter_sublist) fun x=>by
  rw [List.mem_filter,List.mem_filter,hgm,hgl];constructor
  ·rintro ⟨h1,h2⟩;have h3:=of_decide_eq_true h2;refine⟨?_,h2⟩;rw [← hfar,h1]
   ·intro e;rw [e,hkI] at h3;exact absurd (show (1:Nat)=2 from h3) (by decide)
   ·intro k hk e;rw [e,(cky_parse hi1 hi2 hk).1] at h3;exact absurd (show (3:Nat)=2 from h3) (by decide)
  ·rintro ⟨h1,h2⟩;have h3:=of_decide_eq_true h2;refine⟨?_,h2⟩;rw [hfar,h1]
   ·intro e;rw [e,hkI] at h3;exact absurd (show (1:Nat)=2 from h3) (by decide)
   ·intro k hk e;rw [e,(cky_parse hi1 hi2 hk).1] at h3;exact absurd (show (3:Nat)=2 from h3) (by decide)
 obtain⟨hnmd,habv,hent⟩:(vo (pts M)).nmd=(vo (pts L)).nmd∧(vo (pts M)).abv=(vo (pts L)).abv∧(vo (pts M)).ent=(vo (pts L)).ent:=by
  obtain⟨a1,a2,a3⟩:=vo_ents (pts M);obtain⟨b1,b2,b3⟩:=vo_ents (pts L);rw [pts_ents,hen,← pts_ents] at a1 a2 a3;exact⟨a1.trans b1.symm,a2.trans b2.symm,a3.trans b3.symm⟩
 have hinoi:(vo (pts M)).ino i=some n':=by
  rw [ino_all hM hokM,if_pos ⟨hi1,hi2⟩,hgI,Option.map_some,(chI_yes hoi).2,(deI_back hlim hoi).1]
 have hino:∀ j,j≠i→(vo (pts M)).ino j=(vo (pts L)).ino j:=by
  intro j hj;rw [ino_all hM hokM,ino_all hr.rt hr.ok];by_cases hj1:1≤j∧j<4294967296
  ·have e1:deK (Fi.kI j)=Di.kI j:=by rw [kI_wr hj1.1];exact (deK_back (kI_lim hj1.2) (kI_ok hj1.1)).1
   rw [if_pos hj1,if_pos hj1,hfar]
   ·intro e;rw [e,hkI] at e1;exact hj (congrArg Ky.I e1).symm
   ·intro k hk e;rw [e,(cky_parse hi1 hi2 hk).1] at e1;exact absurd (show (3:Nat)=1 from congrArg Ky.K e1) (by decide)
  ·rw [if_neg hj1,if_neg hj1]
 have hi0:i≠1:=fun e=>by
  have h6:(vo (pts L)).ino 1=some n:=by rw [← e];exact hn
  have:=hr.root;unfold kind at this;rw [h6] at this;have h5:n.K=1:=this;omega
 refine⟨rgt_iff.2 ⟨hM,hokM,?_,fun q hq=>?_,?_⟩,hinoi,hino,hent⟩
 ·unfold kind;rw [hino 1 (fun e=>hi0 e.symm)];exact hr.root
 ·obtain⟨x,hx,rfl⟩:=pts_mem hq;rcases hcls x hx with rfl | ⟨k,hk,e⟩ | ⟨hxL,hx1,hx2⟩
  ·refine stray_of_1 (n:=n') ?_ ?_ (.inr ?_)
   ·show (deK (Fi.kI i)).K=1
    rw [hkI];rfl
   ·show (vo (pts M)).ino (deK (Fi.kI i)).I=some n'
    rw [hkI];exact hinoi
   ·show (vo (pts M)).nmd (deK (Fi.kI i)).I=n'.L
    rw [hkI,hnmd,hzL];obtain⟨p,hp,hp1,hpi,hpn⟩:=ino_of _ hn;have:=stray_1 (hr.str p hp) hp1 (by rw [hpi];exact hn);rw [hpi] at this;exact this.resolve_left hi0
  ·obtain⟨c1,c2⟩:=cky_parse hi1 hi2 hk;obtain⟨d1,d2,d3,d4⟩:=hck k x.v hk (by rw [← e];exact (hgm x).1 hx);have e1:(ptOf x).k=kyC i k:=by
    show deK x.k=_
    rw [e,c1]
   unfold stray;rw [e1];show (match (vo (pts M)).ino i with | none=>true | some n=>_)=false
   rw [hinoi];dsimp only;rw [if_neg (show ¬ (kyC i k).K=1 by show ¬ (3:Nat)=1;decide),if_neg (show ¬ (kyC i k).K=2 by show ¬ (3:Nat)=2;decide),if_pos (show (kyC i k).K=3 from rfl),hzK,hzS];have e2:(ptOf x).v=x.v:=rfl;rw [e2,decide_eq_false (show ¬ z<(kyC i k).C*128+x.v.size by show ¬ z<k*128+x.v.size;omega)];rfl
  ·have h3:=hr.str (ptOf x) (List.mem_map.2 ⟨x,hxL,rfl⟩);obtain⟨a,b,c,_⟩:=key_of h hxL;by_cases hI:(ptOf x).k.I=i
   ·have hI':(deK x.k).I=i:=hI;obtain⟨o1,o2⟩:=okK_iff.1 a;unfold stray at h3 ⊢;rw [hI,hn] at h3;rw [hI,hinoi];dsimp only at h3 ⊢;have e1:¬ (ptOf x).k.K=1:=fun e=>by
     obtain⟨e5,_⟩:=kI_of a e;refine hx1 ?_;rw [← b,e5,hI',kI_wr hi1]
    have e3:¬ (ptOf x).k.K=3:=fun e=>by
     have e':(deK x.k).K=3:=e;have o4:(deK x.k).N.size=0∧(deK x.k).C<512:=by
      rcases o2 with ⟨q,_⟩ | ⟨q,_⟩ | ⟨_,q1,q2⟩
      ·omega
      ·omega
      ·exact⟨q1,q2⟩
     refine hx2 (deK x.k).C o4.2 ?_;have e6:deK x.k=kyC i (deK x.k).C:=by
      have:=Ino.size0 o4.1;generalize deK x.k=kk at *;obtain⟨q1,q2,q3,q4⟩:=kk;dsimp only at e' hI' this ⊢;rw [e',hI',this];rfl
     unfold cky;rw [← e6,b]
    rw [if_neg e1,if_neg e3] at h3;rw [if_neg e1,if_neg e3];by_cases e2:(ptOf x).k.K=2
    ·rw [if_pos e2,hK] at h3;cases h3
    ·rw [if_neg e2]
   ·have hnn:∀ j,((vo (pts M)).ino j).isNone=((vo (pts L)).ino j).isNone:=fun j=>by
     by_cases e:j=i
     ·rw [e,hinoi,hn];rfl
     ·rw [hino j e]
    have h4:stray (vo (pts M)) (ptOf x)=stray (vo (pts L)) (ptOf x):=by
     unfold stray;rw [hino _ hI,hnmd,hent];cases (vo (pts L)).ino (ptOf x).k.I with
     | none=>rfl
     | some m =>
      dsimp only;rw [hnn]
    rw [h4];exact h3
 ·intro j m hj hm;have hji:j≠i:=fun e=>by
   rw [e,hinoi] at hj;have:=Option.some.inj hj;rw [← this,hzK] at hm;exact absurd hm (by decide)
  rw [hino j hji] at hj;obtain⟨k,hk2⟩:=hr.ups j m hj hm;exact⟨k,by rw [up_same habv];exact hk2⟩
end Go.Proofs.YtopepebcnaikiaaGreatDoor.Fi
namespace Go.Proofs.YtopepebcnaikiaaGreatDoor.Fi
open Lib (hid)
open Ino
open It (Itm Ch get und app dif rt rc key ckey UpK get_iff rt_iff rt_up don mem_app mem_don up_app itm get_don app_cons app_nil okC okKey)
open Di
open Da (chs cky kyC kyC_ok kyC_lim cky_parse cky_inj wrD ctD btC rdC rdV rdE wrE ec CnO zb bo wrL ctL)
open Pk (nB)
open Ph (nb spX spB laX laD laN la_ok la_err la_none)
variable {L M D:List Itm}{s s':Vo}{C:List Ch}{p:ByteArray}
theorem get_u (hu:UpK key L) (k k':ByteArray) (b:Bool) (v:ByteArray):get (app L [⟨k,b,v⟩]) k'=if k=k' then (if b then some v else none) else get L k':=by
 rw [app_cons,app_nil,get_don hu];have:(ckey (⟨k,b,v⟩:Ch)=k'.data.toList)↔k=k':=⟨fun e=>ByteArray.ext (Array.toList_inj.1 e),fun e=>by rw [e];rfl⟩;simp only [this]
theorem lk_chunk (h:rgt L=true){i k:Nat}{n:In}{v:ByteArray}(hn:(vo (pts L)).ino i=some n) (hk:k<512) (hg:get L (cky i k)=some v):v.size≤128∧0<v.size∧v.data.toList.getLast?≠some 0∧k*128+v.size≤n.S:=by
 have hr:=rgt_iff.1 h;obtain⟨hi1,hi2,_,_⟩:=ino_num h hn;obtain⟨c1,c2⟩:=cky_parse hi1 hi2 hk;obtain⟨x,hxk,hxv,hx⟩:∃ x:Itm,x.k=cky i k∧x.v=v∧x∈L:=⟨⟨cky i k,v⟩,rfl,rfl,(get_some hr.rt).1 hg⟩;have ho:=(key_of h hx).2.2.2;have hs:=hr.str (ptOf x) (List.mem_map.2 ⟨_,hx,rfl⟩);have e1:(ptOf x).k=kyC i k:=by
  show deK x.k=_
  rw [hxk,c1]
 have n1:¬ (kyC i k).K=1:=by show ¬ (3:Nat)=1;decide
 have n2:¬ (kyC i k).K=2:=by show ¬ (3:Nat)=2;decide
 unfold okP at ho;rw [e1,if_neg n1,if_neg n2,if_pos (show (kyC i k).K=3 from rfl)] at ho;simp only [Bool.and_eq_true,decide_eq_true_eq,Bool.not_eq_true'] at ho;have e2:(ptOf x).v=v:=hxv;rw [e2] at ho;unfold stray at hs;rw [e1,show (kyC i k).I=i from rfl,hn] at hs;dsimp only at hs;rw [if_neg n1,if_neg n2,if_pos (show (kyC i k).K=3 from rfl),e2] at hs;rw [Bool.or_eq_false_iff,decide_eq_false_iff_not,decide_eq_false_iff_not] at hs;have h3:¬ n.S<k*128+v.size:=hs.2;refine⟨ho.2.1,by omega,fun e=>?_,by omega⟩;rw [(lz_iff (by omega)).2 e] at ho;exact absurd ho.2.2 (by decide)
theorem last_pos (hr:rt D=true){i k:Nat}{v:ByteArray}(hi1:1≤i) (hi2:i<4294967296) (hk:k<512) (hg:get D (cky i k)=some v) (h1:v.size≤128) (h2:0<v.size) (h3:v.data.toList.getLast?≠some 0):k*128+v.size-1<65536∧btC (chs D i) (k*128+v.size-1)≠0:=by
 refine⟨by omega,?_⟩;rw [Da.btC_get hr hi1 hi2 (by omega),show (k*128+v.size-1) / 128=k by omega,show (k*128+v.size-1)%128=v.size-1 by omega,hg];unfold bo;dsimp only;have hl:=Da.bsl v;rw [← hl];exact Da.last_zb h3 (by omega)
theorem chs_kept (hr:rt D=true){n:In}{i:Nat}(hi1:1≤i) (hi2:i<4294967296) (hc:rt (app D [kept n i])=true):chs (app D [kept n i]) i=chs D i:=by
 unfold chs;have:und (app D [kept n i]) (pfx 3 i)=und D (pfx 3 i):=by
  unfold und;refine It.up_ext (UpK.sub (rt_up hc).1 List.filter_sublist) (UpK.sub (rt_up hr).1 List.filter_sublist) fun x=>?_
  rw [List.mem_filter,List.mem_filter];have hne:It.pre (pfx 3 i) x=true→Fi.kI i≠x.k:=fun hp e=>by
   have h1:deK x.k=Di.kI i∧deKE x.k=0:=by rw [← e,kI_wr hi1];exact deK_back (kI_lim hi2) (kI_ok hi1)
   obtain⟨k,hk,e2,_⟩:=Da.ck_key hi1 hi2 hp h1.2;have h3:=(cky_parse hi1 hi2 hk).1;rw [← e2,h1.1] at h3;exact absurd (show (1:Nat)=3 from congrArg Ky.K h3) (by decide)
  have hg:It.pre (pfx 3 i) x=true→(x∈app D [kept n i]↔x∈D):=fun hp=>by
   have a1:=get_some hc (k:=x.k) (v:=x.v);have a2:=get_some hr (k:=x.k) (v:=x.v);unfold kept at a1;rw [get_u (rt_up hr).1,if_neg (hne hp)] at a1;exact a1.symm.trans a2
  exact⟨fun ⟨a,b⟩=>⟨(hg b).1 a,b⟩,fun ⟨a,b⟩=>⟨(hg b).2 a,b⟩⟩
 rw [this]
theorem put_right (h:rgt L=true){i z:Nat}{n:In}(hn:(vo (pts L)).ino i=some n) (hK:n.K=2) (hz:z≤65536) (hD:rt D=true) (hfar:∀ K,(∀ k,k<512→K≠cky i k)→get D K=get L K) (hcn:∀ k,k<512→CnO (get D (cky i k)))
  (hb:∀ P,P<65536→btC (chs D i) P≠0→P<z):rc [kept { n with S:=z } i]=true∧rgt (app D [kept { n with S:=z } i])=true∧(vo (pts (app D [kept { n with S:=z } i]))).ino i=some { n with S:=z }∧(∀ j,j≠i→(vo (pts (app D [kept { n with S:=z } i]))).ino j=(vo (pts L)).ino j) ∧
  (vo (pts (app D [kept { n with S:=z } i]))).ent=(vo (pts L)).ent∧chs (app D [kept { n with S:=z } i]) i=chs D i:=by
 obtain⟨hi1,hi2,hi3,hi4⟩:=ino_num h hn;have hoi:okI { n with S:=z }=true:=by
  rw [okI_iff] at hi3 ⊢;dsimp only;omega
 have hsz:(enI { n with S:=z }).size≤160:=by
  rw [(chI_yes hoi).2,wrI_size _ (by have:=(okI_size hoi).1;omega)];have:=(okI_size hoi).1;omega
 have hrc:rc [kept { n with S:=z } i]=true:=by
  have:=rc_one (kI_ok hi1) true (enI { n with S:=z }) hsz (fun h=>by cases h);unfold kept;rw [kI_wr hi1];exact this
 have hM:=It.rt_app hD hrc;have hget:∀ K,get (app D [kept { n with S:=z } i]) K=if Fi.kI i=K then some (enI { n with S:=z }) else get D K:=fun K=>by
  unfold kept;rw [get_u (rt_up hD).1];rfl
 have hne:∀ k,k<512→Fi.kI i≠cky i k:=fun k hk e=>by
  have h1:deK (cky i k)=Di.kI i:=by rw [← e,kI_wr hi1];exact (deK_back (kI_lim hi2) (kI_ok hi1)).1
  rw [(cky_parse hi1 hi2 hk).1] at h1;exact absurd (show (3:Nat)=1 from congrArg Ky.K h1) (by decide)
 have hch:=chs_kept hD hi1 hi2 hM;obtain⟨r1,r2,r3,r4⟩:=chunk_right h hn hK hz hM (by rw [hget,if_pos rfl]) (fun K h1 h2=>by rw [hget,if_neg (fun e=>h1 e.symm),hfar K h2]) (fun k v hk hg=>by
  rw [hget,if_neg (hne k hk)] at hg;obtain⟨a1,a2,a3⟩:=hcn k hk v hg;obtain⟨b1,b2⟩:=last_pos hD hi1 hi2 hk hg a1 a2 a3;have:=hb _ b1 b2;exact⟨a1,a2,a3,by omega⟩)
 exact⟨hrc,r1,r2,r3,r4,hch⟩
theorem fn_00 (h:fnX L p true=0):ldX L p true=0∧(ldN L p true).K≠1:=by
 unfold fnX at h;by_cases hc:ldX L p true=0∧(ldN L p true).K=1
 ·rw [if_pos hc] at h;cases h
 ·rw [if_neg hc] at h;exact⟨h,fun e=>hc ⟨h,e⟩⟩
theorem fl_at (h:rgt L=true) (hx:fnX L p true=0):∃ n,(vo (pts L)).ino (ldI L p true)=some n∧n.K=2∧ldN L p true=n∧n.S≤65536:=by
 obtain⟨h0,h1⟩:=fn_00 hx;obtain⟨n,hn,h3⟩:=ld_some h h0;have hnd:ldN L p true=n:=by
  unfold ldN;rw [if_pos h0];exact nd_some h hn
 rw [hnd] at h1;have h4:=(ino_num h hn).2.2.1;have h5:=h3 rfl;rw [okI_iff] at h4;refine⟨n,hn,by omega,hnd,by omega⟩
theorem ld_keep (h:rgt L=true) (hM:rgt M=true){i:Nat}{n n':In}(hn:(vo (pts L)).ino i=some n) (hn':(vo (pts M)).ino i=some n') (hk:n'.K=n.K) (ht:n'.T=n.T) (hino:∀ j,j≠i→(vo (pts M)).ino j=(vo (pts L)).ino j) (hent:(vo (pts M)).ent=(vo (pts L)).ent)
  {fo:Bool}(h0:ldX L p fo=0):ldX M p fo=0∧ldI M p fo=ldI L p fo:=by
 have hkd:∀ j,kind (vo (pts M)) j=kind (vo (pts L)) j:=fun j=>by
  unfold kind;by_cases e:j=i
  ·rw [e,hn,hn'];exact hk
  ·rw [hino j e]
 have htg:∀ j,tgtOf (vo (pts M)) j=tgtOf (vo (pts L)) j:=fun j=>by
  unfold tgtOf;by_cases e:j=i
  ·rw [e,hn,hn'];exact ht
  ·rw [hino j e]
 have h00:=h0;unfold ldX at h0;split at h0
 ·rename_i hs;have hw:wlk M fo (spB p)=wlk L fo (spB p):=by
   rw [wlk_C hM,wlk_C h];exact wkL_mono (fun k j e=>⟨by rw [hent];exact e,hkd j,htg j⟩) (hkd 1) 8 1 _ (hkd 1) (by rw [← wlk_C h];exact h0)
  have h1:ldX M p fo=0:=by
   unfold ldX;rw [if_pos hs,hw];exact h0
  refine⟨h1,?_⟩;unfold ldI;rw [if_pos h1,if_pos h00,hw]
 ·exact absurd h0 (by assumption)
end Go.Proofs.YtopepebcnaikiaaGreatDoor.Fi
namespace Go.Proofs.YtopepebcnaikiaaGreatDoor.Fi
open Lib (hid)
open Ino
open It (Itm Ch get und app dif rt rc key ckey UpK get_iff rt_iff rt_up don mem_app mem_don up_app itm get_don app_cons app_nil okC okKey)
open Di
open Da (chs cky kyC kyC_ok kyC_lim cky_parse cky_inj wrD ctD btC rdC rdC_len rdC_get rdV rdE wrE ec CnO zb bo wrL ctL rdV_of rdE_of ec_ok)
open Pk (nB)
open Ph (nb spX spB laX laD laN la_ok la_err la_none)
variable {L M D:List Itm}{s s':Vo}{C:List Ch}{p:ByteArray}
theorem rc_snoc {c:Ch}(h:rc C=true) (h2:rc [c]=true):rc (C++[c])=true:=by
 unfold rc at *;rw [List.all_append,h,h2];rfl
theorem put_told (h:rgt L=true) (h0:fnX L p true=0){z:Nat}(hz:z≤65536) (hD:rt D=true) (hfar:∀ K,(∀ k,k<512→K≠cky (ldI L p true) k)→get D K=get L K) (hcn:∀ k,k<512→CnO (get D (cky (ldI L p true) k)))
  (hb:∀ P,P<65536→btC (chs D (ldI L p true)) P≠0→P<z):rc [kept { ldN L p true with S:=z } (ldI L p true)]=true∧(M=app D [kept { ldN L p true with S:=z } (ldI L p true)]→rgt M=true∧chs M (ldI L p true)=chs D (ldI L p true)∧∀ p2,ldX L p2 true=0→ldI L p2 true=ldI L p true→fnX M p2 true=0∧ldX M p2 true=0∧ldI M p2 true=ldI L p true∧ldN M p2 true={ ldN L p true with S:=z }):=by
 obtain⟨n,hn,hK,hN,hS⟩:=fl_at h h0;obtain⟨r1,r2,r3,r4,r5,r6⟩:=put_right h hn hK hz hD hfar hcn hb;rw [hN];refine⟨r1,fun e=>?_⟩;rw [← e] at r2 r3 r4 r5 r6;clear e;refine⟨r2,r6,fun p2 hp1 hp2=>?_⟩;obtain⟨q1,q2⟩:=ld_keep (p:=p2) (fo:=true) h r2 hn r3 rfl rfl r4 r5 hp1;rw [hp2] at q2;have q3:ldN M p2 true={ n with S:=z }:=by
  unfold ldN;rw [if_pos q1,q2];exact nd_some r2 r3
 have q4:fnX M p2 true=0:=by
  unfold fnX;rw [if_neg (by rw [q3];rintro ⟨_,e⟩;exact absurd (hK.symm.trans e) (by decide))];exact q1
 exact⟨q4,q1,q2,q3⟩
theorem cn_of (h:rgt L=true){i k:Nat}{n:In}(hn:(vo (pts L)).ino i=some n) (hk:k<512):CnO (get L (cky i k)):=fun v hv=>by
 obtain⟨a,b,c,_⟩:=lk_chunk h hn hk hv;exact⟨a,b,c⟩
theorem bt_in (h:rgt L=true){i P:Nat}{n:In}(hn:(vo (pts L)).ino i=some n) (hP:P<65536) (hb:btC (chs L i) P≠0):P<n.S:=by
 obtain⟨hi1,hi2,_,_⟩:=ino_num h hn;rw [Da.btC_get (rgt_iff.1 h).rt hi1 hi2 hP] at hb;cases hg:get L (cky i (P / 128)) with
 | none=>rw [hg] at hb;exact absurd rfl hb
 | some v =>
  rw [hg] at hb;obtain⟨a,b,c,d⟩:=lk_chunk h hn (by omega) hg;have:P%128<v.size:=by
   refine Nat.lt_of_not_le fun hge=>hb ?_
   unfold bo;exact Da.zb_out (by rw [Da.bsl];exact hge)
  omega
end Go.Proofs.YtopepebcnaikiaaGreatDoor.Fi
namespace Go.Proofs.YtopepebcnaikiaaGreatDoor.Fi
open Lib (hid)
open Ino
open It (Itm Ch get und app dif rt rc key ckey UpK get_iff rt_iff rt_up don mem_app mem_don up_app itm get_don app_cons app_nil okC okKey)
open Di
open Pk (nB)
open Ph (nb spX spB laX laD laN la_ok la_err la_none)
variable {L M:List Itm}{s s':Vo}{C:List Ch}{p:ByteArray}
theorem okX_E {i:Nat}{k0:Ky}(hi2:2≤i) (hi:i<4294967296) (hk:okK k0=true) (lk:k0.lim) (h2:k0.K=2):okX ⟨wrK k0,nB i 4⟩=true:=by
 obtain⟨hnum,hnE,hnR,hnS⟩:=nB4 hi;unfold okX;dsimp only;rw [(deK_back lk hk).2];unfold okP ptOf;dsimp only;rw [(deK_back lk hk).1,if_neg (by omega),if_pos h2,hnum,hnE,hnR,decide_eq_true hi2];rfl
theorem hard_right (h:rgt L=true){i:Nat}{n n' m:In}(hn:(vo (pts L)).ino i=some n) (hK1:n.K≠1) (hL:n.L<1024) (hnn:n'={ n with L:=n.L+1 }){k0:Ky}(hk:okK k0=true) (lk:k0.lim) (h2:k0.K=2) (he:(vo (pts L)).ent k0=none) (hd:(vo (pts L)).ino k0.I=some m) (hm:m.K=1)
  (hC:C=[kept n' i,⟨wrK k0,true,nB i 4⟩]):rgt (app L C)=true∧rc C=true∧(vo (pts (app L C))).ino i=some n'∧(vo (pts (app L C))).ent k0=some i∧(∀ j,j≠i→(vo (pts (app L C))).ino j=(vo (pts L)).ino j)∧(∀ k,k≠k0→(vo (pts (app L C))).ent k=(vo (pts L)).ent k) ∧
  (∀ k',get (app L C) k'=if wrK k0=k' then some (nB i 4) else if Fi.kI i=k' then some (enI n') else get L k'):=by
 have hr:=rgt_iff.1 h;obtain⟨hi1,hi,hi3,hi4⟩:=ino_num h hn;have hi0:i≠1:=fun e=>by
  have h6:(vo (pts L)).ino 1=some n:=by rw [← e];exact hn
  have:=hr.root;unfold kind at this;rw [h6] at this;exact hK1 this
 have ho:okI n'=true:=by
  rw [hnn];rw [okI_iff] at hi3 ⊢;dsimp only;rcases hi3 with ⟨a,_⟩ | ⟨a,b,c⟩ | ⟨a,b,c⟩
  ·exact absurd a hK1
  ·exact .inr (.inl ⟨a,by omega,c⟩)
  ·exact .inr (.inr ⟨a,by omega,c⟩)
 have hl:n'.lim:=by
  rw [hnn];exact⟨hi4.1,hi4.2.1,by show n.L+1<4294967296;omega,hi4.2.2.2⟩
 have hK':n'.K=n.K:=by rw [hnn]
 have hS':n'.S=n.S:=by rw [hnn]
 have hL':n'.L=n.L+1:=by rw [hnn]
 have hd0:deK (wrK k0)=k0:=(deK_back lk hk).1;have hkI:deK (Fi.kI i)=Di.kI i:=by rw [kI_wr hi1];exact (deK_back (kI_lim hi) (kI_ok hi1)).1
 obtain⟨hnum,hnE,hnR,hnS⟩:=nB4 hi;have hki:k0.I≠i:=fun e=>by
  rw [e,hn] at hd;rw [Option.some.inj hd] at hK1;exact hK1 hm
 have hnew:∀ x∈L,x.k≠wrK k0:=fun x hx e=>by
  have:=ent_item h hx (by rw [e,hd0];exact h2);rw [e,hd0,he] at this;cases this
 have hsz:(enI n').size≤160:=by
  rw [(chI_yes ho).2,wrI_size _ (by have:=(okI_size ho).1;omega)];have:=(okI_size ho).1;omega
 have hrc:rc C=true:=by
  have e1:=rc_one (kI_ok hi1) true (enI n') hsz (fun h=>by cases h);have e2:=rc_one hk true (nB i 4) (by omega) (fun h=>by cases h);rw [hC];unfold rc kept at *;rw [List.all_cons,List.all_nil,Bool.and_true] at e1 e2;rw [List.all_cons,List.all_cons,List.all_nil,Bool.and_true,Bool.and_eq_true];exact⟨by rw [kI_wr hi1];exact e1,e2⟩
 have hne:Fi.kI i≠wrK k0:=fun e=>by
  rw [e,hd0] at hkI;rw [hkI] at h2;exact absurd (show (1:Nat)=2 from h2) (by decide)
 have hget:∀ k',get (app L C) k'=if wrK k0=k' then some (nB i 4) else if Fi.kI i=k' then some (enI n') else get L k':=fun k'=>by
  have e:app L C=app (app L [⟨Fi.kI i,true,enI n'⟩]) [⟨wrK k0,true,nB i 4⟩]:=by rw [hC];rfl
  have hu:UpK key (app L [⟨Fi.kI i,true,enI n'⟩]):=up_app _ (rgt_up h);rw [e,app_cons,app_nil,get_don hu];have e3:(ckey (⟨wrK k0,true,nB i 4⟩:Ch)=k'.data.toList)↔wrK k0=k':=⟨fun e=>ByteArray.ext (Array.toList_inj.1 e),fun e=>by rw [e];rfl⟩;simp only [e3,get_1 h];rfl
 have hrt:=It.rt_app hr.rt hrc;clear hC;generalize app L C=M at *;have hcls:∀ x,x∈M↔x=⟨Fi.kI i,enI n'⟩∨x=⟨wrK k0,nB i 4⟩∨(x∈L∧x.k≠Fi.kI i):=by
  intro x;obtain⟨a,b⟩:=x;rw [← get_some hrt,hget];by_cases e1:wrK k0=a
  ·subst e1;rw [if_pos rfl];constructor
   ·intro e;cases e;exact .inr (.inl rfl)
   ·rintro (e | e | e)
    ·exact absurd (congrArg Itm.k e).symm hne
    ·cases e;rfl
    ·exact absurd rfl (hnew _ e.1)
  ·rw [if_neg e1];by_cases e2:Fi.kI i=a
   ·subst e2;rw [if_pos rfl];constructor
    ·intro e;cases e;exact .inl rfl
    ·rintro (e | e | e)
     ·cases e;rfl
     ·exact absurd (congrArg Itm.k e).symm e1
     ·exact absurd rfl e.2
   ·rw [if_neg e2,get_some hr.rt];constructor
    ·intro e;exact .inr (.inr ⟨e,fun e3=>e2 e3.symm⟩)
    ·rintro (e | e | e)
     ·exact absurd (congrArg Itm.k e).symm e2
     ·exact absurd (congrArg Itm.k e).symm e1
     ·exact e.1
 have hokM:∀ x∈M,okX x=true:=fun x hx=>by
  have hge:2≤i:=by omega
  rcases (hcls x).1 hx with rfl | rfl | ⟨h3,_⟩
  ·exact okX_I hi1 hi ho hl
  ·exact okX_E hge hi hk lk h2
  ·exact hr.ok x h3
 have hx1:(⟨Fi.kI i,enI n'⟩:Itm)∈M:=(hcls _).2 (.inl rfl);have hx2:(⟨wrK k0,nB i 4⟩:Itm)∈M:=(hcls _).2 (.inr (.inl rfl));have hinoi:(vo (pts M)).ino i=some n':=by
  rw [ino_all hrt hokM,if_pos ⟨hi1,hi⟩,(get_some hrt).2 hx1,Option.map_some,(chI_yes ho).2,(deI_back hl ho).1]
 have hino:∀ j,j≠i→(vo (pts M)).ino j=(vo (pts L)).ino j:=by
  intro j hj;rw [ino_all hrt hokM,ino_all hr.rt hr.ok];by_cases hj1:1≤j∧j<4294967296
  ·have e1:deK (Fi.kI j)=Di.kI j:=by rw [kI_wr hj1.1];exact (deK_back (kI_lim hj1.2) (kI_ok hj1.1)).1
   rw [if_pos hj1,if_pos hj1,hget,if_neg,if_neg]
   ·intro e;rw [e,e1] at hkI;exact hj (congrArg Ky.I hkI)
   ·intro e;rw [← e,hd0] at e1;rw [e1] at h2;exact absurd (show (1:Nat)=2 from h2) (by decide)
  ·rw [if_neg hj1,if_neg hj1]
 have henk:(vo (pts M)).ent k0=some i:=by
  rw [ent_get hrt hokM hk lk h2,(get_some hrt).2 hx2,Option.map_some,hnum]
 have hEx:∀ x∈L,(deK x.k).K=2→(vo (pts M)).ent (deK x.k)=some (numOf x.v):=fun x hx hx2=>by
  have hxM:x∈M:=(hcls x).2 (.inr (.inr ⟨hx,fun e=>by
   rw [e,hkI] at hx2;exact absurd (show (1:Nat)=2 from hx2) (by decide)⟩))
  obtain⟨a,b,c,_⟩:=key_of h hx;rw [ent_get hrt hokM a c hx2,b,(get_some hrt).2 (show (⟨x.k,x.v⟩:Itm)∈M from hxM)];rfl
 have hent:∀ k,k≠k0→(vo (pts M)).ent k=(vo (pts L)).ent k:=by
  intro k hkk;cases e:(vo (pts L)).ent k with
  | some j =>
   obtain⟨q,hq,q2,q3,q4⟩:=ent_of _ e;obtain⟨x,hx,rfl⟩:=pts_mem hq;have q3':deK x.k=k:=q3;rw [← q3',hEx x hx q2,q4];rfl
  | none =>
   cases e2:(vo (pts M)).ent k with
   | none=>rfl
   | some j =>
    obtain⟨q,hq,q2,q3,q4⟩:=ent_of _ e2;obtain⟨x,hx,rfl⟩:=pts_mem hq;have q3':deK x.k=k:=q3;have q2':(deK x.k).K=2:=q2;rcases (hcls x).1 hx with rfl | rfl | ⟨h3,_⟩
    ·dsimp only at q2';rw [hkI] at q2';exact absurd (show (1:Nat)=2 from q2') (by decide)
    ·dsimp only at q3';rw [hd0] at q3';exact absurd q3'.symm hkk
    ·have:=ent_item h h3 q2';rw [q3',e] at this;cases this
 -- entries: those of L,and one more
 have hN1:∀ j,(vo (pts (M.filter fun x=>decide (x.k≠wrK k0)))).nmd j=(vo (pts L)).nmd j∧(vo (pts (M.filter fun x=>decide (x.k≠wrK k0)))).abv j=(vo (pts L)).abv j:=fun j=>by
  have e:(M.filter fun x=>decide (x.k≠wrK k0)).filter (fun x=>decide (x.k≠Fi.kI i))=L.filter (fun x=>decide (x.k≠Fi.kI i)) :=
   It.up_ext (UpK.sub (UpK.sub (rt_up hrt).1 List.filter_sublist) List.filter_sublist) (UpK.sub (rgt_up h) List.filter_sublist) fun x=>by
    rw [List.mem_filter,List.mem_filter,List.mem_filter,decide_eq_true_iff,decide_eq_true_iff,hcls];constructor
    ·rintro ⟨⟨rfl | rfl | e,e2⟩,e3⟩
     ·exact absurd rfl e3
     ·exact absurd rfl e2
     ·exact e
    ·rintro ⟨e1,e2⟩;exact⟨⟨.inr (.inr ⟨e1,e2⟩),hnew x e1⟩,e2⟩
  have hno:∀ x:Itm,decide (x.k≠Fi.kI i)=false→(deK x.k).K=2→numOf x.v≠j:=fun x hx hx2=>by
   have e5:x.k=Fi.kI i:=by simpa using hx
   rw [e5,hkI] at hx2;exact absurd (show (1:Nat)=2 from hx2) (by decide)
  have a:=fil_same (fun x=>decide (x.k≠Fi.kI i)) j (M.filter fun x=>decide (x.k≠wrK k0)) fun x _=>hno x
  have b:=fil_same (fun x=>decide (x.k≠Fi.kI i)) j L fun x _=>hno x
  rw [e] at a;exact⟨a.1.symm.trans b.1,a.2.symm.trans b.2⟩
 have hsame:∀ j,j≠i→(vo (pts M)).nmd j=(vo (pts L)).nmd j∧(vo (pts M)).abv j=(vo (pts L)).abv j:=fun j hj=>by
  have a:=fil_same (fun x=>decide (x.k≠wrK k0)) j M fun x hx hf hx2 e=>by
   have e5:x.k=wrK k0:=by simpa using hf
   rcases (hcls x).1 hx with rfl | rfl | ⟨h3,_⟩
   ·exact hne e5
   ·exact hj (e.symm.trans hnum)
   ·exact hnew x h3 e5
  exact⟨a.1.symm.trans (hN1 j).1,a.2.symm.trans (hN1 j).2⟩
 have hnmL:(vo (pts L)).nmd i=n.L:=by
  obtain⟨q,hq,q1,qi,qn⟩:=ino_of _ hn;have:=stray_1 (hr.str q hq) q1 (by rw [qi];exact hn);rw [qi] at this;exact this.resolve_left hi0
 have hst:(vo (pts M)).nmd i=n'.L:=by
  have e1:=(hN1 i).1;rw [hnmL,nmd_cnt] at e1;rw [nmd_cnt,List.countP_eq_countP_filter_add M _ (fun x=>decide (x.k≠wrK k0))];have e2:(M.filter fun x=>!decide (x.k≠wrK k0)).countP (fun x:Itm=>decide ((deK x.k).K=2)&&decide (numOf x.v=i))=1:=by
   refine filter_one (b:=⟨wrK k0,nB i 4⟩) (UpK.sub (rt_up hrt).1 List.filter_sublist) (List.mem_filter.2 ⟨hx2,by simp⟩) ?_ fun a ha _=>?_
   ·dsimp only;rw [hd0,decide_eq_true h2,decide_eq_true hnum];rfl
   ·obtain⟨b1,b2⟩:=List.mem_filter.1 ha;have e5:a.k=wrK k0:=by simpa using b2
    rcases (hcls a).1 b1 with rfl | rfl | ⟨h3,_⟩
    ·exact absurd e5 hne
    ·rfl
    ·exact absurd e5 (hnew a h3)
  rw [e2,hL'];omega
 refine⟨rgt_iff.2 ⟨hrt,hokM,?_,fun q hq=>?_,?_⟩,hrc,hinoi,henk,hino,hent,hget⟩
 ·unfold kind;rw [hino 1 (fun e=>hi0 e.symm)];exact hr.root
 ·obtain⟨x,hx,rfl⟩:=pts_mem hq;rcases (hcls x).1 hx with rfl | rfl | ⟨hxL,hx1⟩
  ·refine stray_of_1 (n:=n') ?_ ?_ (.inr ?_)
   ·show (deK (Fi.kI i)).K=1
    rw [hkI];rfl
   ·show (vo (pts M)).ino (deK (Fi.kI i)).I=some n'
    rw [hkI];exact hinoi
   ·show (vo (pts M)).nmd (deK (Fi.kI i)).I=n'.L
    rw [hkI];exact hst
  ·unfold stray;have e1:(ptOf (⟨wrK k0,nB i 4⟩:Itm)).k=k0:=hd0;rw [e1,hino _ hki,hd];dsimp only;rw [if_neg (by omega),if_pos h2,henk,Option.getD_some,hinoi,hm];rfl
  ·have h3:=hr.str (ptOf x) (List.mem_map.2 ⟨x,hxL,rfl⟩);have hnn2:∀ j,((vo (pts M)).ino j).isNone=((vo (pts L)).ino j).isNone:=fun j=>by
    by_cases e:j=i
    ·rw [e,hinoi,hn];rfl
    ·rw [hino j e]
   have hE2:(ptOf x).k.K=2→(vo (pts M)).ent (ptOf x).k=(vo (pts L)).ent (ptOf x).k:=fun e=>(hEx x hxL e).trans (ent_item h hxL e).symm
   by_cases hI:(ptOf x).k.I=i
   ·have e1:¬ (ptOf x).k.K=1:=fun e=>by
     obtain⟨a,b,c,_⟩:=key_of h hxL;obtain⟨e5,_⟩:=kI_of a e;have hI':(deK x.k).I=i:=hI;refine hx1 ?_;rw [← b,e5,hI',kI_wr hi1]
    have h4:stray (vo (pts M)) (ptOf x)=stray (vo (pts L)) (ptOf x):=by
     unfold stray;rw [hI,hinoi,hn];dsimp only;rw [if_neg e1,if_neg e1,hK',hS',hnn2];by_cases e2:(ptOf x).k.K=2
     ·rw [if_pos e2,if_pos e2,hE2 e2]
     ·rw [if_neg e2,if_neg e2]
    rw [h4];exact h3
   ·have h4:stray (vo (pts M)) (ptOf x)=stray (vo (pts L)) (ptOf x):=by
     unfold stray;rw [hino _ hI];cases (vo (pts L)).ino (ptOf x).k.I with
     | none=>rfl
     | some m =>
      dsimp only;rw [(hsame _ hI).1,hnn2];by_cases e2:(ptOf x).k.K=2
      ·rw [hE2 e2]
      ·rw [if_neg e2,if_neg e2]
    rw [h4];exact h3
 ·have hupL:∀ k j,j≠i→up (vo (pts L)) k j=1→up (vo (pts M)) k j=1:=by
   intro k;induction k with
   | zero=>intro j _ e;exact e
   | succ k ih =>
    intro j hji e;show up _ k ((vo (pts M)).abv j)=1
    rw [(hsame j hji).2];refine ih _ (fun e2=>?_) e;obtain⟨q,hq,q1,_,q3⟩:=abv_of (pts L) (i:=j) (by rw [e2];omega);have:=(stray_2 (hr.str q hq) q1).1;unfold kind at this;rw [← q3,e2,hn] at this;exact hK1 this
  intro j m' hj hm';have hji:j≠i:=fun e=>by
   rw [e,hinoi] at hj;rw [← Option.some.inj hj,hK'] at hm';exact hK1 hm'
  rw [hino j hji] at hj;obtain⟨k,hk2⟩:=hr.ups j m' hj hm';exact⟨k,hupL k j hji hk2⟩
variable {L M:List Itm}{s s':Vo}{C:List Ch}{p:ByteArray}
theorem ent_x (h:rgt L=true){i:Nat}{k0:Ky}(hk:okK k0=true) (lk:k0.lim) (h2:k0.K=2) (he:(vo (pts L)).ent k0=some i):∃ v0,(⟨wrK k0,v0⟩:Itm)∈L∧numOf v0=i∧2≤i:=by
 have hr:=rgt_iff.1 h;obtain⟨v0,hv0,hnum⟩:∃ v,get L (wrK k0)=some v∧numOf v=i:=by
  have:=ent_get hr.rt hr.ok hk lk h2;rw [he] at this;cases hg:get L (wrK k0) with
  | none=>rw [hg] at this;cases this
  | some v=>rw [hg] at this;exact⟨v,rfl,(Option.some.inj this).symm⟩
 have hx0:=(get_some hr.rt).1 hv0;refine⟨v0,hx0,hnum,?_⟩;have:=okP_2 (p:=ptOf ⟨wrK k0,v0⟩) (key_of h hx0).2.2.2 (by show (deK (wrK k0)).K=2;rw [(deK_back lk hk).1];exact h2);have h3:2≤numOf v0:=this.2.2;omega
theorem get_2 (hu:UpK key L) (k k2 k':ByteArray) (b b2:Bool) (v v2:ByteArray):get (app L [⟨k,b,v⟩,⟨k2,b2,v2⟩]) k'=if k2=k' then (if b2 then some v2 else none) else if k=k' then (if b then some v else none) else get L k':=by
 have e:app L [⟨k,b,v⟩,⟨k2,b2,v2⟩]=app (app L [⟨k,b,v⟩]) [⟨k2,b2,v2⟩]:=rfl;have hu2:UpK key (app L [⟨k,b,v⟩]):=up_app _ hu;rw [e,app_cons,app_nil,get_don hu2,app_cons,app_nil,get_don hu];have e3:(ckey (⟨k2,b2,v2⟩:Ch)=k'.data.toList)↔k2=k':=⟨fun e=>ByteArray.ext (Array.toList_inj.1 e),fun e=>by rw [e];rfl⟩;have e4:(ckey (⟨k,b,v⟩:Ch)=k'.data.toList)↔k=k':=⟨fun e=>ByteArray.ext (Array.toList_inj.1 e),fun e=>by rw [e];rfl⟩;simp only [e3,e4]
theorem unl_right (h:rgt L=true){i:Nat}{n n':In}(hn:(vo (pts L)).ino i=some n) (hK1:n.K≠1) (hL:2≤n.L) (hnn:n'={ n with L:=n.L-1 }){k0:Ky}(hk:okK k0=true) (lk:k0.lim) (h2:k0.K=2) (he:(vo (pts L)).ent k0=some i)
  (hC:C=[⟨wrK k0,false,ByteArray.empty⟩,kept n' i]):rgt (app L C)=true∧rc C=true∧(vo (pts (app L C))).ino i=some n'∧(∀ j,j≠i→(vo (pts (app L C))).ino j=(vo (pts L)).ino j)∧(∀ k,k≠k0→(vo (pts (app L C))).ent k=(vo (pts L)).ent k)∧(vo (pts (app L C))).ent k0=none∧(∀ j,j≠i→(vo (pts (app L C))).abv j=(vo (pts L)).abv j):=by
 have hr:=rgt_iff.1 h;obtain⟨hi1,hi,hi3,hi4⟩:=ino_num h hn;obtain⟨v0,hx0,hnum,hi2⟩:=ent_x h hk lk h2 he;have ho:okI n'=true:=by
  rw [hnn];rw [okI_iff] at hi3 ⊢;dsimp only;rcases hi3 with ⟨a,_⟩ | ⟨a,b,c⟩ | ⟨a,b,c⟩
  ·exact absurd a hK1
  ·exact .inr (.inl ⟨a,by omega,c⟩)
  ·exact .inr (.inr ⟨a,by omega,c⟩)
 have hl:n'.lim:=by
  rw [hnn];exact⟨hi4.1,hi4.2.1,by show n.L-1<4294967296;have:=hi4.2.2.1;omega,hi4.2.2.2⟩
 have hK':n'.K=n.K:=by rw [hnn]
 have hS':n'.S=n.S:=by rw [hnn]
 have hL':n'.L=n.L-1:=by rw [hnn]
 have hlim:=hi4.2.2.1;have hd0:deK (wrK k0)=k0:=(deK_back lk hk).1;have hkI:deK (Fi.kI i)=Di.kI i:=by rw [kI_wr hi1];exact (deK_back (kI_lim hi) (kI_ok hi1)).1
 have hsz:(enI n').size≤160:=by
  rw [(chI_yes ho).2,wrI_size _ (by have:=(okI_size ho).1;omega)];have:=(okI_size ho).1;omega
 have hrc:rc C=true:=by
  have e1:=rc_one (kI_ok hi1) true (enI n') hsz (fun h=>by cases h);have e2:=okC_gone hk;rw [hC];unfold rc kept at *;rw [List.all_cons,List.all_nil,Bool.and_true] at e1;rw [List.all_cons,List.all_cons,List.all_nil,Bool.and_true,Bool.and_eq_true];exact⟨e2,by rw [kI_wr hi1];exact e1⟩
 have hne:Fi.kI i≠wrK k0:=fun e=>by
  rw [e,hd0] at hkI;rw [hkI] at h2;exact absurd (show (1:Nat)=2 from h2) (by decide)
 have hget:∀ k',get (app L C) k'=if Fi.kI i=k' then some (enI n') else if wrK k0=k' then none else get L k':=fun k'=>by
  rw [hC];unfold kept;rw [get_2 (rgt_up h)];rfl
 have hrt:=It.rt_app hr.rt hrc;clear hC;generalize app L C=M at *;have hcls:∀ x,x∈M↔x=⟨Fi.kI i,enI n'⟩∨(x∈L∧x.k≠Fi.kI i∧x.k≠wrK k0):=by
  intro x;obtain⟨a,b⟩:=x;rw [← get_some hrt,hget];by_cases e2:Fi.kI i=a
  ·subst e2;rw [if_pos rfl];constructor
   ·intro e;cases e;exact .inl rfl
   ·rintro (e | e)
    ·cases e;rfl
    ·exact absurd rfl e.2.1
  ·rw [if_neg e2];by_cases e1:wrK k0=a
   ·subst e1;rw [if_pos rfl];constructor
    ·intro e;cases e
    ·rintro (e | e)
     ·exact absurd (congrArg Itm.k e).symm e2
     ·exact absurd rfl e.2.2
   ·rw [if_neg e1,get_some hr.rt];constructor
    ·intro e;exact .inr ⟨e,fun e3=>e2 e3.symm,fun e3=>e1 e3.symm⟩
    ·rintro (e | e)
     ·exact absurd (congrArg Itm.k e).symm e2
     ·exact e.1
 have hokM:∀ x∈M,okX x=true:=fun x hx=>by
  rcases (hcls x).1 hx with rfl | ⟨h3,_⟩
  ·exact okX_I hi1 hi ho hl
  ·exact hr.ok x h3
 have hx1:(⟨Fi.kI i,enI n'⟩:Itm)∈M:=(hcls _).2 (.inl rfl);have hinoi:(vo (pts M)).ino i=some n':=by
  rw [ino_all hrt hokM,if_pos ⟨hi1,hi⟩,(get_some hrt).2 hx1,Option.map_some,(chI_yes ho).2,(deI_back hl ho).1]
 have hino:∀ j,j≠i→(vo (pts M)).ino j=(vo (pts L)).ino j:=by
  intro j hj;rw [ino_all hrt hokM,ino_all hr.rt hr.ok];by_cases hj1:1≤j∧j<4294967296
  ·have e1:deK (Fi.kI j)=Di.kI j:=by rw [kI_wr hj1.1];exact (deK_back (kI_lim hj1.2) (kI_ok hj1.1)).1
   rw [if_pos hj1,if_pos hj1,hget,if_neg,if_neg]
   ·intro e;rw [← e,hd0] at e1;rw [e1] at h2;exact absurd (show (1:Nat)=2 from h2) (by decide)
   ·intro e;rw [e,e1] at hkI;exact hj (congrArg Ky.I hkI)
  ·rw [if_neg hj1,if_neg hj1]
 have hEx:∀ x∈L,(deK x.k).K=2→x.k≠wrK k0→(vo (pts M)).ent (deK x.k)=some (numOf x.v):=fun x hx hx2 hx3=>by
  have hxM:x∈M:=(hcls x).2 (.inr ⟨hx,fun e=>by
   rw [e,hkI] at hx2;exact absurd (show (1:Nat)=2 from hx2) (by decide),hx3⟩)
  obtain⟨a,b,c,_⟩:=key_of h hx;rw [ent_get hrt hokM a c hx2,b,(get_some hrt).2 (show (⟨x.k,x.v⟩:Itm)∈M from hxM)];rfl
 have henk:(vo (pts M)).ent k0=none:=by
  rw [ent_get hrt hokM hk lk h2,hget,if_neg hne,if_pos rfl];rfl
 have hent:∀ k,k≠k0→(vo (pts M)).ent k=(vo (pts L)).ent k:=by
  intro k hkk;cases e:(vo (pts L)).ent k with
  | some j =>
   obtain⟨q,hq,q2,q3,q4⟩:=ent_of _ e;obtain⟨x,hx,rfl⟩:=pts_mem hq;have q3':deK x.k=k:=q3;rw [← q3',hEx x hx q2 (fun e9=>hkk (by rw [← q3',e9,hd0])),q4];rfl
  | none =>
   cases e2:(vo (pts M)).ent k with
   | none=>rfl
   | some j =>
    obtain⟨q,hq,q2,q3,q4⟩:=ent_of _ e2;obtain⟨x,hx,rfl⟩:=pts_mem hq;have q3':deK x.k=k:=q3;have q2':(deK x.k).K=2:=q2;rcases (hcls x).1 hx with rfl | ⟨h3,_⟩
    ·dsimp only at q2';rw [hkI] at q2';exact absurd (show (1:Nat)=2 from q2') (by decide)
    ·have:=ent_item h h3 q2';rw [q3',e] at this;cases this
 have hN1:∀ j,(vo (pts M)).nmd j=(vo (pts (L.filter fun x=>decide (x.k≠wrK k0)))).nmd j∧(vo (pts M)).abv j=(vo (pts (L.filter fun x=>decide (x.k≠wrK k0)))).abv j:=fun j=>by
  have e:(L.filter fun x=>decide (x.k≠wrK k0)).filter (fun x=>decide (x.k≠Fi.kI i))=M.filter (fun x=>decide (x.k≠Fi.kI i)) :=
   It.up_ext (UpK.sub (UpK.sub (rgt_up h) List.filter_sublist) List.filter_sublist) (UpK.sub (rt_up hrt).1 List.filter_sublist) fun x=>by
    rw [List.mem_filter,List.mem_filter,List.mem_filter,decide_eq_true_iff,decide_eq_true_iff,hcls];constructor
    ·rintro ⟨⟨e1,e2⟩,e3⟩;exact⟨.inr ⟨e1,e3,e2⟩,e3⟩
    ·rintro ⟨rfl | ⟨e1,e2,e4⟩,e3⟩
     ·exact absurd rfl e3
     ·exact⟨⟨e1,e4⟩,e3⟩
  have hno:∀ x:Itm,decide (x.k≠Fi.kI i)=false→(deK x.k).K=2→numOf x.v≠j:=fun x hx hx2=>by
   have e5:x.k=Fi.kI i:=by simpa using hx
   rw [e5,hkI] at hx2;exact absurd (show (1:Nat)=2 from hx2) (by decide)
  have a:=fil_same (fun x=>decide (x.k≠Fi.kI i)) j (L.filter fun x=>decide (x.k≠wrK k0)) fun x _=>hno x
  have b:=fil_same (fun x=>decide (x.k≠Fi.kI i)) j M fun x _=>hno x
  rw [e] at a;exact⟨b.1.symm.trans a.1,b.2.symm.trans a.2⟩
 have hone:∀ x∈L,x.k=wrK k0→x=⟨wrK k0,v0⟩:=fun x hx e=>key_once hr.rt hx hx0 e
 have hsame:∀ j,j≠i→(vo (pts M)).nmd j=(vo (pts L)).nmd j∧(vo (pts M)).abv j=(vo (pts L)).abv j:=fun j hj=>by
  have a:=fil_same (fun x=>decide (x.k≠wrK k0)) j L fun x hx hf hx2 e=>by
   have e5:x.k=wrK k0:=by simpa using hf
   rw [hone x hx e5] at e;exact hj (e.symm.trans hnum)
  exact⟨(hN1 j).1.trans a.1,(hN1 j).2.trans a.2⟩
 have hi0:i≠1:=by omega
 have hnmL:(vo (pts L)).nmd i=n.L:=by
  obtain⟨q,hq,q1,qi,qn⟩:=ino_of _ hn;have:=stray_1 (hr.str q hq) q1 (by rw [qi];exact hn);rw [qi] at this;exact this.resolve_left hi0
 have hst:(vo (pts M)).nmd i=n'.L:=by
  rw [(hN1 i).1,nmd_cnt,hL'];rw [nmd_cnt,List.countP_eq_countP_filter_add L _ (fun x=>decide (x.k≠wrK k0))] at hnmL;have e2:(L.filter fun x=>!decide (x.k≠wrK k0)).countP (fun x:Itm=>decide ((deK x.k).K=2)&&decide (numOf x.v=i))=1:=by
   refine filter_one (b:=⟨wrK k0,v0⟩) (UpK.sub (rgt_up h) List.filter_sublist) (List.mem_filter.2 ⟨hx0,by simp⟩) ?_ fun a ha _=>?_
   ·dsimp only;rw [hd0,decide_eq_true h2,decide_eq_true hnum];rfl
   ·obtain⟨b1,b2⟩:=List.mem_filter.1 ha;exact hone a b1 (by simpa using b2)
  rw [e2] at hnmL;omega
 refine⟨rgt_iff.2 ⟨hrt,hokM,?_,fun q hq=>?_,?_⟩,hrc,hinoi,hino,hent,henk,fun j hj=>(hsame j hj).2⟩
 ·unfold kind;rw [hino 1 (fun e=>hi0 e.symm)];exact hr.root
 ·obtain⟨x,hx,rfl⟩:=pts_mem hq;rcases (hcls x).1 hx with rfl | ⟨hxL,hx1,hx3⟩
  ·refine stray_of_1 (n:=n') ?_ ?_ (.inr ?_)
   ·show (deK (Fi.kI i)).K=1
    rw [hkI];rfl
   ·show (vo (pts M)).ino (deK (Fi.kI i)).I=some n'
    rw [hkI];exact hinoi
   ·show (vo (pts M)).nmd (deK (Fi.kI i)).I=n'.L
    rw [hkI];exact hst
  ·have h3:=hr.str (ptOf x) (List.mem_map.2 ⟨x,hxL,rfl⟩);have hnn2:∀ j,((vo (pts M)).ino j).isNone=((vo (pts L)).ino j).isNone:=fun j=>by
    by_cases e:j=i
    ·rw [e,hinoi,hn];rfl
    ·rw [hino j e]
   have hE2:(ptOf x).k.K=2→(vo (pts M)).ent (ptOf x).k=(vo (pts L)).ent (ptOf x).k:=fun e=>(hEx x hxL e hx3).trans (ent_item h hxL e).symm
   by_cases hI:(ptOf x).k.I=i
   ·have e1:¬ (ptOf x).k.K=1:=fun e=>by
     obtain⟨a,b,c,_⟩:=key_of h hxL;obtain⟨e5,_⟩:=kI_of a e;have hI':(deK x.k).I=i:=hI;refine hx1 ?_;rw [← b,e5,hI',kI_wr hi1]
    have h4:stray (vo (pts M)) (ptOf x)=stray (vo (pts L)) (ptOf x):=by
     unfold stray;rw [hI,hinoi,hn];dsimp only;rw [if_neg e1,if_neg e1,hK',hS',hnn2];by_cases e2:(ptOf x).k.K=2
     ·rw [if_pos e2,if_pos e2,hE2 e2]
     ·rw [if_neg e2,if_neg e2]
    rw [h4];exact h3
   ·have h4:stray (vo (pts M)) (ptOf x)=stray (vo (pts L)) (ptOf x):=by
     unfold stray;rw [hino _ hI];cases (vo (pts L)).ino (ptOf x).k.I with
     | none=>rfl
     | some m =>
      dsimp only;rw [(hsame _ hI).1,hnn2];by_cases e2:(ptOf x).k.K=2
      ·rw [hE2 e2]
      ·rw [if_neg e2,if_neg e2]
    rw [h4];exact h3
 ·have hupL:∀ k j,j≠i→up (vo (pts L)) k j=1→up (vo (pts M)) k j=1:=by
   intro k;induction k with
   | zero=>intro j _ e;exact e
   | succ k ih =>
    intro j hji e;show up _ k ((vo (pts M)).abv j)=1
    rw [(hsame j hji).2];refine ih _ (fun e2=>?_) e;obtain⟨q,hq,q1,_,q3⟩:=abv_of (pts L) (i:=j) (by rw [e2];omega);have:=(stray_2 (hr.str q hq) q1).1;unfold kind at this;rw [← q3,e2,hn] at this;exact hK1 this
  intro j m' hj hm';have hji:j≠i:=fun e=>by
   rw [e,hinoi] at hj;rw [← Option.some.inj hj,hK'] at hm';exact hK1 hm'
  rw [hino j hji] at hj;obtain⟨k,hk2⟩:=hr.ups j m' hj hm';exact⟨k,hupL k j hji hk2⟩
variable {L M:List Itm}{s s':Vo}{C:List Ch}{p:ByteArray}
theorem move_right (h:rgt L=true) (hlen:L.length<4294967296){i:Nat}{n m:In}(hn:(vo (pts L)).ino i=some n){kp kq:Ky}(hkp:okK kp=true) (lkp:kp.lim) (hp2:kp.K=2) (hep:(vo (pts L)).ent kp=some i) (hkq:okK kq=true) (lkq:kq.lim) (hq2:kq.K=2) (heq:(vo (pts L)).ent kq=none)
  (hd:(vo (pts L)).ino kq.I=some m) (hm:m.K=1) (hnu:n.K=1→¬ Und (vo (pts L)) kq.I i) (hC:C=[⟨wrK kp,false,ByteArray.empty⟩,⟨wrK kq,true,nB i 4⟩]):rgt (app L C)=true∧rc C=true:=by
 have hr:=rgt_iff.1 h;obtain⟨hi1,hi,hi3,hi4⟩:=ino_num h hn;obtain⟨v0,hx0,hnum0,hi2⟩:=ent_x h hkp lkp hp2 hep;obtain⟨hnum,hnE,hnR,hnS⟩:=nB4 hi;have hdp:deK (wrK kp)=kp:=(deK_back lkp hkp).1;have hdq:deK (wrK kq)=kq:=(deK_back lkq hkq).1;have hpq:kp≠kq:=fun e=>by rw [e,heq] at hep;cases hep
 have hpq2:wrK kp≠wrK kq:=fun e=>hpq (by rw [← hdp,e,hdq])
 have hrc:rc C=true:=by
  have e2:=rc_one hkq true (nB i 4) (by omega) (fun h=>by cases h);have e1:=okC_gone hkp;rw [hC];unfold rc at *;rw [List.all_cons,List.all_nil,Bool.and_true] at e2;rw [List.all_cons,List.all_cons,List.all_nil,Bool.and_true,Bool.and_eq_true];exact⟨e1,e2⟩
 have hget:∀ k',get (app L C) k'=if wrK kq=k' then some (nB i 4) else if wrK kp=k' then none else get L k':=fun k'=>by
  rw [hC,get_2 (rgt_up h)];rfl
 have hnq:∀ x∈L,x.k≠wrK kq:=fun x hx e=>by
  have:=ent_item h hx (by rw [e,hdq];exact hq2);rw [e,hdq,heq] at this;cases this
 have hrt:=It.rt_app hr.rt hrc;clear hC;generalize app L C=M at *;have hcls:∀ x,x∈M↔x=⟨wrK kq,nB i 4⟩∨(x∈L∧x.k≠wrK kp):=by
  intro x;obtain⟨a,b⟩:=x;rw [← get_some hrt,hget];by_cases e2:wrK kq=a
  ·subst e2;rw [if_pos rfl];constructor
   ·intro e;cases e;exact .inl rfl
   ·rintro (e | e)
    ·cases e;rfl
    ·exact absurd rfl (hnq _ e.1)
  ·rw [if_neg e2];by_cases e1:wrK kp=a
   ·subst e1;rw [if_pos rfl];constructor
    ·intro e;cases e
    ·rintro (e | e)
     ·exact absurd (congrArg Itm.k e).symm e2
     ·exact absurd rfl e.2
   ·rw [if_neg e1,get_some hr.rt];constructor
    ·intro e;exact .inr ⟨e,fun e3=>e1 e3.symm⟩
    ·rintro (e | e)
     ·exact absurd (congrArg Itm.k e).symm e2
     ·exact e.1
 have hokM:∀ x∈M,okX x=true:=fun x hx=>by
  rcases (hcls x).1 hx with rfl | ⟨h3,_⟩
  ·exact okX_E hi2 hi hkq lkq hq2
  ·exact hr.ok x h3
 have hxq:(⟨wrK kq,nB i 4⟩:Itm)∈M:=(hcls _).2 (.inl rfl);have hino:∀ j,(vo (pts M)).ino j=(vo (pts L)).ino j:=by
  intro j;rw [ino_all hrt hokM,ino_all hr.rt hr.ok];by_cases hj1:1≤j∧j<4294967296
  ·have e1:deK (Fi.kI j)=Di.kI j:=by rw [kI_wr hj1.1];exact (deK_back (kI_lim hj1.2) (kI_ok hj1.1)).1
   rw [if_pos hj1,if_pos hj1,hget,if_neg,if_neg]
   ·intro e;rw [← e,hdp] at e1;rw [e1] at hp2;exact absurd (show (1:Nat)=2 from hp2) (by decide)
   ·intro e;rw [← e,hdq] at e1;rw [e1] at hq2;exact absurd (show (1:Nat)=2 from hq2) (by decide)
  ·rw [if_neg hj1,if_neg hj1]
 have hEx:∀ x∈L,(deK x.k).K=2→x.k≠wrK kp→(vo (pts M)).ent (deK x.k)=some (numOf x.v):=fun x hx hx2 hx3=>by
  obtain⟨a,b,c,_⟩:=key_of h hx;rw [ent_get hrt hokM a c hx2,b,(get_some hrt).2 (show (⟨x.k,x.v⟩:Itm)∈M from (hcls x).2 (.inr ⟨hx,hx3⟩))];rfl
 have henq:(vo (pts M)).ent kq=some i:=by
  rw [ent_get hrt hokM hkq lkq hq2,(get_some hrt).2 hxq,Option.map_some,hnum]
 -- those that are in both
 have hE:M.filter (fun x=>decide (x.k≠wrK kq))=L.filter (fun x=>decide (x.k≠wrK kp)) :=
  It.up_ext (UpK.sub (rt_up hrt).1 List.filter_sublist) (UpK.sub (rgt_up h) List.filter_sublist) fun x=>by
   rw [List.mem_filter,List.mem_filter,decide_eq_true_iff,decide_eq_true_iff,hcls];constructor
   ·rintro ⟨rfl | e1,e3⟩
    ·exact absurd rfl e3
    ·exact e1
   ·rintro ⟨e1,e2⟩;exact⟨.inr ⟨e1,e2⟩,hnq x e1⟩
 have hone:∀ x∈L,x.k=wrK kp→x=⟨wrK kp,v0⟩:=fun x hx e=>key_once hr.rt hx hx0 e
 have honeM:∀ x∈M,x.k=wrK kq→x=⟨wrK kq,nB i 4⟩:=fun x hx e=>by
  rcases (hcls x).1 hx with e1 | e1
  ·exact e1
  ·exact absurd e (hnq x e1.1)
 have hsame:∀ j,j≠i→(vo (pts M)).nmd j=(vo (pts L)).nmd j∧(vo (pts M)).abv j=(vo (pts L)).abv j:=fun j hj=>by
  have a:=fil_same (fun x=>decide (x.k≠wrK kp)) j L fun x hx hf hx2 e=>by
   rw [hone x hx (by simpa using hf)] at e;exact hj (e.symm.trans hnum0)
  have b:=fil_same (fun x=>decide (x.k≠wrK kq)) j M fun x hx hf hx2 e=>by
   rw [honeM x hx (by simpa using hf)] at e;exact hj (e.symm.trans hnum)
  rw [hE] at b;exact⟨b.1.symm.trans a.1,b.2.symm.trans a.2⟩
 have hst:(vo (pts M)).nmd i=(vo (pts L)).nmd i:=by
  rw [nmd_cnt,nmd_cnt,List.countP_eq_countP_filter_add M _ (fun x=>decide (x.k≠wrK kq)),List.countP_eq_countP_filter_add L _ (fun x=>decide (x.k≠wrK kp)),hE];have e1:(M.filter fun x=>!decide (x.k≠wrK kq)).countP (fun x:Itm=>decide ((deK x.k).K=2)&&decide (numOf x.v=i))=1:=by
   refine filter_one (b:=⟨wrK kq,nB i 4⟩) (UpK.sub (rt_up hrt).1 List.filter_sublist) (List.mem_filter.2 ⟨hxq,by simp⟩) ?_ fun a ha _=>?_
   ·dsimp only;rw [hdq,decide_eq_true hq2,decide_eq_true hnum];rfl
   ·obtain⟨b1,b2⟩:=List.mem_filter.1 ha;exact honeM a b1 (by simpa using b2)
  have e2:(L.filter fun x=>!decide (x.k≠wrK kp)).countP (fun x:Itm=>decide ((deK x.k).K=2)&&decide (numOf x.v=i))=1:=by
   refine filter_one (b:=⟨wrK kp,v0⟩) (UpK.sub (rgt_up h) List.filter_sublist) (List.mem_filter.2 ⟨hx0,by simp⟩) ?_ fun a ha _=>?_
   ·dsimp only;rw [hdp,decide_eq_true hp2,decide_eq_true hnum0];rfl
   ·obtain⟨b1,b2⟩:=List.mem_filter.1 ha;exact hone a b1 (by simpa using b2)
  rw [e1,e2]
 have hnm:∀ j,(vo (pts M)).nmd j=(vo (pts L)).nmd j:=fun j=>by
  by_cases e:j=i
  ·rw [e,hst]
  ·exact (hsame j e).1
 have hkd:∀ j,kind (vo (pts M)) j=kind (vo (pts L)) j:=fun j=>by unfold kind;rw [hino j]
 refine⟨rgt_iff.2 ⟨hrt,hokM,?_,fun q hq=>?_,?_⟩,hrc⟩
 ·rw [hkd];exact hr.root
 ·obtain⟨x,hx,rfl⟩:=pts_mem hq;rcases (hcls x).1 hx with rfl | ⟨hxL,hx1⟩
  ·unfold stray;have e1:(ptOf (⟨wrK kq,nB i 4⟩:Itm)).k=kq:=hdq;rw [e1,hino,hd];dsimp only;rw [if_neg (by omega),if_pos hq2,henq,Option.getD_some,hino,hn,hm];rfl
  ·have h3:=hr.str (ptOf x) (List.mem_map.2 ⟨x,hxL,rfl⟩);have h4:stray (vo (pts M)) (ptOf x)=stray (vo (pts L)) (ptOf x):=by
    unfold stray;rw [hino];cases (vo (pts L)).ino (ptOf x).k.I with
    | none=>rfl
    | some m =>
     dsimp only;rw [hnm];by_cases e2:(ptOf x).k.K=2
     ·have a3:(vo (pts L)).ent (ptOf x).k=some (numOf x.v):=ent_item h hxL e2;have a4:(vo (pts M)).ent (ptOf x).k=some (numOf x.v):=hEx x hxL e2 hx1;rw [a3,a4,hino]
     ·rw [if_neg e2,if_neg e2]
   rw [h4];exact h3
 ·-- going up
  have hgo:∀ k d,up (vo (pts L)) k d=1→(∀ t,t≤k→up (vo (pts L)) t d≠i)→up (vo (pts M)) k d=1:=by
   intro k;induction k with
   | zero=>intro d e _;exact e
   | succ k ih =>
    intro d e ha;show up _ k ((vo (pts M)).abv d)=1
    rw [(hsame d (ha 0 (by omega))).2];exact ih _ e fun t ht=>ha (t+1) (by omega)
  have hUi:n.K=1→Up (vo (pts M)) i:=fun hK=>by
   obtain⟨k,k1,k2⟩:=first_one (hr.ups _ _ hd hm);have hno:∀ t,t≤k→up (vo (pts L)) t kq.I≠i:=fun t ht e=>by
    by_cases e5:t=k
    ·rw [e5,k1] at e;omega
    ·exact hnu hK ⟨t,e,fun j hj=>k2 j (by omega)⟩
   have hL1:=okI_dir hi3 hK;have hnmL:(vo (pts L)).nmd i=1:=by
    obtain⟨q,hq,q1,qi,qn⟩:=ino_of _ hn;have:=stray_1 (hr.str q hq) q1 (by rw [qi];exact hn);rw [qi] at this;rw [this.resolve_left (by omega),hL1]
   have habv:(vo (pts M)).abv i=kq.I:=by
    obtain⟨q,hq,q1,q2,q3⟩:=nmd_of (pts M) (i:=i) (by rw [hst,hnmL];decide);obtain⟨x,hx,rfl⟩:=pts_mem hq;rw [q3];have q1':(deK x.k).K=2:=q1;have q2':numOf x.v=i:=q2;show (deK x.k).I=kq.I
    rcases (hcls x).1 hx with rfl | ⟨h3,h4⟩
    ·dsimp only;rw [hdq]
    ·exfalso;rw [nmd_cnt,List.countP_eq_countP_filter_add L _ (fun x=>decide (x.k≠wrK kp))] at hnmL;have c1:0<(L.filter fun x=>decide (x.k≠wrK kp)).countP (fun x:Itm=>decide ((deK x.k).K=2)&&decide (numOf x.v=i)) :=
      List.countP_pos_iff.2 ⟨x,List.mem_filter.2 ⟨h3,decide_eq_true h4⟩,by rw [decide_eq_true q1',decide_eq_true q2'];rfl⟩
     have c2:0<(L.filter fun x=>!decide (x.k≠wrK kp)).countP (fun x:Itm=>decide ((deK x.k).K=2)&&decide (numOf x.v=i)) :=
      List.countP_pos_iff.2 ⟨⟨wrK kp,v0⟩,List.mem_filter.2 ⟨hx0,by simp⟩,by dsimp only;rw [hdp,decide_eq_true hp2,decide_eq_true hnum0];rfl⟩
     have c3:=List.countP_le_length (p:=fun x:Itm=>decide ((deK x.k).K=2)&&decide (numOf x.v=i)) (l:=L);have c4:=List.countP_eq_countP_filter_add L (fun x:Itm=>decide ((deK x.k).K=2)&&decide (numOf x.v=i)) (fun x=>decide (x.k≠wrK kp));omega
   refine⟨k+1,?_⟩;show up _ k ((vo (pts M)).abv i)=1
   rw [habv];exact hgo k _ k1 hno
  have hall:∀ k j,j≠i∨n.K=1→up (vo (pts L)) k j=1→Up (vo (pts M)) j:=by
   intro k;induction k with
   | zero=>intro j _ e;exact⟨0,e⟩
   | succ k ih =>
    intro j hj e;by_cases hji:j=i
    ·rw [hji];exact hUi (hj.resolve_left (fun e=>e hji))
    ·have h5:Up (vo (pts M)) ((vo (pts L)).abv j):=by
      refine ih _ ?_ e;by_cases hK:n.K=1
      ·exact .inr hK
      ·refine .inl fun e2=>?_
       obtain⟨q,hq,q1,_,q3⟩:=abv_of (pts L) (i:=j) (by rw [e2];omega);have:=(stray_2 (hr.str q hq) q1).1;unfold kind at this;rw [← q3,e2,hn] at this;exact hK this
     rw [← (hsame j hji).2] at h5;exact Up.of_up (k:=1) h5
  intro j m' hj hm';rw [hino j] at hj;obtain⟨k,hk2⟩:=hr.ups j m' hj hm';refine hall k j ?_ hk2;by_cases e:j=i
  ·right;rw [e,hn] at hj;rw [Option.some.inj hj];exact hm'
  ·exact .inl e
variable {L M:List Itm}{s s':Vo}{C:List Ch}{p:ByteArray}
theorem pl_at (h:rgt L=true) (hx:plX L p=0):∃ (k0:Ky) (m:In),okK k0=true∧k0.lim∧k0.K=2∧(pl L p).k=wrK k0∧(pl L p).d=k0.I∧(vo (pts L)).ino k0.I=some m∧m.K=1∧((pl L p).i=0→(vo (pts L)).ent k0=none)∧((pl L p).i≠0→(vo (pts L)).ent k0=some (pl L p).i):=by
 obtain⟨h1,h2,h3,h4⟩:=pl_yes hx;obtain⟨g1,g2,g3⟩:=la_all h1;obtain⟨m,hm,_⟩:=wlk_some h h2;obtain⟨m1,m2,_,_⟩:=ino_num h hm;have hK:okK ⟨2,(wlk L true (laD p)).1,laN p,0⟩=true:=okK_iff.2 ⟨m1,.inr (.inl ⟨.inl rfl,g3,rfl⟩)⟩;have hlim:Ky.lim ⟨2,(wlk L true (laD p)).1,laN p,0⟩:=⟨show (2:Nat)<256 by decide,m2,show (0:Nat)<4294967296 by decide⟩;have hi:(pl L p).i=((vo (pts L)).ent ⟨2,(wlk L true (laD p)).1,laN p,0⟩).getD 0:=by
  rw [h4];exact enn_ent h hK hlim rfl
 have hkd:m.K=1:=by
  rw [nd_some h hm] at h3;exact h3
 refine⟨_,m,hK,hlim,rfl,by rw [h4];exact (chK_yes hK).2,by rw [h4];rfl,hm,hkd,fun hz=>?_,fun hz=>?_⟩
 ·cases e:(vo (pts L)).ent ⟨2,(wlk L true (laD p)).1,laN p,0⟩ with
  | none=>rfl
  | some j =>
   rw [hz,e] at hi;obtain⟨q,hq⟩:=Option.isSome_iff_exists.1 (ent_ino h _ _ e);have:=(ino_num h hq).1;have hi':0=j:=hi;omega
 ·cases e:(vo (pts L)).ent ⟨2,(wlk L true (laD p)).1,laN p,0⟩ with
  | none=>rw [e] at hi;exact absurd hi hz
  | some j=>rw [e] at hi;rw [hi];rfl
theorem let_right (h:rgt L=true) (hlen:L.length<4294967296){w:Nat}{n:In}{pw:Pl}{k0:Ky}(hn:(vo (pts L)).ino w=some n) (hk:okK k0=true) (lk:k0.lim) (h2:k0.K=2) (he:(vo (pts L)).ent k0=some w) (hpw:pw.i=w) (hpk:pw.k=wrK k0) (hb:n.K=1→busy L w=false) :
  rgt (app L (letGo L pw))=true∧rc (letGo L pw)=true∧(∀ j,j≠w→(vo (pts (app L (letGo L pw)))).ino j=(vo (pts L)).ino j)∧(∀ j,j≠w→(vo (pts (app L (letGo L pw)))).abv j=(vo (pts L)).abv j)∧(vo (pts (app L (letGo L pw)))).ent k0=none ∧
  (∀ k,k≠k0→okK k=true→k.lim→k.K=2→k.I≠w→(vo (pts (app L (letGo L pw)))).ent k=(vo (pts L)).ent k)∧(app L (letGo L pw)).length≤L.length+2∧(∀ x∈L,(deK x.k).K=2→(deK x.k).I≠w):=by
 have hr:=rgt_iff.1 h;obtain⟨i1,i2,i3,i4⟩:=ino_num h hn;have hnoent:∀ x∈L,(deK x.k).K=2→(deK x.k).I≠w:=fun x hx e1 e2=>by
  have:=(stray_2 (hr.str (ptOf x) (List.mem_map.2 ⟨x,hx,rfl⟩)) e1).1;unfold kind at this;rw [show (ptOf x).k.I=w from e2,hn] at this;have hK:n.K=1:=this;have hbz:=hb hK;rw [(busy_iff h i1 i2).2 ⟨x,hx,e1,e2⟩] at hbz;cases hbz
 have hL1:1≤n.L:=by
  rw [okI_iff] at i3;omega
 have hlg:letGo L pw=if less n.L=0 then gn L w++[⟨wrK k0,false,ByteArray.empty⟩] else [⟨wrK k0,false,ByteArray.empty⟩,kept { n with L:=less n.L } w]:=by
  unfold letGo isFree;rw [hpw,nd_some h hn,hpk]
 have hls:less n.L=n.L-1:=by
  have:=i4.2.2.1;unfold less;omega
 rw [hls] at hlg;have hdk:deK (wrK k0)=k0:=(deK_back lk hk).1;by_cases hL:n.L-1=0
 ·rw [if_pos hL] at hlg;obtain⟨r1,r2,r3,r4,r5,r6,r7⟩:=rm_right1 h hlen hn (by omega) hk lk h2 he hnoent hlg;refine⟨r1,r3,r5,r6,?_,fun k q1 q2 q3 q4 q5=>?_,by omega,hnoent⟩
  ·have hM:=rgt_iff.1 r1;rw [ent_get hM.rt hM.ok hk lk h2,(get_none hM.rt).2 fun x hx e=>((r7 x).1 hx).2.2 e];rfl
  ·have hM:=rgt_iff.1 r1;rw [ent_get hM.rt hM.ok q2 q3 q4,ent_get hr.rt hr.ok q2 q3 q4,get_same hr.rt hM.rt];intro v;rw [r7];have e1:=(deK_back q3 q2).1;exact⟨fun e=>e.1,fun e=>⟨e,by show (deK (wrK k)).I≠w;rw [e1];exact q5,fun e2=>q1 (by rw [← e1,show wrK k=wrK k0 from e2,hdk])⟩⟩
 ·rw [if_neg hL] at hlg;have hK1:n.K≠1:=fun e=>by
   have:=okI_dir i3 e;omega
  obtain⟨r1,r2,r3,r4,r5,r6,r7⟩:=unl_right h hn hK1 (by omega) rfl hk lk h2 he hlg;refine⟨r1,r2,r4,r7,r6,fun k q1 _ _ _ _=>r5 k q1,?_,hnoent⟩;rw [hlg];exact app_len _ _
theorem rename_right (h:rgt L=true) (hlen:L.length<4294967000){o:Op}(hx:rnX L o=0):rgt (app L (rnC L o))=true∧rc (rnC L o)=true∧(app L (rnC L o)).length≤L.length+4:=by
 have hr:=rgt_iff.1 h;unfold rnX at hx;have e1:nmX L o.P=0:=by
  by_cases e:nmX L o.P=0
  ·exact e
  ·rw [if_pos e] at hx;exact absurd hx e
 rw [if_neg (by rw [e1];decide)] at hx;have e2:plX L o.T=0:=by
  by_cases e:plX L o.T=0
  ·exact e
  ·rw [if_pos e] at hx;exact absurd hx e
 rw [if_neg (by rw [e2];decide)] at hx;cases hu:undr L (pl L o.T).d (pl L o.P).i with
 | true=>rw [hu,if_pos rfl] at hx;cases hx
 | false =>
 rw [hu,if_neg (by decide)] at hx;have e3:plX L o.P=0∧(pl L o.P).i≠0:=by
  unfold nmX at e1;by_cases hc:plX L o.P=0∧(pl L o.P).i=0
  ·rw [if_pos hc] at e1;cases e1
  ·rw [if_neg hc] at e1;exact⟨e1,fun e=>hc ⟨e1,e⟩⟩
 obtain⟨kp,mp,p1,p2,p3,p4,p5,p6,p7,_,p8⟩:=pl_at h e3.1;obtain⟨kq,mq,q1,q2,q3,q4,q5,q6,q7,q8,q9⟩:=pl_at h e2;have hep:=p8 e3.2;obtain⟨n,hn⟩:=Option.isSome_iff_exists.1 (ent_ino h _ _ hep);have hnu:¬ Und (vo (pts L)) kq.I (pl L o.P).i:=by
  rw [← q5];unfold undr at hu;exact @of_decide_eq_false _ (Classical.propDecidable _) hu
 unfold rnC;by_cases c1:(pl L o.T).i=(pl L o.P).i
 ·rw [if_pos c1];exact⟨h,rfl,by show L.length≤_;omega⟩
 rw [if_neg c1] at hx;rw [if_neg c1];by_cases c2:(pl L o.T).i=0
 ·rw [if_pos c2];have hC:([]:List Ch)++[isFree (pl L o.P),names (pl L o.T) (pl L o.P).i]=[⟨wrK kp,false,ByteArray.empty⟩,⟨wrK kq,true,nB (pl L o.P).i 4⟩]:=by
   unfold isFree names;rw [p4,q4];rfl
  rw [hC];obtain⟨r1,r2⟩:=move_right h (by omega) hn p1 p2 p3 hep q1 q2 q3 (q8 c2) q6 q7 (fun _=>hnu) rfl;exact⟨r1,r2,Nat.le_trans (app_len _ _) (by simp only [List.length_cons,List.length_nil];omega)⟩
 rw [if_neg c2] at hx;rw [if_neg c2];have heq:=q9 c2;obtain⟨nw,hnw⟩:=Option.isSome_iff_exists.1 (ent_ino h _ _ heq);have hbz:nw.K=1→busy L (pl L o.T).i=false:=fun hK=>by
  have hisd:isD L (pl L o.T).i=true:=by
   unfold isD;rw [nd_some h hnw];exact decide_eq_true hK
  unfold rpX at hx;rw [hisd] at hx;cases hb:busy L (pl L o.T).i with
  | false=>rfl
  | true =>
   rw [hb] at hx;revert hx;cases isD L (pl L o.P).i<;>decide
 obtain⟨w1,w2,w3,w4,w5,w6,w7,w8⟩:=let_right h (by omega) hnw q1 q2 q3 heq rfl q4 hbz;rw [It.app_append];have hC:[isFree (pl L o.P),names (pl L o.T) (pl L o.P).i]=[⟨wrK kp,false,ByteArray.empty⟩,⟨wrK kq,true,nB (pl L o.P).i 4⟩]:=by
  unfold isFree names;rw [p4,q4]
 have hent_I:∀ {k:Ky}{j:Nat},okK k=true→k.lim→k.K=2→(vo (pts L)).ent k=some j→k.I≠(pl L o.T).i:=fun {k j} a b c d=>by
  obtain⟨v0,hx0,_,_⟩:=ent_x h a b c d;have:=w8 _ hx0 (by dsimp only;rw [(deK_back b a).1];exact c);dsimp only at this;rw [(deK_back b a).1] at this;exact this
 have hpI:=hent_I p1 p2 p3 hep;have hqI:=hent_I q1 q2 q3 heq;have hpq:kp≠kq:=fun e=>by
  rw [e,heq] at hep;exact c1 (Option.some.inj hep)
 have hup:∀ t,up (vo (pts L)) t kq.I≠(pl L o.T).i∧up (vo (pts (app L (letGo L (pl L o.T))))) t kq.I=up (vo (pts L)) t kq.I:=fun t=>by
  induction t with
  | zero =>
   refine⟨hqI,?_⟩;show kq.I=kq.I
   rfl
  | succ t ih =>
   rw [up_succ,up_succ,ih.2,w4 _ ih.1];refine⟨fun e=>?_,rfl⟩;obtain⟨x,hx,x1,_,x3⟩:=abv_of (pts L) (i:=up (vo (pts L)) t kq.I) (by rw [e];exact c2);obtain⟨y,hy,rfl⟩:=pts_mem hx;exact w8 y hy x1 (x3.symm.trans e)
 obtain⟨r1,r2⟩:=move_right (C:=[isFree (pl L o.P),names (pl L o.T) (pl L o.P).i]) w1 (by omega) ((w3 _ (fun e=>c1 e.symm)).trans hn) p1 p2 p3 ((w6 kp hpq p1 p2 p3 hpI).trans hep) q1 q2 q3 w5 ((w3 _ hqI).trans q6) q7 (fun _ hU=>by
  obtain⟨k,k1,k2⟩:=hU;rw [(hup k).2] at k1;exact hnu ⟨k,k1,fun j hj=>by rw [← (hup j).2];exact k2 j hj⟩) hC
 refine⟨r1,?_,?_⟩
 ·unfold rc at *;rw [List.all_append,w2,r2];rfl
 ·refine Nat.le_trans (app_len _ _) ?_;simp only [List.length_cons,List.length_nil];omega
open Da (chs cky kyC kyC_ok kyC_lim cky_parse cky_inj wrD ctD btC rdC rdC_len rdC_get rdV rdE wrE ec CnO zb bo wrL ctL rdV_of rdE_of ec_ok ov kpC)
variable {L M D:List Itm}{s s':Vo}{C:List Ch}{p:ByteArray}
end Go.Proofs.YtopepebcnaikiaaGreatDoor.Fi
namespace Go.Proofs.YtopepebcnaikiaaGreatDoor.Fi
open Lib (hid)
open Ino
open It (Itm Ch get und app dif rt rc key ckey UpK get_iff rt_iff rt_up don mem_app mem_don up_app itm get_don app_cons app_nil okC okKey)
open Di
open Pk (nB)
open Ph (nb spX spB laX laD laN la_ok la_err la_none)
variable {L M:List Itm}{s s':Vo}{C:List Ch}{p a b:ByteArray}
theorem fnf_0 {fo:Bool}(h:fnX L p fo=0):ldX L p fo=0∧(ldN L p fo).K≠1:=by
 unfold fnX at h;by_cases hc:ldX L p fo=0∧(ldN L p fo).K=1
 ·rw [if_pos hc] at h;cases h
 ·rw [if_neg hc] at h;exact⟨h,fun e=>hc ⟨h,e⟩⟩
open Da (chs cky kyC kyC_ok kyC_lim cky_parse cky_inj wrD ctD btC rdC rdV rdE wrE ec CnO zb bo wrL ctL)
variable {L M:List Itm}{s s':Vo}{C:List Ch}{p:ByteArray}
theorem wrL_few (D:List Da.Ck) (I:Nat):∀ (N:Nat) (b:List UInt8) (p:Nat),b.length≤N→(wrL D I p b).length≤(p%128+b.length+127) / 128:=by
 intro N;induction N with
 | zero =>
  intro b p hb;have:b=[]:=List.eq_nil_of_length_eq_zero (by omega);subst this;rw [Da.wrL_nil];exact Nat.zero_le _
 | succ N ih =>
  intro b p hb;by_cases hbe:b=[]
  ·subst hbe;rw [Da.wrL_nil];exact Nat.zero_le _
  have hb0:0<b.length:=List.length_pos_iff.2 hbe;obtain⟨n,hn⟩:∃ n,min b.length (128-p%128)=n:=⟨_,rfl⟩;rw [Da.wrL_go hbe rfl rfl hn,List.length_append];have h1:=ih (b.drop n) (p+n) (by rw [List.length_drop];omega);rw [List.length_drop] at h1;have h2:(if Da.eqH (Da.nwC (Da.fnd D I (p / 128)) (p%128) (b.take n)) (Da.akC (Da.fnd D I (p / 128))) then ([]:List Ch) else [Da.nwC (Da.fnd D I (p / 128)) (p%128) (b.take n)]).length≤1:=by split<;>simp
  by_cases hl:n=b.length
  ·have h3:(wrL D I (p+n) (b.drop n)).length=0:=by
    rw [show b.drop n=[] from List.drop_of_length_le (by omega),Da.wrL_nil];rfl
   omega
  ·omega
theorem makes_right (h:rgt L=true) (hlen:L.length<4294967000){o:Op}(hk:makes o) (ho:o.lim) (h1:chX L o=0):rgt (app L (chC L o))=true∧rc (chC L o)=true∧(chC L o).length≤2:=by
 obtain⟨n1,n2,n3,n4⟩:=nwI_is ho;obtain⟨c1,c2⟩:=mk_ch (L:=L) hk;rw [c1] at h1;unfold crX at h1;have hf:frX L o.P=0:=by
  by_cases e:frX L o.P=0
  ·exact e
  ·rw [if_pos e] at h1;exact absurd h1 e
 rw [if_neg (by rw [hf];decide)] at h1;have hok:okI (nwI o)=true:=by
  cases e:okI (nwI o) with
  | true=>rfl
  | false=>rw [(chI_no e).1] at h1;cases h1
 obtain⟨k0,m,a1,a2,a3,a4,a5,a6,a7,a8,a9,a10⟩:=fr_at h hf;obtain⟨j,hj⟩:=nx_ex (L:=L) (by omega);have hnx:=nxt_of hj;obtain⟨j1,j2,j3,j4⟩:=hj;have hC:chC L o=[kept (nwI o) j,⟨wrK k0,true,nB j 4⟩]:=by
  rw [c2];unfold crC names;rw [hnx,a7]
 obtain⟨b1,b2,_⟩:=mk_right h j1 j2 j3 hok n1 n3 a1 a2 (by rw [a3]) a4 a5 a6 hC;refine⟨b1,b2,?_⟩;rw [hC];exact Nat.le_refl _
theorem hard_rgt (h:rgt L=true){o:Op}(h1:hdX L o=0):rgt (app L (hdC L o))=true∧rc (hdC L o)=true:=by
 unfold hdX at h1;have hf:fnX L o.P false=0:=by
  by_cases e:fnX L o.P false=0
  ·exact e
  ·rw [if_pos e] at h1;exact absurd h1 e
 rw [if_neg (by rw [hf];decide)] at h1;have hlt:(ldN L o.P false).L<1024:=by
  by_cases e:1024≤(ldN L o.P false).L
  ·rw [if_pos e] at h1;cases h1
  ·exact Nat.lt_of_not_le e
 rw [if_neg (by omega)] at h1;obtain⟨q1,q2⟩:=fnf_0 hf;obtain⟨n,hn,_⟩:=ld_some h q1;have hN:ldN L o.P false=n:=by
  unfold ldN;rw [if_pos q1];exact nd_some h hn
 rw [hN] at hlt q2;obtain⟨k0,m,a1,a2,a3,a4,a5,a6,a7,a8,a9,a10⟩:=fr_at h h1;have hC:hdC L o=[kept { n with L:=n.L+1 } (ldI L o.P false),⟨wrK k0,true,nB (ldI L o.P false) 4⟩]:=by
  unfold hdC names;rw [hN,a7]
 obtain⟨b1,b2,_⟩:=hard_right h hn q2 hlt rfl a1 a2 (by rw [a3]) a4 a5 a6 hC;exact⟨b1,b2⟩
theorem wt_rgt (h:rgt L=true){o:Op}(h1:wtX L o=0):rgt (app L (wtC L o))=true∧rc (wtC L o)=true∧(wtC L o).length≤600:=by
 unfold wtX at h1;have hf:fnX L o.P true=0:=by
  by_cases e:fnX L o.P true=0
  ·exact e
  ·rw [if_pos e] at h1;exact absurd h1 e
 rw [if_neg (by rw [hf];decide)] at h1;obtain⟨n,hn,hK,hN,hS⟩:=fl_at h hf;obtain⟨hi1,hi2,_,_⟩:=ino_num h hn;obtain⟨e1,e2⟩:=Da.wrE_zero h1;have hr:=(rgt_iff.1 h).rt;have hlen:o.D.data.toList.length=o.D.size:=Da.bsl o.D;have hp:o.O+o.D.data.toList.length≤65536:=by omega
 obtain⟨c1,c2⟩:=Da.wrD_rt hr hi1 hi2 hp;have hz:wtS L o=if o.D.size=0 then n.S else max n.S (o.O+o.D.size):=by
  unfold wtS;rw [hN]
 have hz1:n.S≤wtS L o:=by rw [hz];split<;>omega
 have hz2:0<o.D.size→o.O+o.D.size≤wtS L o:=fun hb=>by rw [hz,if_neg (by omega)];omega
 have hz3:wtS L o≤65536:=by rw [hz];split<;>omega
 have happ:app L (wtC L o)=app (wrD L (ldI L o.P true) o.O o.D.data.toList) [kept { ldN L o.P true with S:=wtS L o } (ldI L o.P true)]:=by unfold wtC;rw [It.app_append];rfl
 obtain⟨r1,r2⟩:=put_told (M:=app L (wtC L o)) (p:=o.P) h hf hz3 c2 (fun K hK'=>Da.wrD_far hr hi1 hi2 hp fun k hk=>hK' k (by have:=hk.2.2;omega)) (fun k hk=>by
   by_cases ht:Da.Tch o.O o.D.data.toList.length k
   ·exact Da.wrD_cn hr hi1 hi2 hp ht
   ·rw [Da.wrD_far hr hi1 hi2 hp (fun k' hk' e=>ht (by
     have h9:k'<512:=by have:=hk'.2.2;omega
     rw [(cky_inj hi1 hi2 hi1 hi2 hk h9 e).2];exact hk'))]
    exact cn_of h hn hk) (fun P hP hb=>by
   rw [Da.wrD_bt hr hi1 hi2 hp hP] at hb;split at hb
   ·have:=hz2 (by omega);omega
   ·exact Nat.lt_of_lt_of_le (bt_in h hn hP hb) hz1)
 refine⟨(r2 happ).1,by unfold wtC;exact rc_snoc c1 r1,?_⟩;have:=wrL_few (chs L (ldI L o.P true)) (ldI L o.P true) o.D.data.toList.length o.D.data.toList o.O (Nat.le_refl _);unfold wtC;rw [List.length_append];simp only [List.length_cons,List.length_nil];omega
theorem cu_rgt (h:rgt L=true){o:Op}(h1:cuX L o=0):rgt (app L (cuC L o))=true∧rc (cuC L o)=true∧(cuC L o).length≤600:=by
 unfold cuX at h1;have hf:fnX L o.P true=0:=by
  by_cases e:fnX L o.P true=0
  ·exact e
  ·rw [if_pos e] at h1;exact absurd h1 e
 rw [if_neg (by rw [hf];decide)] at h1;obtain⟨n,hn,hK,hN,hS⟩:=fl_at h hf;obtain⟨hi1,hi2,_,_⟩:=ino_num h hn;have hr:=(rgt_iff.1 h).rt;have hz:o.N≤65536:=by
  unfold rdE at h1;rw [if_pos (Da.ec_ok hr hi1)] at h1;split at h1
  ·cases h1
  ·omega
 obtain⟨c1,c2⟩:=Da.ctD_rt (z:=o.N) hr hi1 hi2;have happ:app L (cuC L o)=app (ctD L (ldI L o.P true) o.N) [kept { ldN L o.P true with S:=o.N } (ldI L o.P true)]:=by unfold cuC;rw [It.app_append];rfl
 obtain⟨r1,r2⟩:=put_told (M:=app L (cuC L o)) (p:=o.P) h hf hz c2 (fun K hK'=>Da.ct_far hr hi1 hi2 fun k v hk _=>(hK' k hk).symm) (fun k hk=>by
   cases hg:get L (cky (ldI L o.P true) k) with
   | none =>
    rw [Da.ct_none hr hi1 hi2 hk hg];intro v hv;cases hv
   | some v =>
    rw [Da.ct_yes hr hi1 hi2 hk hg];split
    ·refine Da.cn_kp _ _ ?_;have:=(lk_chunk h hn hk hg).1;rw [ByteArray.size_extract];omega
    ·rw [← hg];exact cn_of h hn hk) (fun P hP hb=>by
   rw [Da.ctD_bt hr hi1 hi2 hP] at hb;split at hb
   ·assumption
   ·exact absurd rfl hb)
 refine⟨(r2 happ).1,by unfold cuC;exact rc_snoc c1 r1,?_⟩;have:=Da.ctL_len (chs L (ldI L o.P true)) o.N;have:=Da.chs_few hr hi1 hi2;unfold cuC;rw [List.length_append];simp only [List.length_cons,List.length_nil];omega
theorem mo_rgt (h:rgt L=true){o:Op}(ho:o.lim) (h1:ldX L o.P true=0):rgt (app L (moC L o))=true∧rc (moC L o)=true:=by
 obtain⟨n,hn,_⟩:=ld_some h h1;have hnd:ldN L o.P true=n:=by
  unfold ldN;rw [if_pos h1];exact nd_some h hn
 have hl:=(ino_num h hn).2.2.2;obtain⟨a,_,b,_⟩:=like_right (m:={ n with M:=o.M }) h hn rfl rfl rfl rfl ⟨hl.1,ho.2.1,hl.2.2⟩;unfold moC;rw [hnd];exact⟨a,b⟩
theorem at_rgt (h:rgt L=true){o:Op}(h1:atX L o=0) (b:Bool) (v:ByteArray) (hv:v.size≤64) (hb:b=false→v=ByteArray.empty):rgt (app L [⟨atK L o,b,v⟩])=true∧rc [(⟨atK L o,b,v⟩:Ch)]=true:=by
 obtain⟨n,hn,hb',hk⟩:=at_some h h1;rw [hk];obtain⟨x,_,y⟩:=attr_right h hn hb' b v hv hb;exact⟨x,y⟩
end Go.Proofs.YtopepebcnaikiaaGreatDoor.Fi
namespace Go.Proofs.YtopepebcnaikiaaGreatDoor.Fi
open Lib (hid)
open Ino
open It (Itm Ch get und app dif rt rc key ckey UpK get_iff rt_iff rt_up don mem_app mem_don up_app itm get_don app_cons app_nil okC okKey)
open Di
open Pk (nB)
open Ph (nb spX spB laX laD laN la_ok la_err la_none)
variable {L M:List Itm}{s s':Vo}{C:List Ch}{p:ByteArray}
theorem ul_rgt (h:rgt L=true) (hlen:L.length<4294967296) (hnm:nmX L p=0) (hb:isD L (pl L p).i=true→busy L (pl L p).i=false):rgt (app L (letGo L (pl L p)))=true∧rc (letGo L (pl L p))=true∧(app L (letGo L (pl L p))).length≤L.length+2:=by
 have e3:plX L p=0∧(pl L p).i≠0:=by
  unfold nmX at hnm;by_cases hc:plX L p=0∧(pl L p).i=0
  ·rw [if_pos hc] at hnm;cases hnm
  ·rw [if_neg hc] at hnm;exact⟨hnm,fun e=>hc ⟨hnm,e⟩⟩
 obtain⟨kp,mp,p1,p2,p3,p4,p5,p6,p7,_,p8⟩:=pl_at h e3.1;have hep:=p8 e3.2;obtain⟨n,hn⟩:=Option.isSome_iff_exists.1 (ent_ino h _ _ hep);obtain⟨w1,w2,_,_,_,_,w7,_⟩:=let_right h hlen hn p1 p2 p3 hep rfl p4 (fun hK=>hb (by
  unfold isD;rw [nd_some h hn];exact decide_eq_true hK))
 exact⟨w1,w2,w7⟩
theorem ch_right (h:rgt L=true) (hlen:L.length<4294967000){o:Op}(ho:o.lim) (h1:chX L o=0):rgt (app L (chC L o))=true∧rc (chC L o)=true∧(app L (chC L o)).length≤L.length+600:=by
 have hl:∀ C:List Ch,C.length≤600→(app L C).length≤L.length+600:=fun C hC=>Nat.le_trans (app_len _ _) (by omega)
 by_cases hm:makes o
 ·obtain⟨a,b,c⟩:=makes_right h hlen hm ho h1;exact⟨a,b,hl _ (by omega)⟩
 have k1:¬ o.K=1:=fun e=>hm (.inl e)
 have k2:¬ o.K=2:=fun e=>hm (.inr (.inl e))
 have k3:¬ o.K=3:=fun e=>hm (.inr (.inr e))
 by_cases k4:o.K=4
 ·have ex:chX L o=hdX L o:=by
   unfold chX;rw [if_neg (by omega),if_neg (by omega),if_neg (by omega),if_pos k4]
  have ec:chC L o=hdC L o:=by
   unfold chC;rw [if_neg (by omega),if_neg (by omega),if_neg (by omega),if_pos k4]
  rw [ex] at h1;rw [ec];obtain⟨a,b⟩:=hard_rgt h h1;exact⟨a,b,hl _ (by unfold hdC;simp only [List.length_cons,List.length_nil];omega)⟩
 by_cases k6:o.K=6
 ·have ex:chX L o=wtX L o:=by
   unfold chX;rw [if_neg (by omega),if_neg (by omega),if_neg (by omega),if_neg (by omega),if_pos k6]
  have ec:chC L o=wtC L o:=by
   unfold chC;rw [if_neg (by omega),if_neg (by omega),if_neg (by omega),if_neg (by omega),if_pos k6]
  rw [ex] at h1;rw [ec];obtain⟨a,b,c⟩:=wt_rgt h h1;exact⟨a,b,hl _ c⟩
 by_cases k7:o.K=7
 ·have ex:chX L o=cuX L o:=by
   unfold chX;rw [if_neg (by omega),if_neg (by omega),if_neg (by omega),if_neg (by omega),if_neg (by omega),if_pos k7]
  have ec:chC L o=cuC L o:=by
   unfold chC;rw [if_neg (by omega),if_neg (by omega),if_neg (by omega),if_neg (by omega),if_neg (by omega),if_pos k7]
  rw [ex] at h1;rw [ec];obtain⟨a,b,c⟩:=cu_rgt h h1;exact⟨a,b,hl _ c⟩
 by_cases k8:o.K=8
 ·have ex:chX L o=rnX L o:=by
   unfold chX;rw [if_neg (by omega),if_neg (by omega),if_neg (by omega),if_neg (by omega),if_neg (by omega),if_neg (by omega),if_pos k8]
  have ec:chC L o=rnC L o:=by
   unfold chC;rw [if_neg (by omega),if_neg (by omega),if_neg (by omega),if_neg (by omega),if_neg (by omega),if_neg (by omega),if_pos k8]
  rw [ex] at h1;rw [ec];obtain⟨a,b,c⟩:=rename_right h hlen h1;exact⟨a,b,by omega⟩
 by_cases k9:o.K=9
 ·have ex:chX L o=ulX L o:=by
   unfold chX;rw [if_neg (by omega),if_neg (by omega),if_neg (by omega),if_neg (by omega),if_neg (by omega),if_neg (by omega),if_neg (by omega),if_pos k9]
  have ec:chC L o=letGo L (pl L o.P):=by
   unfold chC;rw [if_neg (by omega),if_neg (by omega),if_neg (by omega),if_neg (by omega),if_neg (by omega),if_neg (by omega),if_neg (by omega),if_pos k9]
  rw [ex] at h1;rw [ec];unfold ulX at h1;have e1:nmX L o.P=0:=by
   by_cases e:nmX L o.P=0
   ·exact e
   ·rw [if_pos e] at h1;exact absurd h1 e
  rw [if_neg (by rw [e1];decide)] at h1;obtain⟨a,b,c⟩:=ul_rgt h (by omega) e1 (fun hd=>by rw [if_pos hd] at h1;cases h1);exact⟨a,b,by omega⟩
 by_cases k10:o.K=10
 ·have ex:chX L o=rmX L o:=by
   unfold chX;rw [if_neg (by omega),if_neg (by omega),if_neg (by omega),if_neg (by omega),if_neg (by omega),if_neg (by omega),if_neg (by omega),if_neg (by omega),if_pos k10]
  have ec:chC L o=letGo L (pl L o.P):=by
   unfold chC;rw [if_neg (by omega),if_neg (by omega),if_neg (by omega),if_neg (by omega),if_neg (by omega),if_neg (by omega),if_neg (by omega),if_neg (by omega),if_pos k10]
  rw [ex] at h1;rw [ec];unfold rmX at h1;have e1:nmX L o.P=0:=by
   by_cases e:nmX L o.P=0
   ·exact e
   ·rw [if_pos e] at h1;exact absurd h1 e
  rw [if_neg (by rw [e1];decide)] at h1;obtain⟨a,b,c⟩:=ul_rgt h (by omega) e1 (fun hd=>by
   rw [if_pos hd] at h1;cases hb:busy L (pl L o.P).i with
   | false=>rfl
   | true=>rw [hb] at h1;cases h1)
  exact⟨a,b,by omega⟩
 by_cases k13:o.K=13
 ·have ex:chX L o=ldX L o.P true:=by
   unfold chX;rw [if_neg (by omega),if_neg (by omega),if_neg (by omega),if_neg (by omega),if_neg (by omega),if_neg (by omega),if_neg (by omega),if_neg (by omega),if_neg (by omega),if_pos k13]
  have ec:chC L o=moC L o:=by
   unfold chC;rw [if_neg (by omega),if_neg (by omega),if_neg (by omega),if_neg (by omega),if_neg (by omega),if_neg (by omega),if_neg (by omega),if_neg (by omega),if_neg (by omega),if_pos k13]
  rw [ex] at h1;rw [ec];obtain⟨a,b⟩:=mo_rgt h ho h1;exact⟨a,b,hl _ (by unfold moC;simp only [List.length_cons,List.length_nil];omega)⟩
 by_cases k14:o.K=14
 ·have ex:chX L o=saX L o:=by
   unfold chX;rw [if_neg (by omega),if_neg (by omega),if_neg (by omega),if_neg (by omega),if_neg (by omega),if_neg (by omega),if_neg (by omega),if_neg (by omega),if_neg (by omega),if_neg (by omega),if_pos k14]
  have ec:chC L o=[⟨atK L o,true,o.D⟩]:=by
   unfold chC;rw [if_neg (by omega),if_neg (by omega),if_neg (by omega),if_neg (by omega),if_neg (by omega),if_neg (by omega),if_neg (by omega),if_neg (by omega),if_neg (by omega),if_neg (by omega),if_pos k14]
  rw [ex] at h1;rw [ec];unfold saX at h1;have e1:atX L o=0:=by
   by_cases e:atX L o=0
   ·exact e
   ·rw [if_pos e] at h1;exact absurd h1 e
  rw [if_neg (by rw [e1];decide)] at h1;have e2:o.D.size≤64:=by
   by_cases e:64<o.D.size
   ·rw [if_pos e] at h1;cases h1
   ·omega
  obtain⟨a,b⟩:=at_rgt h e1 true o.D e2 (fun e=>by cases e);exact⟨a,b,hl _ (by simp only [List.length_cons,List.length_nil];omega)⟩
 by_cases k16:o.K=16
 ·have ex:chX L o=daX L o:=by
   unfold chX;rw [if_neg (by omega),if_neg (by omega),if_neg (by omega),if_neg (by omega),if_neg (by omega),if_neg (by omega),if_neg (by omega),if_neg (by omega),if_neg (by omega),if_neg (by omega),if_neg (by omega),if_pos k16]
  have ec:chC L o=[⟨atK L o,false,ByteArray.empty⟩]:=by
   unfold chC;rw [if_neg (by omega),if_neg (by omega),if_neg (by omega),if_neg (by omega),if_neg (by omega),if_neg (by omega),if_neg (by omega),if_neg (by omega),if_neg (by omega),if_neg (by omega),if_neg (by omega),if_pos k16]
  rw [ex] at h1;rw [ec];unfold daX at h1;have e1:atX L o=0:=by
   by_cases e:atX L o=0
   ·exact e
   ·rw [if_pos e] at h1;exact absurd h1 e
  obtain⟨a,b⟩:=at_rgt h e1 false ByteArray.empty (by decide) (fun _=>rfl);exact⟨a,b,hl _ (by simp only [List.length_cons,List.length_nil];omega)⟩
 exfalso;unfold chX at h1;rw [if_neg (by omega),if_neg (by omega),if_neg (by omega),if_neg (by omega),if_neg (by omega),if_neg (by omega),if_neg (by omega),if_neg (by omega),if_neg (by omega),if_neg (by omega),if_neg (by omega),if_neg (by omega)] at h1;cases h1
theorem aft_right (h:rgt L=true) (hlen:L.length<4294967000){o:Op}(ho:o.lim):rgt (aft L o)=true∧(aft L o).length≤L.length+600:=by
 by_cases h0:dX L o=0
 ·by_cases ht:tells o
  ·rw [aft_tl ht];exact⟨h,by omega⟩
  ·have h1:=h0;rw [dX_ch h ht] at h1;obtain⟨a,b,c⟩:=ch_right h hlen ho h1;rw [aft_ch h ht h0 b];exact⟨a,c⟩
 ·rw [aft_no h0];exact⟨h,by omega⟩
theorem dC_tl (h:rgt L=true){o:Op}(ht:tells o):dC L o=[]:=by
 unfold dC;rw [if_pos ht];unfold apC;rw [if_pos (show rc []=true from rfl),show app L []=L from rfl,It.dif_self (rgt_up h)];split<;>rfl
end Go.Proofs.YtopepebcnaikiaaGreatDoor.Fi
