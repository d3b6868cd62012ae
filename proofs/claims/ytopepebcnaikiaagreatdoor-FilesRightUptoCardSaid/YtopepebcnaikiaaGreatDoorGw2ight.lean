import Derived.Test.YtopepebcnaikiaaGreatDoorGw1ight
set_option maxRecDepth 100000
set_option linter.unusedVariables false
set_option linter.unusedSimpArgs false
set_option maxRecDepth 100000
namespace Go.Proofs.YtopepebcnaikiaaGreatDoor
theorem Gw2ighta {α:Type}(l:List α)(i:Nat)(x:α):l.toArray.setIfInBounds i x=(l.set i x).toArray:=List.setIfInBounds_toArray ..
theorem Gw2ightb {α:Type}{a b:α}{l:List α}:(a::l).set 0 b=b::l:=List.set_cons_zero
theorem Gw2ightc {α:Type}{a b:α}{l:List α}{n:Nat}:(a::l).set (n+1) b=a::l.set n b:=List.set_cons_succ
end Go.Proofs.YtopepebcnaikiaaGreatDoor
namespace Go.Proofs.YtopepebcnaikiaaGreatDoor.Fi
open Lib (hid)
open Go.ChangeShapes Go.WideShapes Go.ChangeAt Go.RowKit
open BigFrame
open Ar Rg
open Ino
open It (Itm Ch get und app dif rt rc enc er getV get_any under_any apply_any diff_any MkI MkC)
open Di (ItA wlk rgt rgt_iff numOf Vo vo pts lsX lsL up En NmA Walk_any Up)
open Ph (nb spX spB laX laD laN)
open Pk (nB nE tN tR tE number_any take_any)
variable {w w' wr:World}{A:Option Addr}{n c:Nat}{L:List Itm}
theorem cok {v:Value}{D:List Ch}(h:MkC w w' v D):CPost w 0 D (.returned (.tuple #[v,.int .i64 0])) w':=⟨_,rfl,by rw [if_pos rfl];exact h⟩
set_option maxHeartbeats 1000000 in
theorem unlink_any (h:VA w A n c L) (o:Op) (ho:o.lim):Calls Tryz.prog 67 #[vV A n c,vOp o] w (CPost w (ulX L o) (letGo L (pl L o.P))):=by
 by_cases h0:nmX L o.P≠0
 ·
  have HL:=hid (fun (w1:World) (hb:Below w.heap.size w w1)=>named_any (h.go hb) o.P ho.2.2.2.2.1);unfold ulX;rw [if_pos h0];generalize nm L o.P=q at *;obtain⟨qd,qk,qi⟩:=q;generalize nmX L o.P=x at *;obtain⟨oK,oP,oT,oM,oO,oN,oD⟩:=o;try dsimp only at *
  have e5:=ne0 h0;have HE:=hid h0;clear h ho h0;have HN:=hid (two_new w #[.slice A n c] #[.int .u8 oK,.string oP,.string oT,.int .u16 oM,.int .u32 oO,.int .u32 oN,.string oD] 84 31)
  go_enter Tryz.func67,Tryz.ntmps67
  go_wp2_with fail
  try generalize ((w.alloc (.cells #[.slice A n c] 84)).alloc (.cells #[.int .u8 oK,.string oP,.string oT,.int .u16 oM,.int .u32 oO,.int .u32 oN,.string oD] 31))=w0 at *
  have Rv:=hid HN.out.1;have Ro:=hid HN.out.2.1;have B:=hid HN.out.2.2.1;clear HN;have cv0:=cl1 Rv.out;obtain⟨co0,co1,co2,co3,co4,co5,co6⟩:=cl7 Ro.out;refine (HL.out _ B.out).mono ?_;rintro e w1 ⟨rfl,hb⟩;clear cv0 co0 co1 co2 co3 co4 co5 co6;replace Rv:=gg Rv hb;replace Ro:=gg Ro hb;replace B:=gb B hb;have cv0:=cl1 Rv.out;obtain⟨co0,co1,co2,co3,co4,co5,co6⟩:=cl7 Ro.out;clear hb
  go_wp2_with (first
   | (refine new_row rfl 170 (.tmp 6) (.tmp 13) rfl rfl #[.int .u32 qd,.string qk,.int .u32 qi] rfl rfl (by kernel_rfl) rfl (row3 _ _ _) ?_;intro w2 M;clear cv0 co0 co1 co2 co3 co4 co5 co6;replace Rv:=gg Rv M.2.1;replace Ro:=gg Ro M.2.1;replace B:=gb B M.2.1;have Rq:=hid M.1;have cv0:=cl1 Rv.out;obtain⟨co0,co1,co2,co3,co4,co5,co6⟩:=cl7 Ro.out;obtain⟨cq0,cq1,cq2⟩:=cl3 Rq.out;clear M))
  go_ret2
  exact CPost.err HE.out _ B.out
 ·by_cases h1:(nd L (pl L o.P).i).K=1
  ·
   have HL:=hid (fun (w1:World) (hb:Below w.heap.size w w1)=>named_any (h.go hb) o.P ho.2.2.2.2.1);unfold ulX;rw [if_neg h0];have h0:=Decidable.not_not.1 h0;obtain⟨g1,g2,g3⟩:=nm_0 h0;rw [g1] at HL;have hlt:=(pl_lt h.rg o.P).2;have HD:=hid (fun (w1:World) (hb:Below w.heap.size w w1)=>node_any (h.go hb) (pl L o.P).i hlt);have HG:=hid (fun (w1:World) (hb:Below w.heap.size w w1)=>letGo_any (h.go hb) (pl L o.P) hlt);have HBU:=hid (fun (w1:World) (hb:Below w.heap.size w w1)=>busy_any (h.go hb) (pl L o.P).i hlt);have hD:isD L (pl L o.P).i=true:=by unfold isD;exact decide_eq_true h1
   rw [hD];clear hD;have e1:=eqK h1;try simp only [if_true,Bool.false_eq_true,if_false]
   generalize busy L (pl L o.P).i=q9 at *;generalize letGo L (pl L o.P)=D at *;generalize nd L (pl L o.P).i=m at *;generalize pl L o.P=q at *;obtain⟨qd,qk,qi⟩:=q;obtain⟨mK,mM,mL,mS,mT⟩:=m;try dsimp only [vNd] at *
   have f1:=fld0 mK mM mL mS qi mT;have f2:=fldK mK mM mL mS mT;generalize nmX L o.P=x at *;obtain⟨oK,oP,oT,oM,oO,oN,oD⟩:=o;try dsimp only at *
   subst h0;clear h ho hlt g1 g2 g3 h1;have HN:=hid (two_new w #[.slice A n c] #[.int .u8 oK,.string oP,.string oT,.int .u16 oM,.int .u32 oO,.int .u32 oN,.string oD] 84 31)
   go_enter Tryz.func67,Tryz.ntmps67
   go_wp2_with fail
   try generalize ((w.alloc (.cells #[.slice A n c] 84)).alloc (.cells #[.int .u8 oK,.string oP,.string oT,.int .u16 oM,.int .u32 oO,.int .u32 oN,.string oD] 31))=w0 at *
   have Rv:=hid HN.out.1;have Ro:=hid HN.out.2.1;have B:=hid HN.out.2.2.1;clear HN;have cv0:=cl1 Rv.out;obtain⟨co0,co1,co2,co3,co4,co5,co6⟩:=cl7 Ro.out;refine (HL.out _ B.out).mono ?_;rintro e w1 ⟨rfl,hb⟩;clear cv0 co0 co1 co2 co3 co4 co5 co6;replace Rv:=gg Rv hb;replace Ro:=gg Ro hb;replace B:=gb B hb;have cv0:=cl1 Rv.out;obtain⟨co0,co1,co2,co3,co4,co5,co6⟩:=cl7 Ro.out;clear hb
   go_wp2_with (first
    | (refine new_row rfl 170 (.tmp 6) (.tmp 13) rfl rfl #[.int .u32 qd,.string qk,.int .u32 qi] rfl rfl (by kernel_rfl) rfl (row3 _ _ _) ?_;intro w2 M;clear cv0 co0 co1 co2 co3 co4 co5 co6;replace Rv:=gg Rv M.2.1;replace Ro:=gg Ro M.2.1;replace B:=gb B M.2.1;have Rq:=hid M.1;have cv0:=cl1 Rv.out;obtain⟨co0,co1,co2,co3,co4,co5,co6⟩:=cl7 Ro.out;obtain⟨cq0,cq1,cq2⟩:=cl3 Rq.out;clear M)
    | (go_at_call 112;refine (HD.out _ B.out).mono ?_;rintro e w3 ⟨rfl,hb⟩;clear cv0 co0 co1 co2 co3 co4 co5 co6 cq0 cq1 cq2;replace Rv:=gg Rv hb;replace Ro:=gg Ro hb;replace Rq:=gg Rq hb;replace B:=gb B hb;have cv0:=cl1 Rv.out;obtain⟨co0,co1,co2,co3,co4,co5,co6⟩:=cl7 Ro.out;obtain⟨cq0,cq1,cq2⟩:=cl3 Rq.out;clear hb))
   go_ret2
   exact CPost.err (by decide) _ B.out
  ·
   have HL:=hid (fun (w1:World) (hb:Below w.heap.size w w1)=>named_any (h.go hb) o.P ho.2.2.2.2.1);unfold ulX;rw [if_neg h0];have h0:=Decidable.not_not.1 h0;obtain⟨g1,g2,g3⟩:=nm_0 h0;rw [g1] at HL;have hlt:=(pl_lt h.rg o.P).2;have HD:=hid (fun (w1:World) (hb:Below w.heap.size w w1)=>node_any (h.go hb) (pl L o.P).i hlt);have HG:=hid (fun (w1:World) (hb:Below w.heap.size w w1)=>letGo_any (h.go hb) (pl L o.P) hlt);have HBU:=hid (fun (w1:World) (hb:Below w.heap.size w w1)=>busy_any (h.go hb) (pl L o.P).i hlt);have hD:isD L (pl L o.P).i=false:=by unfold isD;exact decide_eq_false h1
   rw [hD];clear hD;have e1:=neK h1;try simp only [if_true,Bool.false_eq_true,if_false]
   generalize busy L (pl L o.P).i=q9 at *;generalize letGo L (pl L o.P)=D at *;generalize nd L (pl L o.P).i=m at *;generalize pl L o.P=q at *;obtain⟨qd,qk,qi⟩:=q;obtain⟨mK,mM,mL,mS,mT⟩:=m;try dsimp only [vNd] at *
   have f1:=fld0 mK mM mL mS qi mT;have f2:=fldK mK mM mL mS mT;generalize nmX L o.P=x at *;obtain⟨oK,oP,oT,oM,oO,oN,oD⟩:=o;try dsimp only at *
   subst h0;clear h ho hlt g1 g2 g3 h1;have HN:=hid (two_new w #[.slice A n c] #[.int .u8 oK,.string oP,.string oT,.int .u16 oM,.int .u32 oO,.int .u32 oN,.string oD] 84 31)
   go_enter Tryz.func67,Tryz.ntmps67
   go_wp2_with fail
   try generalize ((w.alloc (.cells #[.slice A n c] 84)).alloc (.cells #[.int .u8 oK,.string oP,.string oT,.int .u16 oM,.int .u32 oO,.int .u32 oN,.string oD] 31))=w0 at *
   have Rv:=hid HN.out.1;have Ro:=hid HN.out.2.1;have B:=hid HN.out.2.2.1;clear HN;have cv0:=cl1 Rv.out;obtain⟨co0,co1,co2,co3,co4,co5,co6⟩:=cl7 Ro.out;refine (HL.out _ B.out).mono ?_;rintro e w1 ⟨rfl,hb⟩;clear cv0 co0 co1 co2 co3 co4 co5 co6;replace Rv:=gg Rv hb;replace Ro:=gg Ro hb;replace B:=gb B hb;have cv0:=cl1 Rv.out;obtain⟨co0,co1,co2,co3,co4,co5,co6⟩:=cl7 Ro.out;clear hb
   go_wp2_with (first
    | (refine new_row rfl 170 (.tmp 6) (.tmp 13) rfl rfl #[.int .u32 qd,.string qk,.int .u32 qi] rfl rfl (by kernel_rfl) rfl (row3 _ _ _) ?_;intro w2 M;clear cv0 co0 co1 co2 co3 co4 co5 co6;replace Rv:=gg Rv M.2.1;replace Ro:=gg Ro M.2.1;replace B:=gb B M.2.1;have Rq:=hid M.1;have cv0:=cl1 Rv.out;obtain⟨co0,co1,co2,co3,co4,co5,co6⟩:=cl7 Ro.out;obtain⟨cq0,cq1,cq2⟩:=cl3 Rq.out;clear M)
    | (go_at_call 112;refine (HD.out _ B.out).mono ?_;rintro e w3 ⟨rfl,hb⟩;clear cv0 co0 co1 co2 co3 co4 co5 co6 cq0 cq1 cq2;replace Rv:=gg Rv hb;replace Ro:=gg Ro hb;replace Rq:=gg Rq hb;replace B:=gb B hb;have cv0:=cl1 Rv.out;obtain⟨co0,co1,co2,co3,co4,co5,co6⟩:=cl7 Ro.out;obtain⟨cq0,cq1,cq2⟩:=cl3 Rq.out;clear hb)
    | (go_at_call 111;refine (HG.out _ B.out).mono ?_;rintro e w4 ⟨v,rfl,hm⟩;have hb:=hm.2;have HM:=hid (hm.since B.out);clear cv0 co0 co1 co2 co3 co4 co5 co6 cq0 cq1 cq2;replace Rv:=gg Rv hb;replace Ro:=gg Ro hb;replace Rq:=gg Rq hb;replace B:=gb B hb;clear hm;have cv0:=cl1 Rv.out;obtain⟨co0,co1,co2,co3,co4,co5,co6⟩:=cl7 Ro.out;obtain⟨cq0,cq1,cq2⟩:=cl3 Rq.out;clear hb))
   go_ret2
   exact cok HM.out
set_option maxHeartbeats 1000000 in
theorem rmdir_any (h:VA w A n c L) (o:Op) (ho:o.lim):Calls Tryz.prog 68 #[vV A n c,vOp o] w (CPost w (rmX L o) (letGo L (pl L o.P))):=by
 by_cases h0:nmX L o.P≠0
 ·
  have HL:=hid (fun (w1:World) (hb:Below w.heap.size w w1)=>named_any (h.go hb) o.P ho.2.2.2.2.1);unfold rmX;rw [if_pos h0];generalize nm L o.P=q at *;obtain⟨qd,qk,qi⟩:=q;generalize nmX L o.P=x at *;obtain⟨oK,oP,oT,oM,oO,oN,oD⟩:=o;try dsimp only at *
  have e5:=ne0 h0;have HE:=hid h0;clear h ho h0;have HN:=hid (two_new w #[.slice A n c] #[.int .u8 oK,.string oP,.string oT,.int .u16 oM,.int .u32 oO,.int .u32 oN,.string oD] 84 31)
  go_enter Tryz.func68,Tryz.ntmps68
  go_wp2_with fail
  try generalize ((w.alloc (.cells #[.slice A n c] 84)).alloc (.cells #[.int .u8 oK,.string oP,.string oT,.int .u16 oM,.int .u32 oO,.int .u32 oN,.string oD] 31))=w0 at *
  have Rv:=hid HN.out.1;have Ro:=hid HN.out.2.1;have B:=hid HN.out.2.2.1;clear HN;have cv0:=cl1 Rv.out;obtain⟨co0,co1,co2,co3,co4,co5,co6⟩:=cl7 Ro.out;refine (HL.out _ B.out).mono ?_;rintro e w1 ⟨rfl,hb⟩;clear cv0 co0 co1 co2 co3 co4 co5 co6;replace Rv:=gg Rv hb;replace Ro:=gg Ro hb;replace B:=gb B hb;have cv0:=cl1 Rv.out;obtain⟨co0,co1,co2,co3,co4,co5,co6⟩:=cl7 Ro.out;clear hb
  go_wp2_with (first
   | (refine new_row rfl 170 (.tmp 6) (.tmp 13) rfl rfl #[.int .u32 qd,.string qk,.int .u32 qi] rfl rfl (by kernel_rfl) rfl (row3 _ _ _) ?_;intro w2 M;clear cv0 co0 co1 co2 co3 co4 co5 co6;replace Rv:=gg Rv M.2.1;replace Ro:=gg Ro M.2.1;replace B:=gb B M.2.1;have Rq:=hid M.1;have cv0:=cl1 Rv.out;obtain⟨co0,co1,co2,co3,co4,co5,co6⟩:=cl7 Ro.out;obtain⟨cq0,cq1,cq2⟩:=cl3 Rq.out;clear M))
  go_ret2
  exact CPost.err HE.out _ B.out
 ·by_cases h1:(nd L (pl L o.P).i).K=1
  ·cases h2:busy L (pl L o.P).i
   ·
    have HL:=hid (fun (w1:World) (hb:Below w.heap.size w w1)=>named_any (h.go hb) o.P ho.2.2.2.2.1);unfold rmX;rw [if_neg h0];have h0:=Decidable.not_not.1 h0;obtain⟨g1,g2,g3⟩:=nm_0 h0;rw [g1] at HL;have hlt:=(pl_lt h.rg o.P).2;have HD:=hid (fun (w1:World) (hb:Below w.heap.size w w1)=>node_any (h.go hb) (pl L o.P).i hlt);have HG:=hid (fun (w1:World) (hb:Below w.heap.size w w1)=>letGo_any (h.go hb) (pl L o.P) hlt);have HBU:=hid (fun (w1:World) (hb:Below w.heap.size w w1)=>busy_any (h.go hb) (pl L o.P).i hlt);have hD:isD L (pl L o.P).i=true:=by unfold isD;exact decide_eq_true h1
    rw [hD];clear hD;have e1:=eqK h1;try simp only [if_true,Bool.false_eq_true,if_false]
    rw [h2] at HBU ⊢;try simp only [if_true,Bool.false_eq_true,if_false]
    generalize letGo L (pl L o.P)=D at *;generalize nd L (pl L o.P).i=m at *;generalize pl L o.P=q at *;obtain⟨qd,qk,qi⟩:=q;obtain⟨mK,mM,mL,mS,mT⟩:=m;try dsimp only [vNd] at *
    have f1:=fld0 mK mM mL mS qi mT;have f2:=fldK mK mM mL mS mT;generalize nmX L o.P=x at *;obtain⟨oK,oP,oT,oM,oO,oN,oD⟩:=o;try dsimp only at *
    subst h0;clear h ho hlt g1 g2 g3 h1 h2;have HN:=hid (two_new w #[.slice A n c] #[.int .u8 oK,.string oP,.string oT,.int .u16 oM,.int .u32 oO,.int .u32 oN,.string oD] 84 31)
    go_enter Tryz.func68,Tryz.ntmps68
    go_wp2_with fail
    try generalize ((w.alloc (.cells #[.slice A n c] 84)).alloc (.cells #[.int .u8 oK,.string oP,.string oT,.int .u16 oM,.int .u32 oO,.int .u32 oN,.string oD] 31))=w0 at *
    have Rv:=hid HN.out.1;have Ro:=hid HN.out.2.1;have B:=hid HN.out.2.2.1;clear HN;have cv0:=cl1 Rv.out;obtain⟨co0,co1,co2,co3,co4,co5,co6⟩:=cl7 Ro.out;refine (HL.out _ B.out).mono ?_;rintro e w1 ⟨rfl,hb⟩;clear cv0 co0 co1 co2 co3 co4 co5 co6;replace Rv:=gg Rv hb;replace Ro:=gg Ro hb;replace B:=gb B hb;have cv0:=cl1 Rv.out;obtain⟨co0,co1,co2,co3,co4,co5,co6⟩:=cl7 Ro.out;clear hb
    go_wp2_with (first
     | (refine new_row rfl 170 (.tmp 6) (.tmp 13) rfl rfl #[.int .u32 qd,.string qk,.int .u32 qi] rfl rfl (by kernel_rfl) rfl (row3 _ _ _) ?_;intro w2 M;clear cv0 co0 co1 co2 co3 co4 co5 co6;replace Rv:=gg Rv M.2.1;replace Ro:=gg Ro M.2.1;replace B:=gb B M.2.1;have Rq:=hid M.1;have cv0:=cl1 Rv.out;obtain⟨co0,co1,co2,co3,co4,co5,co6⟩:=cl7 Ro.out;obtain⟨cq0,cq1,cq2⟩:=cl3 Rq.out;clear M)
     | (go_at_call 112;refine (HD.out _ B.out).mono ?_;rintro e w3 ⟨rfl,hb⟩;clear cv0 co0 co1 co2 co3 co4 co5 co6 cq0 cq1 cq2;replace Rv:=gg Rv hb;replace Ro:=gg Ro hb;replace Rq:=gg Rq hb;replace B:=gb B hb;have cv0:=cl1 Rv.out;obtain⟨co0,co1,co2,co3,co4,co5,co6⟩:=cl7 Ro.out;obtain⟨cq0,cq1,cq2⟩:=cl3 Rq.out;clear hb)
     | (go_at_call 113;refine (HBU.out _ B.out).mono ?_;rintro e w4 ⟨rfl,hb⟩;clear cv0 co0 co1 co2 co3 co4 co5 co6 cq0 cq1 cq2;replace Rv:=gg Rv hb;replace Ro:=gg Ro hb;replace Rq:=gg Rq hb;replace B:=gb B hb;have cv0:=cl1 Rv.out;obtain⟨co0,co1,co2,co3,co4,co5,co6⟩:=cl7 Ro.out;obtain⟨cq0,cq1,cq2⟩:=cl3 Rq.out;clear hb)
     | (go_at_call 111;refine (HG.out _ B.out).mono ?_;rintro e w5 ⟨v,rfl,hm⟩;have hb:=hm.2;have HM:=hid (hm.since B.out);clear cv0 co0 co1 co2 co3 co4 co5 co6 cq0 cq1 cq2;replace Rv:=gg Rv hb;replace Ro:=gg Ro hb;replace Rq:=gg Rq hb;replace B:=gb B hb;clear hm;have cv0:=cl1 Rv.out;obtain⟨co0,co1,co2,co3,co4,co5,co6⟩:=cl7 Ro.out;obtain⟨cq0,cq1,cq2⟩:=cl3 Rq.out;clear hb))
    go_ret2
    exact cok HM.out
   ·
    have HL:=hid (fun (w1:World) (hb:Below w.heap.size w w1)=>named_any (h.go hb) o.P ho.2.2.2.2.1);unfold rmX;rw [if_neg h0];have h0:=Decidable.not_not.1 h0;obtain⟨g1,g2,g3⟩:=nm_0 h0;rw [g1] at HL;have hlt:=(pl_lt h.rg o.P).2;have HD:=hid (fun (w1:World) (hb:Below w.heap.size w w1)=>node_any (h.go hb) (pl L o.P).i hlt);have HG:=hid (fun (w1:World) (hb:Below w.heap.size w w1)=>letGo_any (h.go hb) (pl L o.P) hlt);have HBU:=hid (fun (w1:World) (hb:Below w.heap.size w w1)=>busy_any (h.go hb) (pl L o.P).i hlt);have hD:isD L (pl L o.P).i=true:=by unfold isD;exact decide_eq_true h1
    rw [hD];clear hD;have e1:=eqK h1;try simp only [if_true,Bool.false_eq_true,if_false]
    rw [h2] at HBU ⊢;try simp only [if_true,Bool.false_eq_true,if_false]
    generalize letGo L (pl L o.P)=D at *;generalize nd L (pl L o.P).i=m at *;generalize pl L o.P=q at *;obtain⟨qd,qk,qi⟩:=q;obtain⟨mK,mM,mL,mS,mT⟩:=m;try dsimp only [vNd] at *
    have f1:=fld0 mK mM mL mS qi mT;have f2:=fldK mK mM mL mS mT;generalize nmX L o.P=x at *;obtain⟨oK,oP,oT,oM,oO,oN,oD⟩:=o;try dsimp only at *
    subst h0;clear h ho hlt g1 g2 g3 h1 h2;have HN:=hid (two_new w #[.slice A n c] #[.int .u8 oK,.string oP,.string oT,.int .u16 oM,.int .u32 oO,.int .u32 oN,.string oD] 84 31)
    go_enter Tryz.func68,Tryz.ntmps68
    go_wp2_with fail
    try generalize ((w.alloc (.cells #[.slice A n c] 84)).alloc (.cells #[.int .u8 oK,.string oP,.string oT,.int .u16 oM,.int .u32 oO,.int .u32 oN,.string oD] 31))=w0 at *
    have Rv:=hid HN.out.1;have Ro:=hid HN.out.2.1;have B:=hid HN.out.2.2.1;clear HN;have cv0:=cl1 Rv.out;obtain⟨co0,co1,co2,co3,co4,co5,co6⟩:=cl7 Ro.out;refine (HL.out _ B.out).mono ?_;rintro e w1 ⟨rfl,hb⟩;clear cv0 co0 co1 co2 co3 co4 co5 co6;replace Rv:=gg Rv hb;replace Ro:=gg Ro hb;replace B:=gb B hb;have cv0:=cl1 Rv.out;obtain⟨co0,co1,co2,co3,co4,co5,co6⟩:=cl7 Ro.out;clear hb
    go_wp2_with (first
     | (refine new_row rfl 170 (.tmp 6) (.tmp 13) rfl rfl #[.int .u32 qd,.string qk,.int .u32 qi] rfl rfl (by kernel_rfl) rfl (row3 _ _ _) ?_;intro w2 M;clear cv0 co0 co1 co2 co3 co4 co5 co6;replace Rv:=gg Rv M.2.1;replace Ro:=gg Ro M.2.1;replace B:=gb B M.2.1;have Rq:=hid M.1;have cv0:=cl1 Rv.out;obtain⟨co0,co1,co2,co3,co4,co5,co6⟩:=cl7 Ro.out;obtain⟨cq0,cq1,cq2⟩:=cl3 Rq.out;clear M)
     | (go_at_call 112;refine (HD.out _ B.out).mono ?_;rintro e w3 ⟨rfl,hb⟩;clear cv0 co0 co1 co2 co3 co4 co5 co6 cq0 cq1 cq2;replace Rv:=gg Rv hb;replace Ro:=gg Ro hb;replace Rq:=gg Rq hb;replace B:=gb B hb;have cv0:=cl1 Rv.out;obtain⟨co0,co1,co2,co3,co4,co5,co6⟩:=cl7 Ro.out;obtain⟨cq0,cq1,cq2⟩:=cl3 Rq.out;clear hb)
     | (go_at_call 113;refine (HBU.out _ B.out).mono ?_;rintro e w4 ⟨rfl,hb⟩;clear cv0 co0 co1 co2 co3 co4 co5 co6 cq0 cq1 cq2;replace Rv:=gg Rv hb;replace Ro:=gg Ro hb;replace Rq:=gg Rq hb;replace B:=gb B hb;have cv0:=cl1 Rv.out;obtain⟨co0,co1,co2,co3,co4,co5,co6⟩:=cl7 Ro.out;obtain⟨cq0,cq1,cq2⟩:=cl3 Rq.out;clear hb))
    go_ret2
    exact CPost.err (by decide) _ B.out
  ·
   have HL:=hid (fun (w1:World) (hb:Below w.heap.size w w1)=>named_any (h.go hb) o.P ho.2.2.2.2.1);unfold rmX;rw [if_neg h0];have h0:=Decidable.not_not.1 h0;obtain⟨g1,g2,g3⟩:=nm_0 h0;rw [g1] at HL;have hlt:=(pl_lt h.rg o.P).2;have HD:=hid (fun (w1:World) (hb:Below w.heap.size w w1)=>node_any (h.go hb) (pl L o.P).i hlt);have HG:=hid (fun (w1:World) (hb:Below w.heap.size w w1)=>letGo_any (h.go hb) (pl L o.P) hlt);have HBU:=hid (fun (w1:World) (hb:Below w.heap.size w w1)=>busy_any (h.go hb) (pl L o.P).i hlt);have hD:isD L (pl L o.P).i=false:=by unfold isD;exact decide_eq_false h1
   rw [hD];clear hD;have e1:=neK h1;try simp only [if_true,Bool.false_eq_true,if_false]
   generalize busy L (pl L o.P).i=q9 at *;generalize letGo L (pl L o.P)=D at *;generalize nd L (pl L o.P).i=m at *;generalize pl L o.P=q at *;obtain⟨qd,qk,qi⟩:=q;obtain⟨mK,mM,mL,mS,mT⟩:=m;try dsimp only [vNd] at *
   have f1:=fld0 mK mM mL mS qi mT;have f2:=fldK mK mM mL mS mT;generalize nmX L o.P=x at *;obtain⟨oK,oP,oT,oM,oO,oN,oD⟩:=o;try dsimp only at *
   subst h0;clear h ho hlt g1 g2 g3 h1;have HN:=hid (two_new w #[.slice A n c] #[.int .u8 oK,.string oP,.string oT,.int .u16 oM,.int .u32 oO,.int .u32 oN,.string oD] 84 31)
   go_enter Tryz.func68,Tryz.ntmps68
   go_wp2_with fail
   try generalize ((w.alloc (.cells #[.slice A n c] 84)).alloc (.cells #[.int .u8 oK,.string oP,.string oT,.int .u16 oM,.int .u32 oO,.int .u32 oN,.string oD] 31))=w0 at *
   have Rv:=hid HN.out.1;have Ro:=hid HN.out.2.1;have B:=hid HN.out.2.2.1;clear HN;have cv0:=cl1 Rv.out;obtain⟨co0,co1,co2,co3,co4,co5,co6⟩:=cl7 Ro.out;refine (HL.out _ B.out).mono ?_;rintro e w1 ⟨rfl,hb⟩;clear cv0 co0 co1 co2 co3 co4 co5 co6;replace Rv:=gg Rv hb;replace Ro:=gg Ro hb;replace B:=gb B hb;have cv0:=cl1 Rv.out;obtain⟨co0,co1,co2,co3,co4,co5,co6⟩:=cl7 Ro.out;clear hb
   go_wp2_with (first
    | (refine new_row rfl 170 (.tmp 6) (.tmp 13) rfl rfl #[.int .u32 qd,.string qk,.int .u32 qi] rfl rfl (by kernel_rfl) rfl (row3 _ _ _) ?_;intro w2 M;clear cv0 co0 co1 co2 co3 co4 co5 co6;replace Rv:=gg Rv M.2.1;replace Ro:=gg Ro M.2.1;replace B:=gb B M.2.1;have Rq:=hid M.1;have cv0:=cl1 Rv.out;obtain⟨co0,co1,co2,co3,co4,co5,co6⟩:=cl7 Ro.out;obtain⟨cq0,cq1,cq2⟩:=cl3 Rq.out;clear M)
    | (go_at_call 112;refine (HD.out _ B.out).mono ?_;rintro e w3 ⟨rfl,hb⟩;clear cv0 co0 co1 co2 co3 co4 co5 co6 cq0 cq1 cq2;replace Rv:=gg Rv hb;replace Ro:=gg Ro hb;replace Rq:=gg Rq hb;replace B:=gb B hb;have cv0:=cl1 Rv.out;obtain⟨co0,co1,co2,co3,co4,co5,co6⟩:=cl7 Ro.out;obtain⟨cq0,cq1,cq2⟩:=cl3 Rq.out;clear hb))
   go_ret2
   exact CPost.err (by decide) _ B.out
end Go.Proofs.YtopepebcnaikiaaGreatDoor.Fi
namespace Go.Proofs.YtopepebcnaikiaaGreatDoor.Fi
open Lib (hid)
open Go.ChangeShapes Go.WideShapes Go.ChangeAt Go.RowKit
open BigFrame
open Ar Rg
open Ino
open It (Itm Ch get und app dif rt rc enc er getV get_any under_any apply_any diff_any MkI MkC)
open Di (ItA wlk rgt rgt_iff numOf Vo vo pts lsX lsL up En NmA Walk_any)
open Ph (nb spX spB laX laD laN splitN lastN nameQ SpPost LaPost Nm)
open Da (wrE wrL rdE rdV ctL chs)
open Pk (nB nE tN tR tE number_any take_any)
variable {w w' wr:World}{A:Option Addr}{n c:Nat}{L:List Itm}
theorem wr_few {I o:Nat}{s:ByteArray}(h:rgt L=true) (hI:I<4294967296) (h1:wrE L I o s=0):(wrL (chs L I) I o s.data.toList).length≤1048576:=by
 have e:o+s.size≤65536:=by
  unfold wrE at h1;split at h1
  ·split at h1
   ·cases h1
   ·omega
  ·contradiction
 have h2:=Da.wrL_len (chs L I) I s.data.toList.length s.data.toList o (Nat.le_refl _);have h3:s.data.toList.length=s.size:=by rw [Array.length_toList];rfl
 omega
set_option maxHeartbeats 2000000 in
theorem write_any (h:VA w A n c L) (o:Op) (ho:o.lim):Calls Tryz.prog 64 #[vV A n c,vOp o] w (CPost w (wtX L o) (wtC L o)):=by
 by_cases h0:fnX L o.P true≠0
 ·
  have HL:=hid (fun (w1:World) (hb:Below w.heap.size w w1)=>notDir_any (h.go hb) o.P ho.2.2.2.2.1 true);unfold wtX;rw [if_pos h0];generalize fnX L o.P true=x at *;generalize fnI L o.P true=i at *;generalize fnN L o.P true=m at *;obtain⟨oK,oP,oT,oM,oO,oN,oD⟩:=o;obtain⟨mK,mM,mL,mS,mT⟩:=m;try dsimp only at *
  have e5:=ne0 h0;have HE:=hid h0;clear h ho h0;have HN:=hid (two_new w #[.slice A n c] #[.int .u8 oK,.string oP,.string oT,.int .u16 oM,.int .u32 oO,.int .u32 oN,.string oD] 84 31)
  go_enter Tryz.func64,Tryz.ntmps64
  go_wp2_with fail
  try generalize ((w.alloc (.cells #[.slice A n c] 84)).alloc (.cells #[.int .u8 oK,.string oP,.string oT,.int .u16 oM,.int .u32 oO,.int .u32 oN,.string oD] 31))=w0 at *
  have Rv:=hid HN.out.1;have Ro:=hid HN.out.2.1;have B:=hid HN.out.2.2.1;clear HN;have cv0:=cl1 Rv.out;obtain⟨co0,co1,co2,co3,co4,co5,co6⟩:=cl7 Ro.out;refine (HL.out _ B.out).mono ?_;rintro e w1 ⟨rfl,hb⟩;clear cv0 co0 co1 co2 co3 co4 co5 co6;replace Rv:=gg Rv hb;replace Ro:=gg Ro hb;replace B:=gb B hb;have cv0:=cl1 Rv.out;obtain⟨co0,co1,co2,co3,co4,co5,co6⟩:=cl7 Ro.out;clear hb
  go_wp2_with (first
   | (refine new_row rfl 161 (.tmp 6) (.tmp 14) rfl rfl #[.int .u8 mK,.int .u16 mM,.int .u32 mL,.int .u32 mS,.string mT,.int .u32 i] rfl rfl (by kernel_rfl) rfl (row6 _ _ _ _ _ _) ?_;intro w2 M;clear cv0 co0 co1 co2 co3 co4 co5 co6;replace Rv:=gg Rv M.2.1;replace Ro:=gg Ro M.2.1;replace B:=gb B M.2.1;have Rd:=hid M.1;have cv0:=cl1 Rv.out;obtain⟨co0,co1,co2,co3,co4,co5,co6⟩:=cl7 Ro.out;obtain⟨cd0,cd1,cd2,cd3,cd4,cd5⟩:=cl6 Rd.out;clear M))
  go_ret2
  exact CPost.err HE.out _ B.out
 ·by_cases h1:wrE L (ldI L o.P true) o.O o.D=0
  ·by_cases h2:o.D.size=0
   ·
    have HL:=hid (fun (w1:World) (hb:Below w.heap.size w w1)=>notDir_any (h.go hb) o.P ho.2.2.2.2.1 true);unfold wtX;rw [if_neg h0];have h0:=Decidable.not_not.1 h0;obtain⟨f1,f2,f3⟩:=fn_0 h0;have hlt:=ldI_lt h.rg o.P true;have hlim:=ldN_lim L o.P true;have HW:=hid (fun (w1:World) (hb:Below w.heap.size w w1)=>Da.Write_any L (ldI L o.P true) o.O hlt ho.2.2.1 o.D (by have:=ho.2.2.2.2.2.2;omega) A n c w1.heap.size (h.go hb).it.1 h.nc h.cm (by have:=h.it.2.1;omega) w1 (Nat.le_refl _) (h.go hb).it.2.2);unfold Da.ChPost at HW;have hle:o.O+o.D.size≤65536:=by
     unfold wrE at h1;split at h1
     ·split at h1
      ·cases h1
      ·omega
     ·contradiction
    unfold wtC;have hS:wtS L o=if o.D.size=0 then (ldN L o.P true).S else max (ldN L o.P true).S (o.O+o.D.size):=rfl
    rw [f1,f2] at HL;rw [h1] at HW ⊢;rw [if_pos rfl] at HW;have hDL:(wrL (chs L (ldI L o.P true)) (ldI L o.P true) o.O o.D.data.toList).length≤1048576:=wr_few h.rg (ldI_lt h.rg o.P true) h1;generalize wrL (chs L (ldI L o.P true)) (ldI L o.P true) o.O o.D.data.toList=D at *;clear h1;generalize wtS L o=S2 at *;generalize fnX L o.P true=x at *;generalize ldI L o.P true=i at *;generalize ldN L o.P true=m at *;obtain⟨oK,oP,oT,oM,oO,oN,oD⟩:=o;obtain⟨mK,mM,mL,mS,mT⟩:=m;try dsimp only at *
    subst h0;rw [if_pos h2] at hS;rw [hS];have s3:=Da.se3 h2;have hSl:mS<4294967296:=hlim.2.2.2;have HK:=hid (fun w=>kept_any ⟨mK,mM,mL,mS,mT⟩ i ⟨hlim.1,hlim.2.1,hlim.2.2.1,hSl⟩ hlt w);obtain⟨q,hq⟩:∃ q,kept ⟨mK,mM,mL,mS,mT⟩ i=q:=⟨_,rfl⟩;rw [hq] at HK ⊢;obtain⟨qk,qb,qv⟩:=q;dsimp only [Sc.enc] at HK;have HDL:=hid (show D.length+1≤3518437208883 by omega);clear h ho hlt hlim hq f1 f2 f3 hSl hDL h2 hle;have HN:=hid (two_new w #[.slice A n c] #[.int .u8 oK,.string oP,.string oT,.int .u16 oM,.int .u32 oO,.int .u32 oN,.string oD] 84 31)
    go_enter Tryz.func64,Tryz.ntmps64
    go_wp2_with fail
    try generalize ((w.alloc (.cells #[.slice A n c] 84)).alloc (.cells #[.int .u8 oK,.string oP,.string oT,.int .u16 oM,.int .u32 oO,.int .u32 oN,.string oD] 31))=w0 at *
    have Rv:=hid HN.out.1;have Ro:=hid HN.out.2.1;have B:=hid HN.out.2.2.1;clear HN;have cv0:=cl1 Rv.out;obtain⟨co0,co1,co2,co3,co4,co5,co6⟩:=cl7 Ro.out;refine (HL.out _ B.out).mono ?_;rintro e w1 ⟨rfl,hb⟩;clear cv0 co0 co1 co2 co3 co4 co5 co6;replace Rv:=gg Rv hb;replace Ro:=gg Ro hb;replace B:=gb B hb;have cv0:=cl1 Rv.out;obtain⟨co0,co1,co2,co3,co4,co5,co6⟩:=cl7 Ro.out;clear hb
    go_wp2_with (first
     | (refine new_row rfl 161 (.tmp 6) (.tmp 14) rfl rfl #[.int .u8 mK,.int .u16 mM,.int .u32 mL,.int .u32 mS,.string mT,.int .u32 i] rfl rfl (by kernel_rfl) rfl (row6 _ _ _ _ _ _) ?_;intro w2 M;clear cv0 co0 co1 co2 co3 co4 co5 co6;replace Rv:=gg Rv M.2.1;replace Ro:=gg Ro M.2.1;replace B:=gb B M.2.1;have Rd:=hid M.1;have cv0:=cl1 Rv.out;obtain⟨co0,co1,co2,co3,co4,co5,co6⟩:=cl7 Ro.out;obtain⟨cd0,cd1,cd2,cd3,cd4,cd5⟩:=cl6 Rd.out;clear M)
     | (go_at_call 104;refine (HW.out _ B.out).mono ?_;rintro e w3 ⟨v,rfl,hm⟩;have hb:=hm.2;have HM:=hid hm;have BK:=hid B.out;clear cv0 co0 co1 co2 co3 co4 co5 co6 cd0 cd1 cd2 cd3 cd4 cd5;replace Rv:=gg Rv hb;replace Ro:=gg Ro hb;replace Rd:=gg Rd hb;replace B:=gb B hb;clear hm;have cv0:=cl1 Rv.out;obtain⟨co0,co1,co2,co3,co4,co5,co6⟩:=cl7 Ro.out;obtain⟨cd0,cd1,cd2,cd3,cd4,cd5⟩:=cl6 Rd.out;clear hb)
     | (refine wpList_load_row rfl 161 (.tmp 51) rfl (w1.heap.size) rfl 161 #[.int .u8 mK,.int .u16 mM,.int .u32 mL,.int .u32 mS,.string mT,.int .u32 i] (0,0) _ Rd.out Tryz.underlying161 rfl (by kernel_rfl) ?_)
     | (go_at_call 102;refine (HK.out _).mono ?_;rintro e w4 ⟨rfl,hb⟩;clear cv0 co0 co1 co2 co3 co4 co5 co6 cd0 cd1 cd2 cd3 cd4 cd5;replace Rv:=gg Rv hb;replace Ro:=gg Ro hb;replace Rd:=gg Rd hb;replace HM:=hid (HM.out.go hb);replace B:=gb B hb;have cv0:=cl1 Rv.out;obtain⟨co0,co1,co2,co3,co4,co5,co6⟩:=cl7 Ro.out;obtain⟨cd0,cd1,cd2,cd3,cd4,cd5⟩:=cl6 Rd.out;clear hb)
     | (at_builtin;refine It.catC (HM.out.alloc _) [(⟨qk,qb,qv⟩:Ch)] _ 1 1 rfl (Ls.new _ (⟨qk,qb,qv⟩:Ch) _ _ (Nat.lt_succ_self _)) HDL.out rfl _ _ rfl rfl rfl ?_;intro v5 w9 hM5 hG5;have HM5:=hid hM5;clear hM5 hG5))
    go_ret2
    exact⟨_,rfl,HM5.out.since BK.out⟩
   ·
    have HL:=hid (fun (w1:World) (hb:Below w.heap.size w w1)=>notDir_any (h.go hb) o.P ho.2.2.2.2.1 true);unfold wtX;rw [if_neg h0];have h0:=Decidable.not_not.1 h0;obtain⟨f1,f2,f3⟩:=fn_0 h0;have hlt:=ldI_lt h.rg o.P true;have hlim:=ldN_lim L o.P true;have HW:=hid (fun (w1:World) (hb:Below w.heap.size w w1)=>Da.Write_any L (ldI L o.P true) o.O hlt ho.2.2.1 o.D (by have:=ho.2.2.2.2.2.2;omega) A n c w1.heap.size (h.go hb).it.1 h.nc h.cm (by have:=h.it.2.1;omega) w1 (Nat.le_refl _) (h.go hb).it.2.2);unfold Da.ChPost at HW;have hle:o.O+o.D.size≤65536:=by
     unfold wrE at h1;split at h1
     ·split at h1
      ·cases h1
      ·omega
     ·contradiction
    unfold wtC;have hS:wtS L o=if o.D.size=0 then (ldN L o.P true).S else max (ldN L o.P true).S (o.O+o.D.size):=rfl
    rw [f1,f2] at HL;rw [h1] at HW ⊢;rw [if_pos rfl] at HW;have hDL:(wrL (chs L (ldI L o.P true)) (ldI L o.P true) o.O o.D.data.toList).length≤1048576:=wr_few h.rg (ldI_lt h.rg o.P true) h1;generalize wrL (chs L (ldI L o.P true)) (ldI L o.P true) o.O o.D.data.toList=D at *;clear h1;generalize wtS L o=S2 at *;generalize fnX L o.P true=x at *;generalize ldI L o.P true=i at *;generalize ldN L o.P true=m at *;obtain⟨oK,oP,oT,oM,oO,oN,oD⟩:=o;obtain⟨mK,mM,mL,mS,mT⟩:=m;try dsimp only at *
    subst h0;rw [if_neg h2] at hS;have s1:=Da.se1 h2;have s2:=Da.se2 h2;have hu1:IntKind.u32.wrap (oD.size:Int)=(oD.size:Int):=u32_id (by omega);obtain⟨e,he⟩:∃ e,oO+oD.size=e:=⟨_,rfl⟩;have hu2:IntKind.u32.wrap ((oO:Int)+(oD.size:Int))=(e:Int):=by rw [← he,IntKind.wrap_u32];omega
    have hmx:max (mS:Int) (e:Int)=(S2:Int):=by rw [hS,he];omega
    have hSl:S2<4294967296:=by rw [hS];have:=hlim.2.2.2;dsimp only at this;omega
    have HK:=hid (fun w=>kept_any ⟨mK,mM,mL,S2,mT⟩ i ⟨hlim.1,hlim.2.1,hlim.2.2.1,hSl⟩ hlt w);obtain⟨q,hq⟩:∃ q,kept ⟨mK,mM,mL,S2,mT⟩ i=q:=⟨_,rfl⟩;rw [hq] at HK ⊢;obtain⟨qk,qb,qv⟩:=q;dsimp only [Sc.enc] at HK;have HDL:=hid (show D.length+1≤3518437208883 by omega);clear h ho hlt hlim hq f1 f2 f3 hSl hDL h2 hle he hS;have HN:=hid (two_new w #[.slice A n c] #[.int .u8 oK,.string oP,.string oT,.int .u16 oM,.int .u32 oO,.int .u32 oN,.string oD] 84 31)
    go_enter Tryz.func64,Tryz.ntmps64
    go_wp2_with fail
    try generalize ((w.alloc (.cells #[.slice A n c] 84)).alloc (.cells #[.int .u8 oK,.string oP,.string oT,.int .u16 oM,.int .u32 oO,.int .u32 oN,.string oD] 31))=w0 at *
    have Rv:=hid HN.out.1;have Ro:=hid HN.out.2.1;have B:=hid HN.out.2.2.1;clear HN;have cv0:=cl1 Rv.out;obtain⟨co0,co1,co2,co3,co4,co5,co6⟩:=cl7 Ro.out;refine (HL.out _ B.out).mono ?_;rintro e w1 ⟨rfl,hb⟩;clear cv0 co0 co1 co2 co3 co4 co5 co6;replace Rv:=gg Rv hb;replace Ro:=gg Ro hb;replace B:=gb B hb;have cv0:=cl1 Rv.out;obtain⟨co0,co1,co2,co3,co4,co5,co6⟩:=cl7 Ro.out;clear hb
    go_wp2_with (first
     | (refine new_row rfl 161 (.tmp 6) (.tmp 14) rfl rfl #[.int .u8 mK,.int .u16 mM,.int .u32 mL,.int .u32 mS,.string mT,.int .u32 i] rfl rfl (by kernel_rfl) rfl (row6 _ _ _ _ _ _) ?_;intro w2 M;have Gd:=hid B.out.size;have Dd_v:=hid Rv.out.lt;have Dd_o:=hid Ro.out.lt;clear cv0 co0 co1 co2 co3 co4 co5 co6;replace Rv:=gg Rv M.2.1;replace Ro:=gg Ro M.2.1;replace B:=gb B M.2.1;have Rd:=hid M.1;have cv0:=cl1 Rv.out;obtain⟨co0,co1,co2,co3,co4,co5,co6⟩:=cl7 Ro.out;obtain⟨cd0,cd1,cd2,cd3,cd4,cd5⟩:=cl6 Rd.out;clear M)
     | (go_at_call 104;refine (HW.out _ B.out).mono ?_;rintro e w3 ⟨v,rfl,hm⟩;have hb:=hm.2;have HM:=hid hm;have BK:=hid B.out;have GK:=hid Rd.out.lt;clear cv0 co0 co1 co2 co3 co4 co5 co6 cd0 cd1 cd2 cd3 cd4 cd5;replace Rv:=gg Rv hb;replace Ro:=gg Ro hb;replace Rd:=gg Rd hb;replace B:=gb B hb;clear hm;have cv0:=cl1 Rv.out;obtain⟨co0,co1,co2,co3,co4,co5,co6⟩:=cl7 Ro.out;obtain⟨cd0,cd1,cd2,cd3,cd4,cd5⟩:=cl6 Rd.out;clear hb;have fz:=frozen_of_row w3 (w1.heap.size) 3 _ _ Rd.out))
    clear fz cv0 co0 co1 co2 co3 co4 co5 co6 cd0 cd1 cd2 cd3 cd4 cd5;have hs:=below_set (v:=.int .u32 S2) B.out (g:=w1.heap.size) (j:=3) Gd.out;replace Rv:=hid (Rv.out.off (g':=w1.heap.size) (j:=3) (.int .u32 S2) (Nat.ne_of_lt Dd_v.out));replace Ro:=hid (Ro.out.off (g':=w1.heap.size) (j:=3) (.int .u32 S2) (Nat.ne_of_lt Dd_o.out));replace Rd:Hid (Rw (w3.setCell ⟨w1.heap.size,3,none⟩ (.int .u32 S2)) (w1.heap.size) #[.int .u8 mK,.int .u16 mM,.int .u32 mL,.int .u32 S2,.string mT,.int .u32 i] 161):=hid (Rd.out.put 3 (.int .u32 S2));replace HM:=hid (mk_set (g:=w1.heap.size) (j:=3) (u:=.int .u32 S2) HM.out BK.out Gd.out GK.out);replace B:=hid hs;clear hs;generalize w3.setCell ⟨w1.heap.size,3,none⟩ (.int .u32 S2)=w4 at *;have cv0:=cl1 Rv.out;obtain⟨co0,co1,co2,co3,co4,co5,co6⟩:=cl7 Ro.out;obtain⟨cd0,cd1,cd2,cd3,cd4,cd5⟩:=cl6 Rd.out
    go_wp2_with (first
     | (refine wpList_load_row rfl 161 (.tmp 51) rfl (w1.heap.size) rfl 161 #[.int .u8 mK,.int .u16 mM,.int .u32 mL,.int .u32 S2,.string mT,.int .u32 i] (0,0) _ Rd.out Tryz.underlying161 rfl (by kernel_rfl) ?_)
     | (go_at_call 102;refine (HK.out _).mono ?_;rintro e w5 ⟨rfl,hb⟩;clear cv0 co0 co1 co2 co3 co4 co5 co6 cd0 cd1 cd2 cd3 cd4 cd5;replace Rv:=gg Rv hb;replace Ro:=gg Ro hb;replace Rd:=gg Rd hb;replace HM:=hid (HM.out.go hb);replace B:=gb B hb;have cv0:=cl1 Rv.out;obtain⟨co0,co1,co2,co3,co4,co5,co6⟩:=cl7 Ro.out;obtain⟨cd0,cd1,cd2,cd3,cd4,cd5⟩:=cl6 Rd.out;clear hb)
     | (at_builtin;refine It.catC (HM.out.alloc _) [(⟨qk,qb,qv⟩:Ch)] _ 1 1 rfl (Ls.new _ (⟨qk,qb,qv⟩:Ch) _ _ (Nat.lt_succ_self _)) HDL.out rfl _ _ rfl rfl rfl ?_;intro v5 w9 hM5 hG5;have HM5:=hid hM5;clear hM5 hG5))
    go_ret2
    exact⟨_,rfl,HM5.out⟩
  ·
   have HL:=hid (fun (w1:World) (hb:Below w.heap.size w w1)=>notDir_any (h.go hb) o.P ho.2.2.2.2.1 true);unfold wtX;rw [if_neg h0];have h0:=Decidable.not_not.1 h0;obtain⟨f1,f2,f3⟩:=fn_0 h0;have hlt:=ldI_lt h.rg o.P true;have hlim:=ldN_lim L o.P true;have HW:=hid (fun (w1:World) (hb:Below w.heap.size w w1)=>Da.Write_any L (ldI L o.P true) o.O hlt ho.2.2.1 o.D (by have:=ho.2.2.2.2.2.2;omega) A n c w1.heap.size (h.go hb).it.1 h.nc h.cm (by have:=h.it.2.1;omega) w1 (Nat.le_refl _) (h.go hb).it.2.2);unfold Da.ChPost at HW;rw [f1,f2] at HL;generalize wrL (chs L (ldI L o.P true)) (ldI L o.P true) o.O o.D.data.toList=D at *;generalize wrE L (ldI L o.P true) o.O o.D=y at *;generalize wtC L o=C at *;generalize fnX L o.P true=x at *;generalize ldI L o.P true=i at *;generalize ldN L o.P true=m at *;obtain⟨oK,oP,oT,oM,oO,oN,oD⟩:=o;obtain⟨mK,mM,mL,mS,mT⟩:=m;try dsimp only at *
   subst h0;have e5:=ne0 h1;rw [if_neg h1] at HW;have HE:=hid h1;clear h ho h1 f1 f2 f3 hlt hlim;have HN:=hid (two_new w #[.slice A n c] #[.int .u8 oK,.string oP,.string oT,.int .u16 oM,.int .u32 oO,.int .u32 oN,.string oD] 84 31)
   go_enter Tryz.func64,Tryz.ntmps64
   go_wp2_with fail
   try generalize ((w.alloc (.cells #[.slice A n c] 84)).alloc (.cells #[.int .u8 oK,.string oP,.string oT,.int .u16 oM,.int .u32 oO,.int .u32 oN,.string oD] 31))=w0 at *
   have Rv:=hid HN.out.1;have Ro:=hid HN.out.2.1;have B:=hid HN.out.2.2.1;clear HN;have cv0:=cl1 Rv.out;obtain⟨co0,co1,co2,co3,co4,co5,co6⟩:=cl7 Ro.out;refine (HL.out _ B.out).mono ?_;rintro e w1 ⟨rfl,hb⟩;clear cv0 co0 co1 co2 co3 co4 co5 co6;replace Rv:=gg Rv hb;replace Ro:=gg Ro hb;replace B:=gb B hb;have cv0:=cl1 Rv.out;obtain⟨co0,co1,co2,co3,co4,co5,co6⟩:=cl7 Ro.out;clear hb
   go_wp2_with (first
    | (refine new_row rfl 161 (.tmp 6) (.tmp 14) rfl rfl #[.int .u8 mK,.int .u16 mM,.int .u32 mL,.int .u32 mS,.string mT,.int .u32 i] rfl rfl (by kernel_rfl) rfl (row6 _ _ _ _ _ _) ?_;intro w2 M;clear cv0 co0 co1 co2 co3 co4 co5 co6;replace Rv:=gg Rv M.2.1;replace Ro:=gg Ro M.2.1;replace B:=gb B M.2.1;have Rd:=hid M.1;have cv0:=cl1 Rv.out;obtain⟨co0,co1,co2,co3,co4,co5,co6⟩:=cl7 Ro.out;obtain⟨cd0,cd1,cd2,cd3,cd4,cd5⟩:=cl6 Rd.out;clear M)
    | (go_at_call 104;refine (HW.out _ B.out).mono ?_;rintro e w3 ⟨v,rfl,hm⟩;have hb:=hm.2;have HM:=hid hm;have BK:=hid B.out;clear cv0 co0 co1 co2 co3 co4 co5 co6 cd0 cd1 cd2 cd3 cd4 cd5;replace Rv:=gg Rv hb;replace Ro:=gg Ro hb;replace Rd:=gg Rd hb;replace B:=gb B hb;clear hm;have cv0:=cl1 Rv.out;obtain⟨co0,co1,co2,co3,co4,co5,co6⟩:=cl7 Ro.out;obtain⟨cd0,cd1,cd2,cd3,cd4,cd5⟩:=cl6 Rd.out;clear hb))
   go_ret2
   exact CPost.err HE.out _ B.out
theorem ct_few {I z:Nat}(h:rgt L=true) (hI:I<4294967296) (h1:rdE L I z=0):(ctL (chs L I) z).length≤1048576:=by
 have hr:=(rgt_iff.1 h).rt;have hI1:1≤I:=by
  unfold rdE at h1;split at h1
  ·rename_i h2;exact (Da.ec_zero h2).2
  ·contradiction
 have h2:=Da.ctL_len (chs L I) z;have h3:=Da.chs_few hr hI1 hI;omega
set_option maxHeartbeats 2000000 in
theorem cut_any (h:VA w A n c L) (o:Op) (ho:o.lim):Calls Tryz.prog 65 #[vV A n c,vOp o] w (CPost w (cuX L o) (cuC L o)):=by
 by_cases h0:fnX L o.P true≠0
 ·
  have HL:=hid (fun (w1:World) (hb:Below w.heap.size w w1)=>notDir_any (h.go hb) o.P ho.2.2.2.2.1 true);unfold cuX;rw [if_pos h0];generalize fnX L o.P true=x at *;generalize fnI L o.P true=i at *;generalize fnN L o.P true=m at *;obtain⟨oK,oP,oT,oM,oO,oN,oD⟩:=o;obtain⟨mK,mM,mL,mS,mT⟩:=m;try dsimp only at *
  have e5:=ne0 h0;have HE:=hid h0;clear h ho h0;have HN:=hid (two_new w #[.slice A n c] #[.int .u8 oK,.string oP,.string oT,.int .u16 oM,.int .u32 oO,.int .u32 oN,.string oD] 84 31)
  go_enter Tryz.func65,Tryz.ntmps65
  go_wp2_with fail
  try generalize ((w.alloc (.cells #[.slice A n c] 84)).alloc (.cells #[.int .u8 oK,.string oP,.string oT,.int .u16 oM,.int .u32 oO,.int .u32 oN,.string oD] 31))=w0 at *
  have Rv:=hid HN.out.1;have Ro:=hid HN.out.2.1;have B:=hid HN.out.2.2.1;clear HN;have cv0:=cl1 Rv.out;obtain⟨co0,co1,co2,co3,co4,co5,co6⟩:=cl7 Ro.out;refine (HL.out _ B.out).mono ?_;rintro e w1 ⟨rfl,hb⟩;clear cv0 co0 co1 co2 co3 co4 co5 co6;replace Rv:=gg Rv hb;replace Ro:=gg Ro hb;replace B:=gb B hb;have cv0:=cl1 Rv.out;obtain⟨co0,co1,co2,co3,co4,co5,co6⟩:=cl7 Ro.out;clear hb
  go_wp2_with (first
   | (refine new_row rfl 161 (.tmp 6) (.tmp 14) rfl rfl #[.int .u8 mK,.int .u16 mM,.int .u32 mL,.int .u32 mS,.string mT,.int .u32 i] rfl rfl (by kernel_rfl) rfl (row6 _ _ _ _ _ _) ?_;intro w2 M;clear cv0 co0 co1 co2 co3 co4 co5 co6;replace Rv:=gg Rv M.2.1;replace Ro:=gg Ro M.2.1;replace B:=gb B M.2.1;have Rd:=hid M.1;have cv0:=cl1 Rv.out;obtain⟨co0,co1,co2,co3,co4,co5,co6⟩:=cl7 Ro.out;obtain⟨cd0,cd1,cd2,cd3,cd4,cd5⟩:=cl6 Rd.out;clear M))
  go_ret2
  exact CPost.err HE.out _ B.out
 ·by_cases h1:rdE L (ldI L o.P true) o.N=0
  ·
   have HL:=hid (fun (w1:World) (hb:Below w.heap.size w w1)=>notDir_any (h.go hb) o.P ho.2.2.2.2.1 true);unfold cuX;rw [if_neg h0];have h0:=Decidable.not_not.1 h0;obtain⟨f1,f2,f3⟩:=fn_0 h0;have hlt:=ldI_lt h.rg o.P true;have hlim:=ldN_lim L o.P true;have HW:=hid (fun (w1:World) (hb:Below w.heap.size w w1)=>Da.Cut_any L (ldI L o.P true) o.N hlt ho.2.2.2.1 A n c w1.heap.size (h.go hb).it.1 h.nc h.cm (by have:=h.it.2.1;omega) w1 (Nat.le_refl _) (h.go hb).it.2.2);unfold Da.ChPost at HW;have hNl:=ho.2.2.2.1;unfold cuC;rw [f1,f2] at HL;have hDL:(ctL (chs L (ldI L o.P true)) o.N).length≤1048576:=ct_few h.rg (ldI_lt h.rg o.P true) h1;rw [h1] at HW ⊢;rw [if_pos rfl] at HW;generalize ctL (chs L (ldI L o.P true)) o.N=D at *;clear h1;generalize fnX L o.P true=x at *;generalize ldI L o.P true=i at *;generalize ldN L o.P true=m at *;obtain⟨oK,oP,oT,oM,oO,oN,oD⟩:=o;obtain⟨mK,mM,mL,mS,mT⟩:=m;try dsimp only at *
   subst h0;have HK:=hid (fun w=>kept_any ⟨mK,mM,mL,oN,mT⟩ i ⟨hlim.1,hlim.2.1,hlim.2.2.1,hNl⟩ hlt w);obtain⟨q,hq⟩:∃ q,kept ⟨mK,mM,mL,oN,mT⟩ i=q:=⟨_,rfl⟩;rw [hq] at HK ⊢;obtain⟨qk,qb,qv⟩:=q;dsimp only [Sc.enc] at HK;have HDL:=hid (show D.length+1≤3518437208883 by omega);clear h ho hlt hlim hq f1 f2 f3 hDL hNl;have HN:=hid (two_new w #[.slice A n c] #[.int .u8 oK,.string oP,.string oT,.int .u16 oM,.int .u32 oO,.int .u32 oN,.string oD] 84 31)
   go_enter Tryz.func65,Tryz.ntmps65
   go_wp2_with fail
   try generalize ((w.alloc (.cells #[.slice A n c] 84)).alloc (.cells #[.int .u8 oK,.string oP,.string oT,.int .u16 oM,.int .u32 oO,.int .u32 oN,.string oD] 31))=w0 at *
   have Rv:=hid HN.out.1;have Ro:=hid HN.out.2.1;have B:=hid HN.out.2.2.1;clear HN;have cv0:=cl1 Rv.out;obtain⟨co0,co1,co2,co3,co4,co5,co6⟩:=cl7 Ro.out;refine (HL.out _ B.out).mono ?_;rintro e w1 ⟨rfl,hb⟩;clear cv0 co0 co1 co2 co3 co4 co5 co6;replace Rv:=gg Rv hb;replace Ro:=gg Ro hb;replace B:=gb B hb;have cv0:=cl1 Rv.out;obtain⟨co0,co1,co2,co3,co4,co5,co6⟩:=cl7 Ro.out;clear hb
   go_wp2_with (first
    | (refine new_row rfl 161 (.tmp 6) (.tmp 14) rfl rfl #[.int .u8 mK,.int .u16 mM,.int .u32 mL,.int .u32 mS,.string mT,.int .u32 i] rfl rfl (by kernel_rfl) rfl (row6 _ _ _ _ _ _) ?_;intro w2 M;have Gd:=hid B.out.size;have Dd_v:=hid Rv.out.lt;have Dd_o:=hid Ro.out.lt;clear cv0 co0 co1 co2 co3 co4 co5 co6;replace Rv:=gg Rv M.2.1;replace Ro:=gg Ro M.2.1;replace B:=gb B M.2.1;have Rd:=hid M.1;have cv0:=cl1 Rv.out;obtain⟨co0,co1,co2,co3,co4,co5,co6⟩:=cl7 Ro.out;obtain⟨cd0,cd1,cd2,cd3,cd4,cd5⟩:=cl6 Rd.out;clear M)
    | (go_at_call 105;refine (HW.out _ B.out).mono ?_;rintro e w3 ⟨v,rfl,hm⟩;have hb:=hm.2;have HM:=hid hm;have BK:=hid B.out;have GK:=hid Rd.out.lt;clear cv0 co0 co1 co2 co3 co4 co5 co6 cd0 cd1 cd2 cd3 cd4 cd5;replace Rv:=gg Rv hb;replace Ro:=gg Ro hb;replace Rd:=gg Rd hb;replace B:=gb B hb;clear hm;have cv0:=cl1 Rv.out;obtain⟨co0,co1,co2,co3,co4,co5,co6⟩:=cl7 Ro.out;obtain⟨cd0,cd1,cd2,cd3,cd4,cd5⟩:=cl6 Rd.out;clear hb;have fz:=frozen_of_row w3 (w1.heap.size) 3 _ _ Rd.out))
   clear fz cv0 co0 co1 co2 co3 co4 co5 co6 cd0 cd1 cd2 cd3 cd4 cd5;have hs:=below_set (v:=.int .u32 oN) B.out (g:=w1.heap.size) (j:=3) Gd.out;replace Rv:=hid (Rv.out.off (g':=w1.heap.size) (j:=3) (.int .u32 oN) (Nat.ne_of_lt Dd_v.out));replace Ro:=hid (Ro.out.off (g':=w1.heap.size) (j:=3) (.int .u32 oN) (Nat.ne_of_lt Dd_o.out));replace Rd:Hid (Rw (w3.setCell ⟨w1.heap.size,3,none⟩ (.int .u32 oN)) (w1.heap.size) #[.int .u8 mK,.int .u16 mM,.int .u32 mL,.int .u32 oN,.string mT,.int .u32 i] 161):=hid (Rd.out.put 3 (.int .u32 oN));replace HM:=hid (mk_set (g:=w1.heap.size) (j:=3) (u:=.int .u32 oN) HM.out BK.out Gd.out GK.out);replace B:=hid hs;clear hs;generalize w3.setCell ⟨w1.heap.size,3,none⟩ (.int .u32 oN)=w4 at *;have cv0:=cl1 Rv.out;obtain⟨co0,co1,co2,co3,co4,co5,co6⟩:=cl7 Ro.out;obtain⟨cd0,cd1,cd2,cd3,cd4,cd5⟩:=cl6 Rd.out
   go_wp2_with (first
    | (refine wpList_load_row rfl 161 (.tmp 37) rfl (w1.heap.size) rfl 161 #[.int .u8 mK,.int .u16 mM,.int .u32 mL,.int .u32 oN,.string mT,.int .u32 i] (0,0) _ Rd.out Tryz.underlying161 rfl (by kernel_rfl) ?_)
    | (go_at_call 102;refine (HK.out _).mono ?_;rintro e w5 ⟨rfl,hb⟩;clear cv0 co0 co1 co2 co3 co4 co5 co6 cd0 cd1 cd2 cd3 cd4 cd5;replace Rv:=gg Rv hb;replace Ro:=gg Ro hb;replace Rd:=gg Rd hb;replace HM:=hid (HM.out.go hb);replace B:=gb B hb;have cv0:=cl1 Rv.out;obtain⟨co0,co1,co2,co3,co4,co5,co6⟩:=cl7 Ro.out;obtain⟨cd0,cd1,cd2,cd3,cd4,cd5⟩:=cl6 Rd.out;clear hb)
    | (at_builtin;refine It.catC (HM.out.alloc _) [(⟨qk,qb,qv⟩:Ch)] _ 1 1 rfl (Ls.new _ (⟨qk,qb,qv⟩:Ch) _ _ (Nat.lt_succ_self _)) HDL.out rfl _ _ rfl rfl rfl ?_;intro v5 w9 hM5 hG5;have HM5:=hid hM5;clear hM5 hG5))
   go_ret2
   exact⟨_,rfl,HM5.out⟩
  ·
   have HL:=hid (fun (w1:World) (hb:Below w.heap.size w w1)=>notDir_any (h.go hb) o.P ho.2.2.2.2.1 true);unfold cuX;rw [if_neg h0];have h0:=Decidable.not_not.1 h0;obtain⟨f1,f2,f3⟩:=fn_0 h0;have hlt:=ldI_lt h.rg o.P true;have hlim:=ldN_lim L o.P true;have HW:=hid (fun (w1:World) (hb:Below w.heap.size w w1)=>Da.Cut_any L (ldI L o.P true) o.N hlt ho.2.2.2.1 A n c w1.heap.size (h.go hb).it.1 h.nc h.cm (by have:=h.it.2.1;omega) w1 (Nat.le_refl _) (h.go hb).it.2.2);unfold Da.ChPost at HW;rw [f1,f2] at HL;generalize ctL (chs L (ldI L o.P true)) o.N=D at *;generalize rdE L (ldI L o.P true) o.N=y at *;generalize cuC L o=C at *;generalize fnX L o.P true=x at *;generalize ldI L o.P true=i at *;generalize ldN L o.P true=m at *;obtain⟨oK,oP,oT,oM,oO,oN,oD⟩:=o;obtain⟨mK,mM,mL,mS,mT⟩:=m;try dsimp only at *
   subst h0;have e5:=ne0 h1;rw [if_neg h1] at HW;have HE:=hid h1;clear h ho h1 f1 f2 f3 hlt hlim;have HN:=hid (two_new w #[.slice A n c] #[.int .u8 oK,.string oP,.string oT,.int .u16 oM,.int .u32 oO,.int .u32 oN,.string oD] 84 31)
   go_enter Tryz.func65,Tryz.ntmps65
   go_wp2_with fail
   try generalize ((w.alloc (.cells #[.slice A n c] 84)).alloc (.cells #[.int .u8 oK,.string oP,.string oT,.int .u16 oM,.int .u32 oO,.int .u32 oN,.string oD] 31))=w0 at *
   have Rv:=hid HN.out.1;have Ro:=hid HN.out.2.1;have B:=hid HN.out.2.2.1;clear HN;have cv0:=cl1 Rv.out;obtain⟨co0,co1,co2,co3,co4,co5,co6⟩:=cl7 Ro.out;refine (HL.out _ B.out).mono ?_;rintro e w1 ⟨rfl,hb⟩;clear cv0 co0 co1 co2 co3 co4 co5 co6;replace Rv:=gg Rv hb;replace Ro:=gg Ro hb;replace B:=gb B hb;have cv0:=cl1 Rv.out;obtain⟨co0,co1,co2,co3,co4,co5,co6⟩:=cl7 Ro.out;clear hb
   go_wp2_with (first
    | (refine new_row rfl 161 (.tmp 6) (.tmp 14) rfl rfl #[.int .u8 mK,.int .u16 mM,.int .u32 mL,.int .u32 mS,.string mT,.int .u32 i] rfl rfl (by kernel_rfl) rfl (row6 _ _ _ _ _ _) ?_;intro w2 M;clear cv0 co0 co1 co2 co3 co4 co5 co6;replace Rv:=gg Rv M.2.1;replace Ro:=gg Ro M.2.1;replace B:=gb B M.2.1;have Rd:=hid M.1;have cv0:=cl1 Rv.out;obtain⟨co0,co1,co2,co3,co4,co5,co6⟩:=cl7 Ro.out;obtain⟨cd0,cd1,cd2,cd3,cd4,cd5⟩:=cl6 Rd.out;clear M)
    | (go_at_call 105;refine (HW.out _ B.out).mono ?_;rintro e w3 ⟨v,rfl,hm⟩;have hb:=hm.2;have HM:=hid hm;have BK:=hid B.out;clear cv0 co0 co1 co2 co3 co4 co5 co6 cd0 cd1 cd2 cd3 cd4 cd5;replace Rv:=gg Rv hb;replace Ro:=gg Ro hb;replace Rd:=gg Rd hb;replace B:=gb B hb;clear hm;have cv0:=cl1 Rv.out;obtain⟨co0,co1,co2,co3,co4,co5,co6⟩:=cl7 Ro.out;obtain⟨cd0,cd1,cd2,cd3,cd4,cd5⟩:=cl6 Rd.out;clear hb))
   go_ret2
   exact CPost.err HE.out _ B.out
end Go.Proofs.YtopepebcnaikiaaGreatDoor.Fi
namespace Go.Proofs.YtopepebcnaikiaaGreatDoor.Fi
open Lib (hid)
open Go.ChangeShapes Go.WideShapes Go.ChangeAt Go.RowKit
open BigFrame
open Ar Rg
open Ino
open It (Itm Ch get und app dif rt rc enc er getV get_any under_any apply_any diff_any MkI MkC)
open Di (ItA wlk rgt rgt_iff numOf Vo vo pts lsX lsL up En NmA Walk_any Up)
open Ph (nb spX spB laX laD laN)
open Pk (nB nE tN tR tE number_any take_any)
variable {w w' wr:World}{A:Option Addr}{n c:Nat}{L:List Itm}
theorem pl_up (h:rgt L=true){p:ByteArray}(h0:plX L p=0):Up (vo (pts L)) (pl L p).d:=by
 obtain⟨_,h2,h3,e⟩:=pl_yes h0;obtain⟨m,hm,_⟩:=wlk_some h h2;obtain⟨i1,i2,_,_⟩:=ino_num h hm;rw [e];show Up _ (wlk L true (laD p)).1
 rw [nd_ino h i1 i2,hm] at h3;exact (rgt_iff.1 h).ups _ m hm h3
theorem letGo_len (p:Pl) (L:List Itm):(letGo L p).length≤4*L.length+2:=by
 unfold letGo;split
 ·rw [List.length_append,← gnP_4];have:=gnP_len (L:=L) p.i 4;show _+1≤_
  omega
 ·show 2≤_
  omega
set_option maxHeartbeats 2000000 in
theorem rename_any (h:VA w A n c L) (o:Op) (ho:o.lim):Calls Tryz.prog 66 #[vV A n c,vOp o] w (CPost w (rnX L o) (rnC L o)):=by
 by_cases h0:nmX L o.P≠0
 ·
  have HL:=hid (fun (w1:World) (hb:Below w.heap.size w w1)=>named_any (h.go hb) o.P ho.2.2.2.2.1);have HT:=hid (fun (w1:World) (hb:Below w.heap.size w w1)=>place_any (h.go hb) o.T ho.2.2.2.2.2.1);unfold rnX;rw [if_pos h0];generalize nm L o.P=q at *;generalize pl L o.T=q2 at *;generalize plX L o.T=y at *;generalize rnC L o=D at *;obtain⟨fd,fk,fi⟩:=q;generalize nmX L o.P=x at *;obtain⟨oK,oP,oT,oM,oO,oN,oD⟩:=o;try dsimp only at *
  have e5:=ne0 h0;have HE:=hid h0;clear h ho h0 HT;have HN:=hid (two_new w #[.slice A n c] #[.int .u8 oK,.string oP,.string oT,.int .u16 oM,.int .u32 oO,.int .u32 oN,.string oD] 84 31)
  go_enter Tryz.func66,Tryz.ntmps66
  go_wp2_with fail
  try generalize ((w.alloc (.cells #[.slice A n c] 84)).alloc (.cells #[.int .u8 oK,.string oP,.string oT,.int .u16 oM,.int .u32 oO,.int .u32 oN,.string oD] 31))=w0 at *
  have Rv:=hid HN.out.1;have Ro:=hid HN.out.2.1;have B:=hid HN.out.2.2.1;clear HN;have cv0:=cl1 Rv.out;obtain⟨co0,co1,co2,co3,co4,co5,co6⟩:=cl7 Ro.out;refine (HL.out _ B.out).mono ?_;rintro e w1 ⟨rfl,hb⟩;clear cv0 co0 co1 co2 co3 co4 co5 co6;replace Rv:=gg Rv hb;replace Ro:=gg Ro hb;replace B:=gb B hb;have cv0:=cl1 Rv.out;obtain⟨co0,co1,co2,co3,co4,co5,co6⟩:=cl7 Ro.out;clear hb
  go_wp2_with (first
   | (refine new_row rfl 170 (.tmp 6) (.tmp 16) rfl rfl #[.int .u32 fd,.string fk,.int .u32 fi] rfl rfl (by kernel_rfl) rfl (row3 _ _ _) ?_;intro w2 M;clear cv0 co0 co1 co2 co3 co4 co5 co6;replace Rv:=gg Rv M.2.1;replace Ro:=gg Ro M.2.1;replace B:=gb B M.2.1;have Rf:=hid M.1;have cv0:=cl1 Rv.out;obtain⟨co0,co1,co2,co3,co4,co5,co6⟩:=cl7 Ro.out;obtain⟨cf0,cf1,cf2⟩:=cl3 Rf.out;clear M))
  go_ret2
  exact CPost.err HE.out _ B.out
 ·by_cases h1:plX L o.T≠0
  ·
   have HL:=hid (fun (w1:World) (hb:Below w.heap.size w w1)=>named_any (h.go hb) o.P ho.2.2.2.2.1);have HT:=hid (fun (w1:World) (hb:Below w.heap.size w w1)=>place_any (h.go hb) o.T ho.2.2.2.2.2.1);unfold rnX;rw [if_neg h0];have h0:=Decidable.not_not.1 h0;obtain⟨g1,g2,g3⟩:=nm_0 h0;rw [g1] at HL;rw [if_pos h1];generalize pl L o.P=q at *;generalize pl L o.T=q2 at *;generalize plX L o.T=y at *;generalize rnC L o=D at *;obtain⟨fd,fk,fi⟩:=q;obtain⟨qd,qk,qi⟩:=q2;generalize nmX L o.P=x at *;obtain⟨oK,oP,oT,oM,oO,oN,oD⟩:=o;try dsimp only at *
   subst h0;have e5:=ne0 h1;have HE:=hid h1;clear h ho g1 g2 g3 h1;have HN:=hid (two_new w #[.slice A n c] #[.int .u8 oK,.string oP,.string oT,.int .u16 oM,.int .u32 oO,.int .u32 oN,.string oD] 84 31)
   go_enter Tryz.func66,Tryz.ntmps66
   go_wp2_with fail
   try generalize ((w.alloc (.cells #[.slice A n c] 84)).alloc (.cells #[.int .u8 oK,.string oP,.string oT,.int .u16 oM,.int .u32 oO,.int .u32 oN,.string oD] 31))=w0 at *
   have Rv:=hid HN.out.1;have Ro:=hid HN.out.2.1;have B:=hid HN.out.2.2.1;clear HN;have cv0:=cl1 Rv.out;obtain⟨co0,co1,co2,co3,co4,co5,co6⟩:=cl7 Ro.out;refine (HL.out _ B.out).mono ?_;rintro e w1 ⟨rfl,hb⟩;clear cv0 co0 co1 co2 co3 co4 co5 co6;replace Rv:=gg Rv hb;replace Ro:=gg Ro hb;replace B:=gb B hb;have cv0:=cl1 Rv.out;obtain⟨co0,co1,co2,co3,co4,co5,co6⟩:=cl7 Ro.out;clear hb
   go_wp2_with (first
    | (refine new_row rfl 170 (.tmp 6) (.tmp 16) rfl rfl #[.int .u32 fd,.string fk,.int .u32 fi] rfl rfl (by kernel_rfl) rfl (row3 _ _ _) ?_;intro w2 M;clear cv0 co0 co1 co2 co3 co4 co5 co6;replace Rv:=gg Rv M.2.1;replace Ro:=gg Ro M.2.1;replace B:=gb B M.2.1;have Rf:=hid M.1;have cv0:=cl1 Rv.out;obtain⟨co0,co1,co2,co3,co4,co5,co6⟩:=cl7 Ro.out;obtain⟨cf0,cf1,cf2⟩:=cl3 Rf.out;clear M)
    | (go_at_call 107;refine (HT.out _ B.out).mono ?_;rintro e w3 ⟨rfl,hb⟩;clear cv0 co0 co1 co2 co3 co4 co5 co6 cf0 cf1 cf2;replace Rv:=gg Rv hb;replace Ro:=gg Ro hb;replace Rf:=gg Rf hb;replace B:=gb B hb;have cv0:=cl1 Rv.out;obtain⟨co0,co1,co2,co3,co4,co5,co6⟩:=cl7 Ro.out;obtain⟨cf0,cf1,cf2⟩:=cl3 Rf.out;clear hb)
    | (refine new_row rfl 170 (.tmp 8) (.tmp 26) rfl rfl #[.int .u32 qd,.string qk,.int .u32 qi] rfl rfl (by kernel_rfl) rfl (row3 _ _ _) ?_;intro w4 M;clear cv0 co0 co1 co2 co3 co4 co5 co6 cf0 cf1 cf2;replace Rv:=gg Rv M.2.1;replace Ro:=gg Ro M.2.1;replace Rf:=gg Rf M.2.1;replace B:=gb B M.2.1;have Rq:=hid M.1;have cv0:=cl1 Rv.out;obtain⟨co0,co1,co2,co3,co4,co5,co6⟩:=cl7 Ro.out;obtain⟨cf0,cf1,cf2⟩:=cl3 Rf.out;obtain⟨cq0,cq1,cq2⟩:=cl3 Rq.out;clear M))
   go_ret2
   exact CPost.err HE.out _ B.out
  ·by_cases h2:undr L (pl L o.T).d (pl L o.P).i=true
   ·
    have HL:=hid (fun (w1:World) (hb:Below w.heap.size w w1)=>named_any (h.go hb) o.P ho.2.2.2.2.1);have HT:=hid (fun (w1:World) (hb:Below w.heap.size w w1)=>place_any (h.go hb) o.T ho.2.2.2.2.2.1);unfold rnX;rw [if_neg h0];have h0:=Decidable.not_not.1 h0;obtain⟨g1,g2,g3⟩:=nm_0 h0;rw [g1] at HL;rw [if_neg h1];have h1:=Decidable.not_not.1 h1;rw [h1] at HT;have hTd:=(pl_lt h.rg o.T).1;have hTi:=(pl_lt h.rg o.T).2;have hPi:=(pl_lt h.rg o.P).2;have HU:=hid (fun (w1:World) (hb:Below w.heap.size w w1)=>under_any' (h.go hb) (pl L o.T).d (pl L o.P).i hTd (pl_up h.rg h1));rw [h2] at HU ⊢;rw [if_pos rfl];generalize rnC L o=D at *;generalize pl L o.P=q at *;generalize pl L o.T=q2 at *;obtain⟨fd,fk,fi⟩:=q;obtain⟨qd,qk,qi⟩:=q2;generalize nmX L o.P=x at *;obtain⟨oK,oP,oT,oM,oO,oN,oD⟩:=o;try dsimp only at *
    subst h0;clear h ho g1 g2 g3 h1 hTd hTi hPi h2;have HN:=hid (two_new w #[.slice A n c] #[.int .u8 oK,.string oP,.string oT,.int .u16 oM,.int .u32 oO,.int .u32 oN,.string oD] 84 31)
    go_enter Tryz.func66,Tryz.ntmps66
    go_wp2_with fail
    try generalize ((w.alloc (.cells #[.slice A n c] 84)).alloc (.cells #[.int .u8 oK,.string oP,.string oT,.int .u16 oM,.int .u32 oO,.int .u32 oN,.string oD] 31))=w0 at *
    have Rv:=hid HN.out.1;have Ro:=hid HN.out.2.1;have B:=hid HN.out.2.2.1;clear HN;have cv0:=cl1 Rv.out;obtain⟨co0,co1,co2,co3,co4,co5,co6⟩:=cl7 Ro.out;refine (HL.out _ B.out).mono ?_;rintro e w1 ⟨rfl,hb⟩;clear cv0 co0 co1 co2 co3 co4 co5 co6;replace Rv:=gg Rv hb;replace Ro:=gg Ro hb;replace B:=gb B hb;have cv0:=cl1 Rv.out;obtain⟨co0,co1,co2,co3,co4,co5,co6⟩:=cl7 Ro.out;clear hb
    go_wp2_with (first
     | (refine new_row rfl 170 (.tmp 6) (.tmp 16) rfl rfl #[.int .u32 fd,.string fk,.int .u32 fi] rfl rfl (by kernel_rfl) rfl (row3 _ _ _) ?_;intro w2 M;clear cv0 co0 co1 co2 co3 co4 co5 co6;replace Rv:=gg Rv M.2.1;replace Ro:=gg Ro M.2.1;replace B:=gb B M.2.1;have Rf:=hid M.1;have cv0:=cl1 Rv.out;obtain⟨co0,co1,co2,co3,co4,co5,co6⟩:=cl7 Ro.out;obtain⟨cf0,cf1,cf2⟩:=cl3 Rf.out;clear M)
     | (go_at_call 107;refine (HT.out _ B.out).mono ?_;rintro e w3 ⟨rfl,hb⟩;clear cv0 co0 co1 co2 co3 co4 co5 co6 cf0 cf1 cf2;replace Rv:=gg Rv hb;replace Ro:=gg Ro hb;replace Rf:=gg Rf hb;replace B:=gb B hb;have cv0:=cl1 Rv.out;obtain⟨co0,co1,co2,co3,co4,co5,co6⟩:=cl7 Ro.out;obtain⟨cf0,cf1,cf2⟩:=cl3 Rf.out;clear hb)
     | (refine new_row rfl 170 (.tmp 8) (.tmp 26) rfl rfl #[.int .u32 qd,.string qk,.int .u32 qi] rfl rfl (by kernel_rfl) rfl (row3 _ _ _) ?_;intro w4 M;clear cv0 co0 co1 co2 co3 co4 co5 co6 cf0 cf1 cf2;replace Rv:=gg Rv M.2.1;replace Ro:=gg Ro M.2.1;replace Rf:=gg Rf M.2.1;replace B:=gb B M.2.1;have Rq:=hid M.1;have cv0:=cl1 Rv.out;obtain⟨co0,co1,co2,co3,co4,co5,co6⟩:=cl7 Ro.out;obtain⟨cf0,cf1,cf2⟩:=cl3 Rf.out;obtain⟨cq0,cq1,cq2⟩:=cl3 Rq.out;clear M)
     | (go_at_call 108;refine (HU.out _ B.out).mono ?_;rintro e w5 ⟨rfl,hb⟩;clear cv0 co0 co1 co2 co3 co4 co5 co6 cf0 cf1 cf2 cq0 cq1 cq2;replace Rv:=gg Rv hb;replace Ro:=gg Ro hb;replace Rf:=gg Rf hb;replace Rq:=gg Rq hb;replace B:=gb B hb;have cv0:=cl1 Rv.out;obtain⟨co0,co1,co2,co3,co4,co5,co6⟩:=cl7 Ro.out;obtain⟨cf0,cf1,cf2⟩:=cl3 Rf.out;obtain⟨cq0,cq1,cq2⟩:=cl3 Rq.out;clear hb))
    go_ret2
    exact CPost.err (by decide) _ B.out
   ·by_cases h3:(pl L o.T).i=(pl L o.P).i
    ·
     have HL:=hid (fun (w1:World) (hb:Below w.heap.size w w1)=>named_any (h.go hb) o.P ho.2.2.2.2.1);have HT:=hid (fun (w1:World) (hb:Below w.heap.size w w1)=>place_any (h.go hb) o.T ho.2.2.2.2.2.1);unfold rnX;rw [if_neg h0];have h0:=Decidable.not_not.1 h0;obtain⟨g1,g2,g3⟩:=nm_0 h0;rw [g1] at HL;rw [if_neg h1];have h1:=Decidable.not_not.1 h1;rw [h1] at HT;have hTd:=(pl_lt h.rg o.T).1;have hTi:=(pl_lt h.rg o.T).2;have hPi:=(pl_lt h.rg o.P).2;have HU:=hid (fun (w1:World) (hb:Below w.heap.size w w1)=>under_any' (h.go hb) (pl L o.T).d (pl L o.P).i hTd (pl_up h.rg h1));have h2:undr L (pl L o.T).d (pl L o.P).i=false:=by simpa using h2
     rw [h2] at HU ⊢;rw [if_neg (by decide)];rw [if_pos h3];have e1:rnC L o=[]:=by unfold rnC;rw [if_pos h3]
     rw [e1];have e6:=eqU h3;clear e1;generalize pl L o.P=q at *;generalize pl L o.T=q2 at *;obtain⟨fd,fk,fi⟩:=q;obtain⟨qd,qk,qi⟩:=q2;generalize nmX L o.P=x at *;obtain⟨oK,oP,oT,oM,oO,oN,oD⟩:=o;try dsimp only at *
     subst h0;clear h ho g1 g2 g3 h1 hTd hTi hPi h2 h3;have HN:=hid (two_new w #[.slice A n c] #[.int .u8 oK,.string oP,.string oT,.int .u16 oM,.int .u32 oO,.int .u32 oN,.string oD] 84 31)
     go_enter Tryz.func66,Tryz.ntmps66
     go_wp2_with fail
     try generalize ((w.alloc (.cells #[.slice A n c] 84)).alloc (.cells #[.int .u8 oK,.string oP,.string oT,.int .u16 oM,.int .u32 oO,.int .u32 oN,.string oD] 31))=w0 at *
     have Rv:=hid HN.out.1;have Ro:=hid HN.out.2.1;have B:=hid HN.out.2.2.1;clear HN;have cv0:=cl1 Rv.out;obtain⟨co0,co1,co2,co3,co4,co5,co6⟩:=cl7 Ro.out;refine (HL.out _ B.out).mono ?_;rintro e w1 ⟨rfl,hb⟩;clear cv0 co0 co1 co2 co3 co4 co5 co6;replace Rv:=gg Rv hb;replace Ro:=gg Ro hb;replace B:=gb B hb;have cv0:=cl1 Rv.out;obtain⟨co0,co1,co2,co3,co4,co5,co6⟩:=cl7 Ro.out;clear hb
     go_wp2_with (first
      | (refine new_row rfl 170 (.tmp 6) (.tmp 16) rfl rfl #[.int .u32 fd,.string fk,.int .u32 fi] rfl rfl (by kernel_rfl) rfl (row3 _ _ _) ?_;intro w2 M;clear cv0 co0 co1 co2 co3 co4 co5 co6;replace Rv:=gg Rv M.2.1;replace Ro:=gg Ro M.2.1;replace B:=gb B M.2.1;have Rf:=hid M.1;have cv0:=cl1 Rv.out;obtain⟨co0,co1,co2,co3,co4,co5,co6⟩:=cl7 Ro.out;obtain⟨cf0,cf1,cf2⟩:=cl3 Rf.out;clear M)
      | (go_at_call 107;refine (HT.out _ B.out).mono ?_;rintro e w3 ⟨rfl,hb⟩;clear cv0 co0 co1 co2 co3 co4 co5 co6 cf0 cf1 cf2;replace Rv:=gg Rv hb;replace Ro:=gg Ro hb;replace Rf:=gg Rf hb;replace B:=gb B hb;have cv0:=cl1 Rv.out;obtain⟨co0,co1,co2,co3,co4,co5,co6⟩:=cl7 Ro.out;obtain⟨cf0,cf1,cf2⟩:=cl3 Rf.out;clear hb)
      | (refine new_row rfl 170 (.tmp 8) (.tmp 26) rfl rfl #[.int .u32 qd,.string qk,.int .u32 qi] rfl rfl (by kernel_rfl) rfl (row3 _ _ _) ?_;intro w4 M;clear cv0 co0 co1 co2 co3 co4 co5 co6 cf0 cf1 cf2;replace Rv:=gg Rv M.2.1;replace Ro:=gg Ro M.2.1;replace Rf:=gg Rf M.2.1;replace B:=gb B M.2.1;have Rq:=hid M.1;have cv0:=cl1 Rv.out;obtain⟨co0,co1,co2,co3,co4,co5,co6⟩:=cl7 Ro.out;obtain⟨cf0,cf1,cf2⟩:=cl3 Rf.out;obtain⟨cq0,cq1,cq2⟩:=cl3 Rq.out;clear M)
      | (go_at_call 108;refine (HU.out _ B.out).mono ?_;rintro e w5 ⟨rfl,hb⟩;clear cv0 co0 co1 co2 co3 co4 co5 co6 cf0 cf1 cf2 cq0 cq1 cq2;replace Rv:=gg Rv hb;replace Ro:=gg Ro hb;replace Rf:=gg Rf hb;replace Rq:=gg Rq hb;replace B:=gb B hb;have cv0:=cl1 Rv.out;obtain⟨co0,co1,co2,co3,co4,co5,co6⟩:=cl7 Ro.out;obtain⟨cf0,cf1,cf2⟩:=cl3 Rf.out;obtain⟨cq0,cq1,cq2⟩:=cl3 Rq.out;clear hb))
     go_ret2
     exact⟨_,rfl,Mk.nil B.out⟩
    ·by_cases h4:(pl L o.T).i=0
     ·
      have HL:=hid (fun (w1:World) (hb:Below w.heap.size w w1)=>named_any (h.go hb) o.P ho.2.2.2.2.1);have HT:=hid (fun (w1:World) (hb:Below w.heap.size w w1)=>place_any (h.go hb) o.T ho.2.2.2.2.2.1);unfold rnX;rw [if_neg h0];have h0:=Decidable.not_not.1 h0;obtain⟨g1,g2,g3⟩:=nm_0 h0;rw [g1] at HL;rw [if_neg h1];have h1:=Decidable.not_not.1 h1;rw [h1] at HT;have hTd:=(pl_lt h.rg o.T).1;have hTi:=(pl_lt h.rg o.T).2;have hPi:=(pl_lt h.rg o.P).2;have HU:=hid (fun (w1:World) (hb:Below w.heap.size w w1)=>under_any' (h.go hb) (pl L o.T).d (pl L o.P).i hTd (pl_up h.rg h1));have h2:undr L (pl L o.T).d (pl L o.P).i=false:=by simpa using h2
      rw [h2] at HU ⊢;rw [if_neg (by decide)];rw [if_neg h3];have e6:=neU h3;have HS:=hid (fun w=>isFree_any (pl L o.P) w);have HM:=hid (fun w=>names_any (pl L o.T) (pl L o.P).i hPi w);rw [if_pos h4];have e7:=eqZ h4;obtain⟨a,ha⟩:∃ a,isFree (pl L o.P)=a:=⟨_,rfl⟩;obtain⟨b,hb⟩:∃ b,names (pl L o.T) (pl L o.P).i=b:=⟨_,rfl⟩;rw [ha] at HS;rw [hb] at HM;have e8:rnC L o=([]:List Ch)++[a,b]:=by unfold rnC;rw [if_neg h3,if_pos h4,ha,hb]
      rw [e8];obtain⟨ak,ab,av⟩:=a;obtain⟨bk,bb,bv⟩:=b;dsimp only [Sc.enc] at HS HM;clear ha hb e8;generalize pl L o.P=q at *;generalize pl L o.T=q2 at *;obtain⟨fd,fk,fi⟩:=q;obtain⟨qd,qk,qi⟩:=q2;generalize nmX L o.P=x at *;obtain⟨oK,oP,oT,oM,oO,oN,oD⟩:=o;try dsimp only at *
      subst h0;clear h ho g1 g2 g3 h1 hTd hTi hPi h2 h3 h4;have HN:=hid (two_new w #[.slice A n c] #[.int .u8 oK,.string oP,.string oT,.int .u16 oM,.int .u32 oO,.int .u32 oN,.string oD] 84 31)
      go_enter Tryz.func66,Tryz.ntmps66
      go_wp2_with fail
      try generalize ((w.alloc (.cells #[.slice A n c] 84)).alloc (.cells #[.int .u8 oK,.string oP,.string oT,.int .u16 oM,.int .u32 oO,.int .u32 oN,.string oD] 31))=w0 at *
      have Rv:=hid HN.out.1;have Ro:=hid HN.out.2.1;have B:=hid HN.out.2.2.1;clear HN;have cv0:=cl1 Rv.out;obtain⟨co0,co1,co2,co3,co4,co5,co6⟩:=cl7 Ro.out;refine (HL.out _ B.out).mono ?_;rintro e w1 ⟨rfl,hb⟩;clear cv0 co0 co1 co2 co3 co4 co5 co6;replace Rv:=gg Rv hb;replace Ro:=gg Ro hb;replace B:=gb B hb;have cv0:=cl1 Rv.out;obtain⟨co0,co1,co2,co3,co4,co5,co6⟩:=cl7 Ro.out;clear hb
      go_wp2_with (first
       | (refine new_row rfl 170 (.tmp 6) (.tmp 16) rfl rfl #[.int .u32 fd,.string fk,.int .u32 fi] rfl rfl (by kernel_rfl) rfl (row3 _ _ _) ?_;intro w2 M;clear cv0 co0 co1 co2 co3 co4 co5 co6;replace Rv:=gg Rv M.2.1;replace Ro:=gg Ro M.2.1;replace B:=gb B M.2.1;have Rf:=hid M.1;have cv0:=cl1 Rv.out;obtain⟨co0,co1,co2,co3,co4,co5,co6⟩:=cl7 Ro.out;obtain⟨cf0,cf1,cf2⟩:=cl3 Rf.out;clear M)
       | (go_at_call 107;refine (HT.out _ B.out).mono ?_;rintro e w3 ⟨rfl,hb⟩;clear cv0 co0 co1 co2 co3 co4 co5 co6 cf0 cf1 cf2;replace Rv:=gg Rv hb;replace Ro:=gg Ro hb;replace Rf:=gg Rf hb;replace B:=gb B hb;have cv0:=cl1 Rv.out;obtain⟨co0,co1,co2,co3,co4,co5,co6⟩:=cl7 Ro.out;obtain⟨cf0,cf1,cf2⟩:=cl3 Rf.out;clear hb)
       | (refine new_row rfl 170 (.tmp 8) (.tmp 26) rfl rfl #[.int .u32 qd,.string qk,.int .u32 qi] rfl rfl (by kernel_rfl) rfl (row3 _ _ _) ?_;intro w4 M;clear cv0 co0 co1 co2 co3 co4 co5 co6 cf0 cf1 cf2;replace Rv:=gg Rv M.2.1;replace Ro:=gg Ro M.2.1;replace Rf:=gg Rf M.2.1;replace B:=gb B M.2.1;have Rq:=hid M.1;have cv0:=cl1 Rv.out;obtain⟨co0,co1,co2,co3,co4,co5,co6⟩:=cl7 Ro.out;obtain⟨cf0,cf1,cf2⟩:=cl3 Rf.out;obtain⟨cq0,cq1,cq2⟩:=cl3 Rq.out;clear M)
       | (go_at_call 108;refine (HU.out _ B.out).mono ?_;rintro e w5 ⟨rfl,hb⟩;clear cv0 co0 co1 co2 co3 co4 co5 co6 cf0 cf1 cf2 cq0 cq1 cq2;replace Rv:=gg Rv hb;replace Ro:=gg Ro hb;replace Rf:=gg Rf hb;replace Rq:=gg Rq hb;replace B:=gb B hb;have cv0:=cl1 Rv.out;obtain⟨co0,co1,co2,co3,co4,co5,co6⟩:=cl7 Ro.out;obtain⟨cf0,cf1,cf2⟩:=cl3 Rf.out;obtain⟨cq0,cq1,cq2⟩:=cl3 Rq.out;clear hb))
      refine wp_region_S (fun w'=>Below w5.heap.size w5 w') 6 (by kernel_rfl) (by kernel_rfl) (by kernel_rfl) ((Below.refl _ _).drew) ?_;simp only [List.take_succ_cons,List.take_zero];refine wpG_val (.agg #[.int .u32 fd,.string fk,.int .u32 fi]) rfl (by rfl) (fun w' hSw=>load_all 170 (.tmp 6) rfl (w1.heap.size) rfl (Rf.out.go hSw) Tryz.underlying170 rfl (by kernel_rfl)) ?_;simp only [Gw2ighta,Gw2ightb,Gw2ightc];refine wpG_call (.agg #[.string ak,.bool ab,.string av]) 109 #[.agg #[.int .u32 fd,.string fk,.int .u32 fi]] rfl (by rfl) (fun w'=>by go_simp) (fun w' hSw=>(HS.out w').mono fun e w2 h=>⟨h.1,hSw.trans (h.2.mono hSw.size)⟩) ?_;simp only [Gw2ighta,Gw2ightb,Gw2ightc];refine wpG_val (.agg #[.int .u32 qd,.string qk,.int .u32 qi]) rfl (by rfl) (fun w' hSw=>load_all 170 (.tmp 8) rfl (w3.heap.size) rfl (Rq.out.go hSw) Tryz.underlying170 rfl (by kernel_rfl)) ?_;simp only [Gw2ighta,Gw2ightb,Gw2ightc]
      refine wpG_val (.pointer (some ⟨w1.heap.size,2,none⟩)) rfl (by rfl) (fun w' hSw=>by go_simp) ?_;simp only [Gw2ighta,Gw2ightb,Gw2ightc];refine wpG_val (.int .u32 fi) rfl (by rfl) (fun w' hSw=>by have c:=(Rf.out.go hSw).cell 2 _ rfl;go_simp) ?_;simp only [Gw2ighta,Gw2ightb,Gw2ightc];refine wpG_call (.agg #[.string bk,.bool bb,.string bv]) 103 #[.agg #[.int .u32 qd,.string qk,.int .u32 qi],.int .u32 fi] rfl (by rfl) (fun w'=>by go_simp) (fun w' hSw=>(HM.out w').mono fun e w2 h=>⟨h.1,hSw.trans (h.2.mono hSw.size)⟩) ?_;simp only [Gw2ighta,Gw2ightb,Gw2ightc];refine wpG_nil ?_;intro w6 hb;simp only [List.drop_succ_cons,List.drop_zero];clear cv0 co0 co1 co2 co3 co4 co5 co6 cf0 cf1 cf2 cq0 cq1 cq2;replace Rv:=gg Rv hb;replace Ro:=gg Ro hb;replace Rf:=gg Rf hb;replace Rq:=gg Rq hb;replace B:=gb B hb;have cv0:=cl1 Rv.out;obtain⟨co0,co1,co2,co3,co4,co5,co6⟩:=cl7 Ro.out;obtain⟨cf0,cf1,cf2⟩:=cl3 Rf.out
      obtain⟨cq0,cq1,cq2⟩:=cl3 Rq.out;clear hb;have hM2:=lit2 B.out ak ab av bk bb bv;have hb2:Below w6.heap.size w6 (w6.alloc (.cells #[.string ak,.bool ab,.string av,.string bk,.bool bb,.string bv] 138)):=(Below.refl _ _).alloc (Nat.le_refl _) _;clear cv0 co0 co1 co2 co3 co4 co5 co6 cf0 cf1 cf2 cq0 cq1 cq2;replace Rv:=gg Rv hb2;replace Ro:=gg Ro hb2;replace Rf:=gg Rf hb2;replace Rq:=gg Rq hb2;replace B:=gb B hb2;have HM2:=hid hM2;obtain⟨z9,hz9⟩:∃ z,w6.heap.size=z:=⟨_,rfl⟩;rw [hz9] at HM2;clear hM2 hb2;have cv0:=cl1 Rv.out;obtain⟨co0,co1,co2,co3,co4,co5,co6⟩:=cl7 Ro.out;obtain⟨cf0,cf1,cf2⟩:=cl3 Rf.out;obtain⟨cq0,cq1,cq2⟩:=cl3 Rq.out
      go_wp2
      go_ret2
      try rw [hz9]
      exact cok HM2.out
     ·by_cases h5:rpX L (pl L o.P).i (pl L o.T).i=0
      ·
       have HL:=hid (fun (w1:World) (hb:Below w.heap.size w w1)=>named_any (h.go hb) o.P ho.2.2.2.2.1);have HT:=hid (fun (w1:World) (hb:Below w.heap.size w w1)=>place_any (h.go hb) o.T ho.2.2.2.2.2.1);unfold rnX;rw [if_neg h0];have h0:=Decidable.not_not.1 h0;obtain⟨g1,g2,g3⟩:=nm_0 h0;rw [g1] at HL;rw [if_neg h1];have h1:=Decidable.not_not.1 h1;rw [h1] at HT;have hTd:=(pl_lt h.rg o.T).1;have hTi:=(pl_lt h.rg o.T).2;have hPi:=(pl_lt h.rg o.P).2;have HU:=hid (fun (w1:World) (hb:Below w.heap.size w w1)=>under_any' (h.go hb) (pl L o.T).d (pl L o.P).i hTd (pl_up h.rg h1));have h2:undr L (pl L o.T).d (pl L o.P).i=false:=by simpa using h2
       rw [h2] at HU ⊢;rw [if_neg (by decide)];rw [if_neg h3];have e6:=neU h3;have HS:=hid (fun w=>isFree_any (pl L o.P) w);have HM:=hid (fun w=>names_any (pl L o.T) (pl L o.P).i hPi w);rw [if_neg h4];have e7:=neZ h4;have HR:=hid (fun (w1:World) (hb:Below w.heap.size w w1)=>replaces_any (h.go hb) (pl L o.P).i (pl L o.T).i hPi hTi);rw [h5] at HR ⊢;have HG:=hid (fun (w1:World) (hb:Below w.heap.size w w1)=>letGo_any (h.go hb) (pl L o.T) hTi);have hll:=letGo_len (pl L o.T) L;have HDL:=hid (show (letGo L (pl L o.T)).length+2≤3518437208883 by have:=h.it.1;have:=h.it.2.1;omega);obtain⟨a,ha⟩:∃ a,isFree (pl L o.P)=a:=⟨_,rfl⟩;obtain⟨b,hb⟩:∃ b,names (pl L o.T) (pl L o.P).i=b:=⟨_,rfl⟩;rw [ha] at HS;rw [hb] at HM;have e8:rnC L o=letGo L (pl L o.T)++[a,b]:=by unfold rnC;rw [if_neg h3,if_neg h4,ha,hb]
       rw [e8];obtain⟨ak,ab,av⟩:=a;obtain⟨bk,bb,bv⟩:=b;dsimp only [Sc.enc] at HS HM;clear ha hb e8;generalize letGo L (pl L o.T)=D at *;generalize pl L o.P=q at *;generalize pl L o.T=q2 at *;obtain⟨fd,fk,fi⟩:=q;obtain⟨qd,qk,qi⟩:=q2;generalize nmX L o.P=x at *;obtain⟨oK,oP,oT,oM,oO,oN,oD⟩:=o;try dsimp only at *
       subst h0;clear h ho g1 g2 g3 h1 hTd hTi hPi h2 h3 h4 h5 hll;have HN:=hid (two_new w #[.slice A n c] #[.int .u8 oK,.string oP,.string oT,.int .u16 oM,.int .u32 oO,.int .u32 oN,.string oD] 84 31)
       go_enter Tryz.func66,Tryz.ntmps66
       go_wp2_with fail
       try generalize ((w.alloc (.cells #[.slice A n c] 84)).alloc (.cells #[.int .u8 oK,.string oP,.string oT,.int .u16 oM,.int .u32 oO,.int .u32 oN,.string oD] 31))=w0 at *
       have Rv:=hid HN.out.1;have Ro:=hid HN.out.2.1;have B:=hid HN.out.2.2.1;clear HN;have cv0:=cl1 Rv.out;obtain⟨co0,co1,co2,co3,co4,co5,co6⟩:=cl7 Ro.out;refine (HL.out _ B.out).mono ?_;rintro e w1 ⟨rfl,hb⟩;clear cv0 co0 co1 co2 co3 co4 co5 co6;replace Rv:=gg Rv hb;replace Ro:=gg Ro hb;replace B:=gb B hb;have cv0:=cl1 Rv.out;obtain⟨co0,co1,co2,co3,co4,co5,co6⟩:=cl7 Ro.out;clear hb
       go_wp2_with (first
        | (refine new_row rfl 170 (.tmp 6) (.tmp 16) rfl rfl #[.int .u32 fd,.string fk,.int .u32 fi] rfl rfl (by kernel_rfl) rfl (row3 _ _ _) ?_;intro w2 M;clear cv0 co0 co1 co2 co3 co4 co5 co6;replace Rv:=gg Rv M.2.1;replace Ro:=gg Ro M.2.1;replace B:=gb B M.2.1;have Rf:=hid M.1;have cv0:=cl1 Rv.out;obtain⟨co0,co1,co2,co3,co4,co5,co6⟩:=cl7 Ro.out;obtain⟨cf0,cf1,cf2⟩:=cl3 Rf.out;clear M)
        | (go_at_call 107;refine (HT.out _ B.out).mono ?_;rintro e w3 ⟨rfl,hb⟩;clear cv0 co0 co1 co2 co3 co4 co5 co6 cf0 cf1 cf2;replace Rv:=gg Rv hb;replace Ro:=gg Ro hb;replace Rf:=gg Rf hb;replace B:=gb B hb;have cv0:=cl1 Rv.out;obtain⟨co0,co1,co2,co3,co4,co5,co6⟩:=cl7 Ro.out;obtain⟨cf0,cf1,cf2⟩:=cl3 Rf.out;clear hb)
        | (refine new_row rfl 170 (.tmp 8) (.tmp 26) rfl rfl #[.int .u32 qd,.string qk,.int .u32 qi] rfl rfl (by kernel_rfl) rfl (row3 _ _ _) ?_;intro w4 M;clear cv0 co0 co1 co2 co3 co4 co5 co6 cf0 cf1 cf2;replace Rv:=gg Rv M.2.1;replace Ro:=gg Ro M.2.1;replace Rf:=gg Rf M.2.1;replace B:=gb B M.2.1;have Rq:=hid M.1;have cv0:=cl1 Rv.out;obtain⟨co0,co1,co2,co3,co4,co5,co6⟩:=cl7 Ro.out;obtain⟨cf0,cf1,cf2⟩:=cl3 Rf.out;obtain⟨cq0,cq1,cq2⟩:=cl3 Rq.out;clear M)
        | (go_at_call 108;refine (HU.out _ B.out).mono ?_;rintro e w5 ⟨rfl,hb⟩;clear cv0 co0 co1 co2 co3 co4 co5 co6 cf0 cf1 cf2 cq0 cq1 cq2;replace Rv:=gg Rv hb;replace Ro:=gg Ro hb;replace Rf:=gg Rf hb;replace Rq:=gg Rq hb;replace B:=gb B hb;have cv0:=cl1 Rv.out;obtain⟨co0,co1,co2,co3,co4,co5,co6⟩:=cl7 Ro.out;obtain⟨cf0,cf1,cf2⟩:=cl3 Rf.out;obtain⟨cq0,cq1,cq2⟩:=cl3 Rq.out;clear hb))
       refine wp_region_S (fun w'=>Below w5.heap.size w5 w') 6 (by kernel_rfl) (by kernel_rfl) (by kernel_rfl) ((Below.refl _ _).drew) ?_;simp only [List.take_succ_cons,List.take_zero];refine wpG_val (.agg #[.int .u32 fd,.string fk,.int .u32 fi]) rfl (by rfl) (fun w' hSw=>load_all 170 (.tmp 6) rfl (w1.heap.size) rfl (Rf.out.go hSw) Tryz.underlying170 rfl (by kernel_rfl)) ?_;simp only [Gw2ighta,Gw2ightb,Gw2ightc];refine wpG_call (.agg #[.string ak,.bool ab,.string av]) 109 #[.agg #[.int .u32 fd,.string fk,.int .u32 fi]] rfl (by rfl) (fun w'=>by go_simp) (fun w' hSw=>(HS.out w').mono fun e w2 h=>⟨h.1,hSw.trans (h.2.mono hSw.size)⟩) ?_;simp only [Gw2ighta,Gw2ightb,Gw2ightc];refine wpG_val (.agg #[.int .u32 qd,.string qk,.int .u32 qi]) rfl (by rfl) (fun w' hSw=>load_all 170 (.tmp 8) rfl (w3.heap.size) rfl (Rq.out.go hSw) Tryz.underlying170 rfl (by kernel_rfl)) ?_;simp only [Gw2ighta,Gw2ightb,Gw2ightc]
       refine wpG_val (.pointer (some ⟨w1.heap.size,2,none⟩)) rfl (by rfl) (fun w' hSw=>by go_simp) ?_;simp only [Gw2ighta,Gw2ightb,Gw2ightc];refine wpG_val (.int .u32 fi) rfl (by rfl) (fun w' hSw=>by have c:=(Rf.out.go hSw).cell 2 _ rfl;go_simp) ?_;simp only [Gw2ighta,Gw2ightb,Gw2ightc];refine wpG_call (.agg #[.string bk,.bool bb,.string bv]) 103 #[.agg #[.int .u32 qd,.string qk,.int .u32 qi],.int .u32 fi] rfl (by rfl) (fun w'=>by go_simp) (fun w' hSw=>(HM.out w').mono fun e w2 h=>⟨h.1,hSw.trans (h.2.mono hSw.size)⟩) ?_;simp only [Gw2ighta,Gw2ightb,Gw2ightc];refine wpG_nil ?_;intro w6 hb;simp only [List.drop_succ_cons,List.drop_zero];clear cv0 co0 co1 co2 co3 co4 co5 co6 cf0 cf1 cf2 cq0 cq1 cq2;replace Rv:=gg Rv hb;replace Ro:=gg Ro hb;replace Rf:=gg Rf hb;replace Rq:=gg Rq hb;replace B:=gb B hb;have cv0:=cl1 Rv.out;obtain⟨co0,co1,co2,co3,co4,co5,co6⟩:=cl7 Ro.out;obtain⟨cf0,cf1,cf2⟩:=cl3 Rf.out
       obtain⟨cq0,cq1,cq2⟩:=cl3 Rq.out;clear hb;have hM2:=lit2 B.out ak ab av bk bb bv;have hb2:Below w6.heap.size w6 (w6.alloc (.cells #[.string ak,.bool ab,.string av,.string bk,.bool bb,.string bv] 138)):=(Below.refl _ _).alloc (Nat.le_refl _) _;clear cv0 co0 co1 co2 co3 co4 co5 co6 cf0 cf1 cf2 cq0 cq1 cq2;replace Rv:=gg Rv hb2;replace Ro:=gg Ro hb2;replace Rf:=gg Rf hb2;replace Rq:=gg Rq hb2;replace B:=gb B hb2;have HM2:=hid hM2;obtain⟨z9,hz9⟩:∃ z,w6.heap.size=z:=⟨_,rfl⟩;rw [hz9] at HM2;clear hM2 hb2;have cv0:=cl1 Rv.out;obtain⟨co0,co1,co2,co3,co4,co5,co6⟩:=cl7 Ro.out;obtain⟨cf0,cf1,cf2⟩:=cl3 Rf.out;obtain⟨cq0,cq1,cq2⟩:=cl3 Rq.out
       go_wp2_with fail
       generalize hE:w6.alloc (.cells #[.string ak,.bool ab,.string av,.string bk,.bool bb,.string bv] 138)=w7 at *;clear hE;try rw [hz9]
       refine (HR.out _ B.out).mono ?_;rintro e w8 ⟨rfl,hb⟩;clear cv0 co0 co1 co2 co3 co4 co5 co6 cf0 cf1 cf2 cq0 cq1 cq2;replace Rv:=gg Rv hb;replace Ro:=gg Ro hb;replace Rf:=gg Rf hb;replace Rq:=gg Rq hb;replace HM2:=hid (HM2.out.go hb);replace B:=gb B hb;have cv0:=cl1 Rv.out;obtain⟨co0,co1,co2,co3,co4,co5,co6⟩:=cl7 Ro.out;obtain⟨cf0,cf1,cf2⟩:=cl3 Rf.out;obtain⟨cq0,cq1,cq2⟩:=cl3 Rq.out;clear hb
       go_wp2_with (first
        | (go_at_call 111;refine (HG.out _ B.out).mono ?_;rintro e w9 ⟨v5,rfl,hm⟩;have hb:=hm.2;have HM5:=hid (hm.since B.out);clear cv0 co0 co1 co2 co3 co4 co5 co6 cf0 cf1 cf2 cq0 cq1 cq2;replace Rv:=gg Rv hb;replace Ro:=gg Ro hb;replace Rf:=gg Rf hb;replace Rq:=gg Rq hb;replace HM2:=hid (HM2.out.go hb);replace B:=gb B hb;clear hm;have cv0:=cl1 Rv.out;obtain⟨co0,co1,co2,co3,co4,co5,co6⟩:=cl7 Ro.out;obtain⟨cf0,cf1,cf2⟩:=cl3 Rf.out;obtain⟨cq0,cq1,cq2⟩:=cl3 Rq.out;clear hb)
        | (at_builtin;have hl9:Ls Sc.enc 3 w9 w9.heap.size (some ⟨z9,0,none⟩) [(⟨ak,ab,av⟩:Ch),⟨bk,bb,bv⟩]:=(by obtain⟨A9,c9,hv9,_,_,h9⟩:=HM2.out.ls Sc.enc_len;injection hv9 with h1 h2 h3;rw [h1];exact h9);refine It.catC HM5.out [(⟨ak,ab,av⟩:Ch),⟨bk,bb,bv⟩] _ 2 2 rfl hl9 HDL.out rfl _ _ rfl rfl rfl ?_;intro v9 w9 hM9 hG9;have HM9:=hid hM9;clear hM9 hG9 hl9))
       go_ret2
       exact cok HM9.out
      ·
       have HL:=hid (fun (w1:World) (hb:Below w.heap.size w w1)=>named_any (h.go hb) o.P ho.2.2.2.2.1);have HT:=hid (fun (w1:World) (hb:Below w.heap.size w w1)=>place_any (h.go hb) o.T ho.2.2.2.2.2.1);unfold rnX;rw [if_neg h0];have h0:=Decidable.not_not.1 h0;obtain⟨g1,g2,g3⟩:=nm_0 h0;rw [g1] at HL;rw [if_neg h1];have h1:=Decidable.not_not.1 h1;rw [h1] at HT;have hTd:=(pl_lt h.rg o.T).1;have hTi:=(pl_lt h.rg o.T).2;have hPi:=(pl_lt h.rg o.P).2;have HU:=hid (fun (w1:World) (hb:Below w.heap.size w w1)=>under_any' (h.go hb) (pl L o.T).d (pl L o.P).i hTd (pl_up h.rg h1));have h2:undr L (pl L o.T).d (pl L o.P).i=false:=by simpa using h2
       rw [h2] at HU ⊢;rw [if_neg (by decide)];rw [if_neg h3];have e6:=neU h3;have HS:=hid (fun w=>isFree_any (pl L o.P) w);have HM:=hid (fun w=>names_any (pl L o.T) (pl L o.P).i hPi w);rw [if_neg h4];have e7:=neZ h4;have HR:=hid (fun (w1:World) (hb:Below w.heap.size w w1)=>replaces_any (h.go hb) (pl L o.P).i (pl L o.T).i hPi hTi);generalize rpX L (pl L o.P).i (pl L o.T).i=z at *;generalize rnC L o=D at *;generalize pl L o.P=q at *;generalize pl L o.T=q2 at *;obtain⟨fd,fk,fi⟩:=q;obtain⟨qd,qk,qi⟩:=q2;generalize nmX L o.P=x at *;obtain⟨oK,oP,oT,oM,oO,oN,oD⟩:=o;try dsimp only at *
       subst h0;have e9:=ne0 h5;have HE:=hid h5;obtain⟨a,ha⟩:∃ a,isFree ⟨fd,fk,fi⟩=a:=⟨_,rfl⟩;obtain⟨b,hb⟩:∃ b,names ⟨qd,qk,qi⟩ fi=b:=⟨_,rfl⟩;rw [ha] at HS;rw [hb] at HM;obtain⟨ak,ab,av⟩:=a;obtain⟨bk,bb,bv⟩:=b;dsimp only [Sc.enc] at HS HM;clear h ho g1 g2 g3 h1 hTd hTi hPi h2 h3 h4 h5 ha hb;have HN:=hid (two_new w #[.slice A n c] #[.int .u8 oK,.string oP,.string oT,.int .u16 oM,.int .u32 oO,.int .u32 oN,.string oD] 84 31)
       go_enter Tryz.func66,Tryz.ntmps66
       go_wp2_with fail
       try generalize ((w.alloc (.cells #[.slice A n c] 84)).alloc (.cells #[.int .u8 oK,.string oP,.string oT,.int .u16 oM,.int .u32 oO,.int .u32 oN,.string oD] 31))=w0 at *
       have Rv:=hid HN.out.1;have Ro:=hid HN.out.2.1;have B:=hid HN.out.2.2.1;clear HN;have cv0:=cl1 Rv.out;obtain⟨co0,co1,co2,co3,co4,co5,co6⟩:=cl7 Ro.out;refine (HL.out _ B.out).mono ?_;rintro e w1 ⟨rfl,hb⟩;clear cv0 co0 co1 co2 co3 co4 co5 co6;replace Rv:=gg Rv hb;replace Ro:=gg Ro hb;replace B:=gb B hb;have cv0:=cl1 Rv.out;obtain⟨co0,co1,co2,co3,co4,co5,co6⟩:=cl7 Ro.out;clear hb
       go_wp2_with (first
        | (refine new_row rfl 170 (.tmp 6) (.tmp 16) rfl rfl #[.int .u32 fd,.string fk,.int .u32 fi] rfl rfl (by kernel_rfl) rfl (row3 _ _ _) ?_;intro w2 M;clear cv0 co0 co1 co2 co3 co4 co5 co6;replace Rv:=gg Rv M.2.1;replace Ro:=gg Ro M.2.1;replace B:=gb B M.2.1;have Rf:=hid M.1;have cv0:=cl1 Rv.out;obtain⟨co0,co1,co2,co3,co4,co5,co6⟩:=cl7 Ro.out;obtain⟨cf0,cf1,cf2⟩:=cl3 Rf.out;clear M)
        | (go_at_call 107;refine (HT.out _ B.out).mono ?_;rintro e w3 ⟨rfl,hb⟩;clear cv0 co0 co1 co2 co3 co4 co5 co6 cf0 cf1 cf2;replace Rv:=gg Rv hb;replace Ro:=gg Ro hb;replace Rf:=gg Rf hb;replace B:=gb B hb;have cv0:=cl1 Rv.out;obtain⟨co0,co1,co2,co3,co4,co5,co6⟩:=cl7 Ro.out;obtain⟨cf0,cf1,cf2⟩:=cl3 Rf.out;clear hb)
        | (refine new_row rfl 170 (.tmp 8) (.tmp 26) rfl rfl #[.int .u32 qd,.string qk,.int .u32 qi] rfl rfl (by kernel_rfl) rfl (row3 _ _ _) ?_;intro w4 M;clear cv0 co0 co1 co2 co3 co4 co5 co6 cf0 cf1 cf2;replace Rv:=gg Rv M.2.1;replace Ro:=gg Ro M.2.1;replace Rf:=gg Rf M.2.1;replace B:=gb B M.2.1;have Rq:=hid M.1;have cv0:=cl1 Rv.out;obtain⟨co0,co1,co2,co3,co4,co5,co6⟩:=cl7 Ro.out;obtain⟨cf0,cf1,cf2⟩:=cl3 Rf.out;obtain⟨cq0,cq1,cq2⟩:=cl3 Rq.out;clear M)
        | (go_at_call 108;refine (HU.out _ B.out).mono ?_;rintro e w5 ⟨rfl,hb⟩;clear cv0 co0 co1 co2 co3 co4 co5 co6 cf0 cf1 cf2 cq0 cq1 cq2;replace Rv:=gg Rv hb;replace Ro:=gg Ro hb;replace Rf:=gg Rf hb;replace Rq:=gg Rq hb;replace B:=gb B hb;have cv0:=cl1 Rv.out;obtain⟨co0,co1,co2,co3,co4,co5,co6⟩:=cl7 Ro.out;obtain⟨cf0,cf1,cf2⟩:=cl3 Rf.out;obtain⟨cq0,cq1,cq2⟩:=cl3 Rq.out;clear hb))
       refine wp_region_S (fun w'=>Below w5.heap.size w5 w') 6 (by kernel_rfl) (by kernel_rfl) (by kernel_rfl) ((Below.refl _ _).drew) ?_;simp only [List.take_succ_cons,List.take_zero];refine wpG_val (.agg #[.int .u32 fd,.string fk,.int .u32 fi]) rfl (by rfl) (fun w' hSw=>load_all 170 (.tmp 6) rfl (w1.heap.size) rfl (Rf.out.go hSw) Tryz.underlying170 rfl (by kernel_rfl)) ?_;simp only [Gw2ighta,Gw2ightb,Gw2ightc];refine wpG_call (.agg #[.string ak,.bool ab,.string av]) 109 #[.agg #[.int .u32 fd,.string fk,.int .u32 fi]] rfl (by rfl) (fun w'=>by go_simp) (fun w' hSw=>(HS.out w').mono fun e w2 h=>⟨h.1,hSw.trans (h.2.mono hSw.size)⟩) ?_;simp only [Gw2ighta,Gw2ightb,Gw2ightc];refine wpG_val (.agg #[.int .u32 qd,.string qk,.int .u32 qi]) rfl (by rfl) (fun w' hSw=>load_all 170 (.tmp 8) rfl (w3.heap.size) rfl (Rq.out.go hSw) Tryz.underlying170 rfl (by kernel_rfl)) ?_;simp only [Gw2ighta,Gw2ightb,Gw2ightc]
       refine wpG_val (.pointer (some ⟨w1.heap.size,2,none⟩)) rfl (by rfl) (fun w' hSw=>by go_simp) ?_;simp only [Gw2ighta,Gw2ightb,Gw2ightc];refine wpG_val (.int .u32 fi) rfl (by rfl) (fun w' hSw=>by have c:=(Rf.out.go hSw).cell 2 _ rfl;go_simp) ?_;simp only [Gw2ighta,Gw2ightb,Gw2ightc];refine wpG_call (.agg #[.string bk,.bool bb,.string bv]) 103 #[.agg #[.int .u32 qd,.string qk,.int .u32 qi],.int .u32 fi] rfl (by rfl) (fun w'=>by go_simp) (fun w' hSw=>(HM.out w').mono fun e w2 h=>⟨h.1,hSw.trans (h.2.mono hSw.size)⟩) ?_;simp only [Gw2ighta,Gw2ightb,Gw2ightc];refine wpG_nil ?_;intro w6 hb;simp only [List.drop_succ_cons,List.drop_zero];clear cv0 co0 co1 co2 co3 co4 co5 co6 cf0 cf1 cf2 cq0 cq1 cq2;replace Rv:=gg Rv hb;replace Ro:=gg Ro hb;replace Rf:=gg Rf hb;replace Rq:=gg Rq hb;replace B:=gb B hb;have cv0:=cl1 Rv.out;obtain⟨co0,co1,co2,co3,co4,co5,co6⟩:=cl7 Ro.out;obtain⟨cf0,cf1,cf2⟩:=cl3 Rf.out
       obtain⟨cq0,cq1,cq2⟩:=cl3 Rq.out;clear hb;have hM2:=lit2 B.out ak ab av bk bb bv;have hb2:Below w6.heap.size w6 (w6.alloc (.cells #[.string ak,.bool ab,.string av,.string bk,.bool bb,.string bv] 138)):=(Below.refl _ _).alloc (Nat.le_refl _) _;clear cv0 co0 co1 co2 co3 co4 co5 co6 cf0 cf1 cf2 cq0 cq1 cq2;replace Rv:=gg Rv hb2;replace Ro:=gg Ro hb2;replace Rf:=gg Rf hb2;replace Rq:=gg Rq hb2;replace B:=gb B hb2;have HM2:=hid hM2;obtain⟨z9,hz9⟩:∃ z,w6.heap.size=z:=⟨_,rfl⟩;rw [hz9] at HM2;clear hM2 hb2;have cv0:=cl1 Rv.out;obtain⟨co0,co1,co2,co3,co4,co5,co6⟩:=cl7 Ro.out;obtain⟨cf0,cf1,cf2⟩:=cl3 Rf.out;obtain⟨cq0,cq1,cq2⟩:=cl3 Rq.out
       go_wp2_with fail
       generalize hE:w6.alloc (.cells #[.string ak,.bool ab,.string av,.string bk,.bool bb,.string bv] 138)=w7 at *;clear hE;try rw [hz9]
       refine (HR.out _ B.out).mono ?_;rintro e w8 ⟨rfl,hb⟩;clear cv0 co0 co1 co2 co3 co4 co5 co6 cf0 cf1 cf2 cq0 cq1 cq2;replace Rv:=gg Rv hb;replace Ro:=gg Ro hb;replace Rf:=gg Rf hb;replace Rq:=gg Rq hb;replace HM2:=hid (HM2.out.go hb);replace B:=gb B hb;have cv0:=cl1 Rv.out;obtain⟨co0,co1,co2,co3,co4,co5,co6⟩:=cl7 Ro.out;obtain⟨cf0,cf1,cf2⟩:=cl3 Rf.out;obtain⟨cq0,cq1,cq2⟩:=cl3 Rq.out;clear hb
       go_wp2
       go_ret2
       exact CPost.err HE.out _ B.out
end Go.Proofs.YtopepebcnaikiaaGreatDoor.Fi
namespace Go.Proofs.YtopepebcnaikiaaGreatDoor.Fi
open Lib (hid)
open Go.ChangeShapes Go.WideShapes Go.ChangeAt Go.RowKit
open BigFrame
open Ar Rg
open Ino
open It (Itm Ch get und app dif rt rc enc er getV get_any under_any apply_any diff_any MkI MkC)
open Di (ItA wlk rgt rgt_iff numOf Vo vo pts lsX lsL up En NmA Walk_any Up MkE List_any)
open Ph (nb spX spB laX laD laN)
open Da (wrE wrL rdE rdV ctL chs)
open Pk (nB nE tN tR tE number_any take_any)
variable {w w' wr:World}{A:Option Addr}{n c:Nat}{L:List Itm}
abbrev vTd (d:Td) (ev:Value):Value:=.agg #[.string d.s,.int .u32 (d.i:Nat),.int .u8 (d.n.K:Nat),.int .u16 (d.n.M:Nat),.int .u32 (d.n.L:Nat),.int .u32 (d.n.S:Nat),.string d.n.T,ev]
theorem row8 (s:ByteArray) (i K M L S:Int) (T:ByteArray) (E:Option Addr) (m c:Nat):(#[.string s,.int .u32 i,.int .u8 K,.int .u16 M,.int .u32 L,.int .u32 S,.string T,.slice E m c]:Array Value).all (·.oneCell')=true:=by simp [Value.oneCell']
theorem mk_row {α:Type}{en:α→List Value}{k:Nat}{te:TypeId}{w0 w2:World}{g:Nat}{cs:Array Value}{v:Value}{D:List α}(h:Mk en k te w2 wr v D) (hb:Below w0.heap.size w0 w2) (hg:w0.heap.size≤g) (hg2:g<w2.heap.size):Mk en k te w0 (wr.setRow g cs) v D:=by
 have h0:=h.since hb;refine⟨h0.1.kept (row:=some g) ?_ ?_,below_setRow h0.2 hg _⟩
 ·refine⟨rfl,rfl,rfl,by simp [World.setRow],fun k hk hne=>?_⟩;unfold World.setRow;simp only [Array.getElem?_modify];rw [if_neg (fun e=>hne (by rw [e]))]
 ·refine Or.inr fun e=>?_
  have:=(h.1.lt g e).1;omega
def TPost (w:World) (x:Int) (d:Td) (e:Ending) (w':World):Prop:=∃ ev,e=.returned (.tuple #[vTd (if x=0 then d else zTd) ev,.int .i64 x])∧MkE w w' ev (if x=0 then d.e else [])
theorem TPost.no {x:Int}{d:Td}(h:x≠0) (hb:Below w.heap.size w w'):TPost w x d (.returned (.tuple #[.agg #[.string ⟨#[]⟩,.int .u32 0,.int .u8 0,.int .u16 0,.int .u32 0,.int .u32 0,.string ⟨#[]⟩,.slice none 0 0],.int .i64 x])) w':=⟨.slice none 0 0,by rw [if_neg h];rfl,by rw [if_neg h];exact Mk.nil hb⟩
theorem TPost.yes {d:Td}{ev:Value}(h:MkE w w' ev d.e):TPost w 0 d (.returned (.tuple #[vTd d ev,.int .i64 0])) w':=⟨ev,by rw [if_pos rfl],by rw [if_pos rfl];exact h⟩
theorem TPost.yes0 {d:Td}(h:d.e=[]) (hb:Below w.heap.size w w'):TPost w 0 d (.returned (.tuple #[vTd d (.slice none 0 0),.int .i64 0])) w':=TPost.yes (by rw [h];exact Mk.nil hb)
set_option maxHeartbeats 1000000 in
theorem read_any (h:VA w A n c L) (o:Op) (ho:o.lim):Calls Tryz.prog 58 #[vV A n c,vOp o] w (TPost w (reX L o) (reT L o)):=by
 by_cases h0:fnX L o.P true≠0
 ·
  have HL:=hid (fun (w1:World) (hb:Below w.heap.size w w1)=>notDir_any (h.go hb) o.P ho.2.2.2.2.1 true);unfold reX;rw [if_pos h0];generalize reT L o=d at *;generalize fnX L o.P true=x at *;generalize fnI L o.P true=i at *;generalize fnN L o.P true=m at *;obtain⟨oK,oP,oT,oM,oO,oN,oD⟩:=o;obtain⟨mK,mM,mL,mS,mT⟩:=m;try dsimp only at *
  have e5:=ne0 h0;have HE:=hid h0;clear h ho h0;have HN:=hid (three_new w #[.slice A n c] #[.int .u8 oK,.string oP,.string oT,.int .u16 oM,.int .u32 oO,.int .u32 oN,.string oD] #[.string ⟨#[]⟩,.int .u32 0,.int .u8 0,.int .u16 0,.int .u32 0,.int .u32 0,.string ⟨#[]⟩,.slice none 0 0] 84 31 38)
  go_enter Tryz.func58,Tryz.ntmps58
  go_wp2_with fail
  try generalize (((w.alloc (.cells #[.slice A n c] 84)).alloc (.cells #[.int .u8 oK,.string oP,.string oT,.int .u16 oM,.int .u32 oO,.int .u32 oN,.string oD] 31)).alloc (.cells #[.string ⟨#[]⟩,.int .u32 0,.int .u8 0,.int .u16 0,.int .u32 0,.int .u32 0,.string ⟨#[]⟩,.slice none 0 0] 38))=w0 at *
  have Rv:=hid HN.out.1;have Ro:=hid HN.out.2.1;have Rz:=hid HN.out.2.2.1;have B:=hid HN.out.2.2.2.1;clear HN;have cv0:=cl1 Rv.out;obtain⟨co0,co1,co2,co3,co4,co5,co6⟩:=cl7 Ro.out;obtain⟨cz0,cz1,cz2,cz3,cz4,cz5,cz6,cz7⟩:=cl8 Rz.out;refine (HL.out _ B.out).mono ?_;rintro e w1 ⟨rfl,hb⟩;clear cv0 co0 co1 co2 co3 co4 co5 co6 cz0 cz1 cz2 cz3 cz4 cz5 cz6 cz7;replace Rv:=gg Rv hb;replace Ro:=gg Ro hb;replace Rz:=gg Rz hb;replace B:=gb B hb;have cv0:=cl1 Rv.out;obtain⟨co0,co1,co2,co3,co4,co5,co6⟩:=cl7 Ro.out;obtain⟨cz0,cz1,cz2,cz3,cz4,cz5,cz6,cz7⟩:=cl8 Rz.out;clear hb
  go_wp2_with (first
   | (refine new_row rfl 161 (.tmp 6) (.tmp 14) rfl rfl #[.int .u8 mK,.int .u16 mM,.int .u32 mL,.int .u32 mS,.string mT,.int .u32 i] rfl rfl (by kernel_rfl) rfl (row6 _ _ _ _ _ _) ?_;intro w2 M;have Dd_z:=hid Rz.out.lt;clear cv0 co0 co1 co2 co3 co4 co5 co6 cz0 cz1 cz2 cz3 cz4 cz5 cz6 cz7;replace Rv:=gg Rv M.2.1;replace Ro:=gg Ro M.2.1;replace Rz:=gg Rz M.2.1;replace B:=gb B M.2.1;have Rd:=hid M.1;have cv0:=cl1 Rv.out;obtain⟨co0,co1,co2,co3,co4,co5,co6⟩:=cl7 Ro.out;obtain⟨cz0,cz1,cz2,cz3,cz4,cz5,cz6,cz7⟩:=cl8 Rz.out;obtain⟨cd0,cd1,cd2,cd3,cd4,cd5⟩:=cl6 Rd.out;clear M)
   | (refine old_row rfl 38 (.tmp 4) (.tmp 18) rfl (w.heap.size+2) #[.string ⟨#[]⟩,.int .u32 0,.int .u8 0,.int .u16 0,.int .u32 0,.int .u32 0,.string ⟨#[]⟩,.slice none 0 0] rfl rfl Rz.out (by kernel_rfl) rfl (row8 _ _ _ _ _ _ _ _ _ _) ?_;intro w3 hw;clear cv0 co0 co1 co2 co3 co4 co5 co6 cz0 cz1 cz2 cz3 cz4 cz5 cz6 cz7 cd0 cd1 cd2 cd3 cd4 cd5;replace B:=bx hw B (by omega);replace Rv:=kx hw Rv (by omega);replace Ro:=kx hw Ro (by omega);replace Rd:=kx hw Rd (Nat.ne_of_gt Dd_z.out);replace Rz:=sx hw Rz;clear hw;have cv0:=cl1 Rv.out;obtain⟨co0,co1,co2,co3,co4,co5,co6⟩:=cl7 Ro.out;obtain⟨cz0,cz1,cz2,cz3,cz4,cz5,cz6,cz7⟩:=cl8 Rz.out;obtain⟨cd0,cd1,cd2,cd3,cd4,cd5⟩:=cl6 Rd.out))
  refine bodyPost_ret (v:=.tuple #[.agg #[.string ⟨#[]⟩,.int .u32 0,.int .u8 0,.int .u16 0,.int .u32 0,.int .u32 0,.string ⟨#[]⟩,.slice none 0 0],.int .i64 x]) (results_row2 rfl _ _ (w.heap.size+2) 38 #[.string ⟨#[]⟩,.int .u32 0,.int .u8 0,.int .u16 0,.int .u32 0,.int .u32 0,.string ⟨#[]⟩,.slice none 0 0] (0,0) _ rfl Rz.out Tryz.underlying38 rfl (by kernel_rfl) _ rfl) rfl ?_;exact TPost.no HE.out B.out
 ·
  have HL:=hid (fun (w1:World) (hb:Below w.heap.size w w1)=>notDir_any (h.go hb) o.P ho.2.2.2.2.1 true);unfold reX;rw [if_neg h0];have h0:=Decidable.not_not.1 h0;obtain⟨f1,f2,f3⟩:=fn_0 h0;have hlt:=ldI_lt h.rg o.P true;have hlim:=ldN_lim L o.P true;have HW:=hid (fun (w1:World) (hb:Below w.heap.size w w1)=>Da.Read_any L (ldI L o.P true) (ldN L o.P true).S o.O o.N hlt hlim.2.2.2 ho.2.2.1 ho.2.2.2.1 A n c w1.heap.size (h.go hb).it.1 h.nc h.cm (by have:=h.it.2.1;omega) w1 (Nat.le_refl _) (h.go hb).it.2.2);rw [f1,f2,h0] at HL;have e0:reT L o={ zTd with s:=rdV L (ldI L o.P true) (ldN L o.P true).S o.O o.N }:=rfl;rw [e0];have hz:rdE L (ldI L o.P true) (ldN L o.P true).S≠0→rdV L (ldI L o.P true) (ldN L o.P true).S o.O o.N=ByteArray.empty:=fun h9=>by unfold rdV;rw [if_neg h9]
  generalize rdV L (ldI L o.P true) (ldN L o.P true).S o.O o.N=s at *;generalize rdE L (ldI L o.P true) (ldN L o.P true).S=y at *;generalize ldI L o.P true=i at *;generalize ldN L o.P true=m at *;obtain⟨oK,oP,oT,oM,oO,oN,oD⟩:=o;obtain⟨mK,mM,mL,mS,mT⟩:=m;try dsimp only at *
  have HZ:=hid hz;clear h ho h0 e0 hz f1 f2 f3 hlt hlim;have HN:=hid (three_new w #[.slice A n c] #[.int .u8 oK,.string oP,.string oT,.int .u16 oM,.int .u32 oO,.int .u32 oN,.string oD] #[.string ⟨#[]⟩,.int .u32 0,.int .u8 0,.int .u16 0,.int .u32 0,.int .u32 0,.string ⟨#[]⟩,.slice none 0 0] 84 31 38)
  go_enter Tryz.func58,Tryz.ntmps58
  go_wp2_with fail
  try generalize (((w.alloc (.cells #[.slice A n c] 84)).alloc (.cells #[.int .u8 oK,.string oP,.string oT,.int .u16 oM,.int .u32 oO,.int .u32 oN,.string oD] 31)).alloc (.cells #[.string ⟨#[]⟩,.int .u32 0,.int .u8 0,.int .u16 0,.int .u32 0,.int .u32 0,.string ⟨#[]⟩,.slice none 0 0] 38))=w0 at *
  have Rv:=hid HN.out.1;have Ro:=hid HN.out.2.1;have Rz:=hid HN.out.2.2.1;have B:=hid HN.out.2.2.2.1;clear HN;have cv0:=cl1 Rv.out;obtain⟨co0,co1,co2,co3,co4,co5,co6⟩:=cl7 Ro.out;obtain⟨cz0,cz1,cz2,cz3,cz4,cz5,cz6,cz7⟩:=cl8 Rz.out;refine (HL.out _ B.out).mono ?_;rintro e w1 ⟨rfl,hb⟩;clear cv0 co0 co1 co2 co3 co4 co5 co6 cz0 cz1 cz2 cz3 cz4 cz5 cz6 cz7;replace Rv:=gg Rv hb;replace Ro:=gg Ro hb;replace Rz:=gg Rz hb;replace B:=gb B hb;have cv0:=cl1 Rv.out;obtain⟨co0,co1,co2,co3,co4,co5,co6⟩:=cl7 Ro.out;obtain⟨cz0,cz1,cz2,cz3,cz4,cz5,cz6,cz7⟩:=cl8 Rz.out;clear hb
  go_wp2_with (first
   | (refine new_row rfl 161 (.tmp 6) (.tmp 14) rfl rfl #[.int .u8 mK,.int .u16 mM,.int .u32 mL,.int .u32 mS,.string mT,.int .u32 i] rfl rfl (by kernel_rfl) rfl (row6 _ _ _ _ _ _) ?_;intro w2 M;have Dd_z:=hid Rz.out.lt;clear cv0 co0 co1 co2 co3 co4 co5 co6 cz0 cz1 cz2 cz3 cz4 cz5 cz6 cz7;replace Rv:=gg Rv M.2.1;replace Ro:=gg Ro M.2.1;replace Rz:=gg Rz M.2.1;replace B:=gb B M.2.1;have Rd:=hid M.1;have cv0:=cl1 Rv.out;obtain⟨co0,co1,co2,co3,co4,co5,co6⟩:=cl7 Ro.out;obtain⟨cz0,cz1,cz2,cz3,cz4,cz5,cz6,cz7⟩:=cl8 Rz.out;obtain⟨cd0,cd1,cd2,cd3,cd4,cd5⟩:=cl6 Rd.out;clear M)
   | (go_at_call 95;refine (HW.out _ B.out).mono ?_;rintro e w3 ⟨rfl,hb⟩;clear cv0 co0 co1 co2 co3 co4 co5 co6 cz0 cz1 cz2 cz3 cz4 cz5 cz6 cz7 cd0 cd1 cd2 cd3 cd4 cd5;replace Rv:=gg Rv hb;replace Ro:=gg Ro hb;replace Rz:=gg Rz hb;replace Rd:=gg Rd hb;replace B:=gb B hb;have cv0:=cl1 Rv.out;obtain⟨co0,co1,co2,co3,co4,co5,co6⟩:=cl7 Ro.out;obtain⟨cz0,cz1,cz2,cz3,cz4,cz5,cz6,cz7⟩:=cl8 Rz.out;obtain⟨cd0,cd1,cd2,cd3,cd4,cd5⟩:=cl6 Rd.out;clear hb)
   | (refine old_row rfl 38 (.tmp 4) (.tmp 36) rfl (w.heap.size+2) #[.string s,.int .u32 0,.int .u8 0,.int .u16 0,.int .u32 0,.int .u32 0,.string ⟨#[]⟩,.slice none 0 0] rfl rfl Rz.out (by kernel_rfl) rfl (row8 _ _ _ _ _ _ _ _ _ _) ?_;intro w4 hw;clear cv0 co0 co1 co2 co3 co4 co5 co6 cz0 cz1 cz2 cz3 cz4 cz5 cz6 cz7 cd0 cd1 cd2 cd3 cd4 cd5;replace B:=bx hw B (by omega);replace Rv:=kx hw Rv (by omega);replace Ro:=kx hw Ro (by omega);replace Rd:=kx hw Rd (Nat.ne_of_gt Dd_z.out);replace Rz:=sx hw Rz;clear hw;have cv0:=cl1 Rv.out;obtain⟨co0,co1,co2,co3,co4,co5,co6⟩:=cl7 Ro.out;obtain⟨cz0,cz1,cz2,cz3,cz4,cz5,cz6,cz7⟩:=cl8 Rz.out;obtain⟨cd0,cd1,cd2,cd3,cd4,cd5⟩:=cl6 Rd.out))
  refine bodyPost_ret (v:=.tuple #[.agg #[.string s,.int .u32 0,.int .u8 0,.int .u16 0,.int .u32 0,.int .u32 0,.string ⟨#[]⟩,.slice none 0 0],.int .i64 y]) (results_row2 rfl _ _ (w.heap.size+2) 38 #[.string s,.int .u32 0,.int .u8 0,.int .u16 0,.int .u32 0,.int .u32 0,.string ⟨#[]⟩,.slice none 0 0] (0,0) _ rfl Rz.out Tryz.underlying38 rfl (by kernel_rfl) _ rfl) rfl ?_;exact by
   by_cases hy:y=0
   ·subst hy;exact TPost.yes0 rfl B.out
   ·obtain rfl:=HZ.out hy;exact TPost.no hy B.out
set_option maxHeartbeats 1000000 in
theorem stat_any (h:VA w A n c L) (o:Op) (ho:o.lim):Calls Tryz.prog 59 #[vV A n c,vOp o] w (TPost w (ldX L o.P (decide (o.N=0))) (stT L o)):=by
 have HL:=hid (fun (w1:World) (hb:Below w.heap.size w w1)=>led_any (h.go hb) o.P ho.2.2.2.2.1 (decide (o.N=0)));have e0:stT L o={ zTd with i:=ldI L o.P (decide (o.N=0)),n:=ldN L o.P (decide (o.N=0)) }:=rfl;rw [e0];have hz:ldX L o.P (decide (o.N=0))≠0→ldI L o.P (decide (o.N=0))=0∧ldN L o.P (decide (o.N=0))=zIn:=fun h9=>⟨by unfold ldI;rw [if_neg h9],by unfold ldN;rw [if_neg h9]⟩
 have hq:((o.N:Int)==0)=decide (o.N=0):=by
  by_cases h9:o.N=0
  ·rw [h9];rfl
  ·rw [decide_eq_false h9];exact (neZ h9).1
 generalize decide (o.N=0)=fo at *;generalize ldI L o.P fo=i at *;generalize ldN L o.P fo=m at *;generalize ldX L o.P fo=x at *;obtain⟨oK,oP,oT,oM,oO,oN,oD⟩:=o;obtain⟨mK,mM,mL,mS,mT⟩:=m;try dsimp only at *
 have HZ:=hid hz;clear h ho e0 hz;have HN:=hid (three_new w #[.slice A n c] #[.int .u8 oK,.string oP,.string oT,.int .u16 oM,.int .u32 oO,.int .u32 oN,.string oD] #[.string ⟨#[]⟩,.int .u32 0,.int .u8 0,.int .u16 0,.int .u32 0,.int .u32 0,.string ⟨#[]⟩,.slice none 0 0] 84 31 38)
 go_enter Tryz.func59,Tryz.ntmps59
 go_wp2_with fail
 try generalize (((w.alloc (.cells #[.slice A n c] 84)).alloc (.cells #[.int .u8 oK,.string oP,.string oT,.int .u16 oM,.int .u32 oO,.int .u32 oN,.string oD] 31)).alloc (.cells #[.string ⟨#[]⟩,.int .u32 0,.int .u8 0,.int .u16 0,.int .u32 0,.int .u32 0,.string ⟨#[]⟩,.slice none 0 0] 38))=w0 at *
 have Rv:=hid HN.out.1;have Ro:=hid HN.out.2.1;have Rz:=hid HN.out.2.2.1;have B:=hid HN.out.2.2.2.1;clear HN;have cv0:=cl1 Rv.out;obtain⟨co0,co1,co2,co3,co4,co5,co6⟩:=cl7 Ro.out;obtain⟨cz0,cz1,cz2,cz3,cz4,cz5,cz6,cz7⟩:=cl8 Rz.out;refine (HL.out _ B.out).mono ?_;rintro e w1 ⟨rfl,hb⟩;clear cv0 co0 co1 co2 co3 co4 co5 co6 cz0 cz1 cz2 cz3 cz4 cz5 cz6 cz7;replace Rv:=gg Rv hb;replace Ro:=gg Ro hb;replace Rz:=gg Rz hb;replace B:=gb B hb;have cv0:=cl1 Rv.out;obtain⟨co0,co1,co2,co3,co4,co5,co6⟩:=cl7 Ro.out;obtain⟨cz0,cz1,cz2,cz3,cz4,cz5,cz6,cz7⟩:=cl8 Rz.out;clear hb
 go_wp2_with (first
  | (refine new_row rfl 161 (.tmp 6) (.tmp 16) rfl rfl #[.int .u8 mK,.int .u16 mM,.int .u32 mL,.int .u32 mS,.string mT,.int .u32 i] rfl rfl (by kernel_rfl) rfl (row6 _ _ _ _ _ _) ?_;intro w2 M;have Dd_z:=hid Rz.out.lt;clear cv0 co0 co1 co2 co3 co4 co5 co6 cz0 cz1 cz2 cz3 cz4 cz5 cz6 cz7;replace Rv:=gg Rv M.2.1;replace Ro:=gg Ro M.2.1;replace Rz:=gg Rz M.2.1;replace B:=gb B M.2.1;have Rd:=hid M.1;have cv0:=cl1 Rv.out;obtain⟨co0,co1,co2,co3,co4,co5,co6⟩:=cl7 Ro.out;obtain⟨cz0,cz1,cz2,cz3,cz4,cz5,cz6,cz7⟩:=cl8 Rz.out;obtain⟨cd0,cd1,cd2,cd3,cd4,cd5⟩:=cl6 Rd.out;clear M)
  | (refine wpList_load_mid rfl 35 (.tmp 20) rfl (w1.heap.size) 0 rfl [.int .u8 mK,.int .u16 mM,.int .u32 mL,.int .u32 mS,.string mT] _ (show World.rangeAt w2 (w1.heap.size) 0 [.int .u8 mK,.int .u16 mM,.int .u32 mL,.int .u32 mS,.string mT] from Rd.out.range 0 5) Tryz.underlying35 rfl (by kernel_rfl) ?_)
  | (refine old_row rfl 38 (.tmp 4) (.tmp 22) rfl (w.heap.size+2) #[.string ⟨#[]⟩,.int .u32 i,.int .u8 mK,.int .u16 mM,.int .u32 mL,.int .u32 mS,.string mT,.slice none 0 0] rfl rfl Rz.out (by kernel_rfl) rfl (row8 _ _ _ _ _ _ _ _ _ _) ?_;intro w3 hw;clear cv0 co0 co1 co2 co3 co4 co5 co6 cz0 cz1 cz2 cz3 cz4 cz5 cz6 cz7 cd0 cd1 cd2 cd3 cd4 cd5;replace B:=bx hw B (by omega);replace Rv:=kx hw Rv (by omega);replace Ro:=kx hw Ro (by omega);replace Rd:=kx hw Rd (Nat.ne_of_gt Dd_z.out);replace Rz:=sx hw Rz;clear hw;have cv0:=cl1 Rv.out;obtain⟨co0,co1,co2,co3,co4,co5,co6⟩:=cl7 Ro.out;obtain⟨cz0,cz1,cz2,cz3,cz4,cz5,cz6,cz7⟩:=cl8 Rz.out;obtain⟨cd0,cd1,cd2,cd3,cd4,cd5⟩:=cl6 Rd.out))
 refine bodyPost_ret (v:=.tuple #[.agg #[.string ⟨#[]⟩,.int .u32 i,.int .u8 mK,.int .u16 mM,.int .u32 mL,.int .u32 mS,.string mT,.slice none 0 0],.int .i64 x]) (results_row2 rfl _ _ (w.heap.size+2) 38 #[.string ⟨#[]⟩,.int .u32 i,.int .u8 mK,.int .u16 mM,.int .u32 mL,.int .u32 mS,.string mT,.slice none 0 0] (0,0) _ rfl Rz.out Tryz.underlying38 rfl (by kernel_rfl) _ rfl) rfl ?_;exact by
  by_cases hx:x=0
  ·subst hx;exact TPost.yes0 rfl B.out
  ·obtain⟨rfl,h9⟩:=HZ.out hx;cases h9;exact TPost.no hx B.out
set_option maxHeartbeats 1000000 in
theorem list_any (h:VA w A n c L) (o:Op) (ho:o.lim):Calls Tryz.prog 60 #[vV A n c,vOp o] w (TPost w (liX L o) (liT L o)):=by
 by_cases h0:ldX L o.P true≠0
 ·
  have HL:=hid (fun (w1:World) (hb:Below w.heap.size w w1)=>led_any (h.go hb) o.P ho.2.2.2.2.1 true);unfold liX;rw [if_pos h0];generalize liT L o=d at *;generalize ldX L o.P true=x at *;generalize ldI L o.P true=i at *;generalize ldN L o.P true=m at *;obtain⟨oK,oP,oT,oM,oO,oN,oD⟩:=o;obtain⟨mK,mM,mL,mS,mT⟩:=m;try dsimp only at *
  have e5:=ne0 h0;have HE:=hid h0;clear h ho h0;have HN:=hid (three_new w #[.slice A n c] #[.int .u8 oK,.string oP,.string oT,.int .u16 oM,.int .u32 oO,.int .u32 oN,.string oD] #[.string ⟨#[]⟩,.int .u32 0,.int .u8 0,.int .u16 0,.int .u32 0,.int .u32 0,.string ⟨#[]⟩,.slice none 0 0] 84 31 38)
  go_enter Tryz.func60,Tryz.ntmps60
  go_wp2_with fail
  try generalize (((w.alloc (.cells #[.slice A n c] 84)).alloc (.cells #[.int .u8 oK,.string oP,.string oT,.int .u16 oM,.int .u32 oO,.int .u32 oN,.string oD] 31)).alloc (.cells #[.string ⟨#[]⟩,.int .u32 0,.int .u8 0,.int .u16 0,.int .u32 0,.int .u32 0,.string ⟨#[]⟩,.slice none 0 0] 38))=w0 at *
  have Rv:=hid HN.out.1;have Ro:=hid HN.out.2.1;have Rz:=hid HN.out.2.2.1;have B:=hid HN.out.2.2.2.1;clear HN;have cv0:=cl1 Rv.out;obtain⟨co0,co1,co2,co3,co4,co5,co6⟩:=cl7 Ro.out;obtain⟨cz0,cz1,cz2,cz3,cz4,cz5,cz6,cz7⟩:=cl8 Rz.out;refine (HL.out _ B.out).mono ?_;rintro e w1 ⟨rfl,hb⟩;clear cv0 co0 co1 co2 co3 co4 co5 co6 cz0 cz1 cz2 cz3 cz4 cz5 cz6 cz7;replace Rv:=gg Rv hb;replace Ro:=gg Ro hb;replace Rz:=gg Rz hb;replace B:=gb B hb;have cv0:=cl1 Rv.out;obtain⟨co0,co1,co2,co3,co4,co5,co6⟩:=cl7 Ro.out;obtain⟨cz0,cz1,cz2,cz3,cz4,cz5,cz6,cz7⟩:=cl8 Rz.out;clear hb
  go_wp2_with (first
   | (refine new_row rfl 161 (.tmp 6) (.tmp 14) rfl rfl #[.int .u8 mK,.int .u16 mM,.int .u32 mL,.int .u32 mS,.string mT,.int .u32 i] rfl rfl (by kernel_rfl) rfl (row6 _ _ _ _ _ _) ?_;intro w2 M;have Dd_z:=hid Rz.out.lt;clear cv0 co0 co1 co2 co3 co4 co5 co6 cz0 cz1 cz2 cz3 cz4 cz5 cz6 cz7;replace Rv:=gg Rv M.2.1;replace Ro:=gg Ro M.2.1;replace Rz:=gg Rz M.2.1;replace B:=gb B M.2.1;have Rd:=hid M.1;have cv0:=cl1 Rv.out;obtain⟨co0,co1,co2,co3,co4,co5,co6⟩:=cl7 Ro.out;obtain⟨cz0,cz1,cz2,cz3,cz4,cz5,cz6,cz7⟩:=cl8 Rz.out;obtain⟨cd0,cd1,cd2,cd3,cd4,cd5⟩:=cl6 Rd.out;clear M)
   | (refine old_row rfl 38 (.tmp 4) (.tmp 18) rfl (w.heap.size+2) #[.string ⟨#[]⟩,.int .u32 0,.int .u8 0,.int .u16 0,.int .u32 0,.int .u32 0,.string ⟨#[]⟩,.slice none 0 0] rfl rfl Rz.out (by kernel_rfl) rfl (row8 _ _ _ _ _ _ _ _ _ _) ?_;intro w3 hw;clear cv0 co0 co1 co2 co3 co4 co5 co6 cz0 cz1 cz2 cz3 cz4 cz5 cz6 cz7 cd0 cd1 cd2 cd3 cd4 cd5;replace B:=bx hw B (by omega);replace Rv:=kx hw Rv (by omega);replace Ro:=kx hw Ro (by omega);replace Rd:=kx hw Rd (Nat.ne_of_gt Dd_z.out);replace Rz:=sx hw Rz;clear hw;have cv0:=cl1 Rv.out;obtain⟨co0,co1,co2,co3,co4,co5,co6⟩:=cl7 Ro.out;obtain⟨cz0,cz1,cz2,cz3,cz4,cz5,cz6,cz7⟩:=cl8 Rz.out;obtain⟨cd0,cd1,cd2,cd3,cd4,cd5⟩:=cl6 Rd.out))
  refine bodyPost_ret (v:=.tuple #[.agg #[.string ⟨#[]⟩,.int .u32 0,.int .u8 0,.int .u16 0,.int .u32 0,.int .u32 0,.string ⟨#[]⟩,.slice none 0 0],.int .i64 x]) (results_row2 rfl _ _ (w.heap.size+2) 38 #[.string ⟨#[]⟩,.int .u32 0,.int .u8 0,.int .u16 0,.int .u32 0,.int .u32 0,.string ⟨#[]⟩,.slice none 0 0] (0,0) _ rfl Rz.out Tryz.underlying38 rfl (by kernel_rfl) _ rfl) rfl ?_;exact TPost.no HE.out B.out
 ·
  have HL:=hid (fun (w1:World) (hb:Below w.heap.size w w1)=>led_any (h.go hb) o.P ho.2.2.2.2.1 true);unfold liX;rw [if_neg h0];have h0:=Decidable.not_not.1 h0;have hlt:=ldI_lt h.rg o.P true;have HW:=hid (fun (w1:World) (hb:Below w.heap.size w w1)=>List_any c (ldI L o.P true) hlt (h.go hb).it);rw [h0] at HL;have e0:liT L o={ zTd with e:=lsL L (ldI L o.P true) }:=rfl;rw [e0];have hz:lsX L (ldI L o.P true)≠0→lsL L (ldI L o.P true)=[]:=fun h9=>by unfold lsL;rw [if_neg h9]
  generalize lsL L (ldI L o.P true)=D at *;generalize lsX L (ldI L o.P true)=y at *;generalize ldI L o.P true=i at *;generalize ldN L o.P true=m at *;obtain⟨oK,oP,oT,oM,oO,oN,oD⟩:=o;obtain⟨mK,mM,mL,mS,mT⟩:=m;try dsimp only at *
  have HZ:=hid hz;clear h ho h0 e0 hz hlt;have HN:=hid (three_new w #[.slice A n c] #[.int .u8 oK,.string oP,.string oT,.int .u16 oM,.int .u32 oO,.int .u32 oN,.string oD] #[.string ⟨#[]⟩,.int .u32 0,.int .u8 0,.int .u16 0,.int .u32 0,.int .u32 0,.string ⟨#[]⟩,.slice none 0 0] 84 31 38)
  go_enter Tryz.func60,Tryz.ntmps60
  go_wp2_with fail
  try generalize (((w.alloc (.cells #[.slice A n c] 84)).alloc (.cells #[.int .u8 oK,.string oP,.string oT,.int .u16 oM,.int .u32 oO,.int .u32 oN,.string oD] 31)).alloc (.cells #[.string ⟨#[]⟩,.int .u32 0,.int .u8 0,.int .u16 0,.int .u32 0,.int .u32 0,.string ⟨#[]⟩,.slice none 0 0] 38))=w0 at *
  have Rv:=hid HN.out.1;have Ro:=hid HN.out.2.1;have Rz:=hid HN.out.2.2.1;have B:=hid HN.out.2.2.2.1;clear HN;have cv0:=cl1 Rv.out;obtain⟨co0,co1,co2,co3,co4,co5,co6⟩:=cl7 Ro.out;obtain⟨cz0,cz1,cz2,cz3,cz4,cz5,cz6,cz7⟩:=cl8 Rz.out;refine (HL.out _ B.out).mono ?_;rintro e w1 ⟨rfl,hb⟩;clear cv0 co0 co1 co2 co3 co4 co5 co6 cz0 cz1 cz2 cz3 cz4 cz5 cz6 cz7;replace Rv:=gg Rv hb;replace Ro:=gg Ro hb;replace Rz:=gg Rz hb;replace B:=gb B hb;have cv0:=cl1 Rv.out;obtain⟨co0,co1,co2,co3,co4,co5,co6⟩:=cl7 Ro.out;obtain⟨cz0,cz1,cz2,cz3,cz4,cz5,cz6,cz7⟩:=cl8 Rz.out;clear hb
  go_wp2_with (first
   | (refine new_row rfl 161 (.tmp 6) (.tmp 14) rfl rfl #[.int .u8 mK,.int .u16 mM,.int .u32 mL,.int .u32 mS,.string mT,.int .u32 i] rfl rfl (by kernel_rfl) rfl (row6 _ _ _ _ _ _) ?_;intro w2 M;have Dd_z:=hid Rz.out.lt;clear cv0 co0 co1 co2 co3 co4 co5 co6 cz0 cz1 cz2 cz3 cz4 cz5 cz6 cz7;replace Rv:=gg Rv M.2.1;replace Ro:=gg Ro M.2.1;replace Rz:=gg Rz M.2.1;replace B:=gb B M.2.1;have Rd:=hid M.1;have cv0:=cl1 Rv.out;obtain⟨co0,co1,co2,co3,co4,co5,co6⟩:=cl7 Ro.out;obtain⟨cz0,cz1,cz2,cz3,cz4,cz5,cz6,cz7⟩:=cl8 Rz.out;obtain⟨cd0,cd1,cd2,cd3,cd4,cd5⟩:=cl6 Rd.out;clear M)
   | (go_at_call 97;refine (HW.out _ B.out).mono ?_;rintro e w3 ⟨ev,rfl,hm⟩;have hb:=hm.2;have HM:=hid hm;have BK:=hid B.out;have GK:=hid Rz.out.lt;obtain⟨A9,c9,hv9,_⟩:=hm.ls Di.encEn_len;generalize D.length=m9 at hv9;subst hv9;clear cv0 co0 co1 co2 co3 co4 co5 co6 cz0 cz1 cz2 cz3 cz4 cz5 cz6 cz7 cd0 cd1 cd2 cd3 cd4 cd5;replace Rv:=gg Rv hb;replace Ro:=gg Ro hb;replace Rz:=gg Rz hb;replace Rd:=gg Rd hb;replace B:=gb B hb;clear hm;have cv0:=cl1 Rv.out;obtain⟨co0,co1,co2,co3,co4,co5,co6⟩:=cl7 Ro.out;obtain⟨cz0,cz1,cz2,cz3,cz4,cz5,cz6,cz7⟩:=cl8 Rz.out;obtain⟨cd0,cd1,cd2,cd3,cd4,cd5⟩:=cl6 Rd.out;clear hb)
   | (refine old_row rfl 38 (.tmp 4) (.tmp 29) rfl (w.heap.size+2) #[.string ⟨#[]⟩,.int .u32 0,.int .u8 0,.int .u16 0,.int .u32 0,.int .u32 0,.string ⟨#[]⟩,.slice A9 m9 c9] rfl rfl Rz.out (by kernel_rfl) rfl (row8 _ _ _ _ _ _ _ _ _ _) ?_;intro w4 hw;clear cv0 co0 co1 co2 co3 co4 co5 co6 cz0 cz1 cz2 cz3 cz4 cz5 cz6 cz7 cd0 cd1 cd2 cd3 cd4 cd5;have hx:=mk_row (g:=w.heap.size+2) (cs:=#[.string ⟨#[]⟩,.int .u32 0,.int .u8 0,.int .u16 0,.int .u32 0,.int .u32 0,.string ⟨#[]⟩,.slice A9 m9 c9]) HM.out BK.out (by omega) GK.out;rw [← hw] at hx;replace HM:=hid hx;clear hx;replace B:=bx hw B (by omega);replace Rv:=kx hw Rv (by omega);replace Ro:=kx hw Ro (by omega);replace Rd:=kx hw Rd (Nat.ne_of_gt Dd_z.out);replace Rz:=sx hw Rz;clear hw;have cv0:=cl1 Rv.out;obtain⟨co0,co1,co2,co3,co4,co5,co6⟩:=cl7 Ro.out;obtain⟨cz0,cz1,cz2,cz3,cz4,cz5,cz6,cz7⟩:=cl8 Rz.out;obtain⟨cd0,cd1,cd2,cd3,cd4,cd5⟩:=cl6 Rd.out))
  refine bodyPost_ret (v:=.tuple #[.agg #[.string ⟨#[]⟩,.int .u32 0,.int .u8 0,.int .u16 0,.int .u32 0,.int .u32 0,.string ⟨#[]⟩,.slice A9 m9 c9],.int .i64 y]) (results_row2 rfl _ _ (w.heap.size+2) 38 #[.string ⟨#[]⟩,.int .u32 0,.int .u8 0,.int .u16 0,.int .u32 0,.int .u32 0,.string ⟨#[]⟩,.slice A9 m9 c9] (0,0) _ rfl Rz.out Tryz.underlying38 rfl (by kernel_rfl) _ rfl) rfl ?_;exact (by
   by_cases hy:y=0
   ·subst hy;exact TPost.yes HM.out
   ·exact⟨.slice A9 m9 c9,by rw [if_neg hy];rfl,by rw [if_neg hy,← HZ.out hy];exact HM.out⟩)
set_option maxHeartbeats 1000000 in
theorem getAttr_any (h:VA w A n c L) (o:Op) (ho:o.lim):Calls Tryz.prog 61 #[vV A n c,vOp o] w (TPost w (daX L o) (gaT L o)):=by
 by_cases h0:atX L o≠0
 ·
  have HA:=hid (fun (w1:World) (hb:Below w.heap.size w w1)=>attrKey_any (h.go hb) o ho);have HG:=hid (fun (w1:World) (hb:Below w.heap.size w w1)=>get_in (h.go hb) (atK L o));unfold daX;rw [if_pos h0];generalize gaT L o=d at *;generalize (get L (atK L o)).getD ⟨#[]⟩=s at *;generalize (get L (atK L o)).isSome=q at *;generalize atK L o=k at *;generalize atX L o=x at *;obtain⟨oK,oP,oT,oM,oO,oN,oD⟩:=o;try dsimp only at *
  have e5:=ne0 h0;have HE:=hid h0;clear h ho h0 HG;have HN:=hid (three_new w #[.slice A n c] #[.int .u8 oK,.string oP,.string oT,.int .u16 oM,.int .u32 oO,.int .u32 oN,.string oD] #[.string ⟨#[]⟩,.int .u32 0,.int .u8 0,.int .u16 0,.int .u32 0,.int .u32 0,.string ⟨#[]⟩,.slice none 0 0] 84 31 38)
  go_enter Tryz.func61,Tryz.ntmps61
  go_wp2_with fail
  try generalize (((w.alloc (.cells #[.slice A n c] 84)).alloc (.cells #[.int .u8 oK,.string oP,.string oT,.int .u16 oM,.int .u32 oO,.int .u32 oN,.string oD] 31)).alloc (.cells #[.string ⟨#[]⟩,.int .u32 0,.int .u8 0,.int .u16 0,.int .u32 0,.int .u32 0,.string ⟨#[]⟩,.slice none 0 0] 38))=w0 at *
  have Rv:=hid HN.out.1;have Ro:=hid HN.out.2.1;have Rz:=hid HN.out.2.2.1;have B:=hid HN.out.2.2.2.1;clear HN;have cv0:=cl1 Rv.out;obtain⟨co0,co1,co2,co3,co4,co5,co6⟩:=cl7 Ro.out;obtain⟨cz0,cz1,cz2,cz3,cz4,cz5,cz6,cz7⟩:=cl8 Rz.out;refine (HA.out _ B.out).mono ?_;rintro e w1 ⟨rfl,hb⟩;clear cv0 co0 co1 co2 co3 co4 co5 co6 cz0 cz1 cz2 cz3 cz4 cz5 cz6 cz7;replace Rv:=gg Rv hb;replace Ro:=gg Ro hb;replace Rz:=gg Rz hb;replace B:=gb B hb;have cv0:=cl1 Rv.out;obtain⟨co0,co1,co2,co3,co4,co5,co6⟩:=cl7 Ro.out;obtain⟨cz0,cz1,cz2,cz3,cz4,cz5,cz6,cz7⟩:=cl8 Rz.out;clear hb
  go_wp2_with (first
   | (refine old_row rfl 38 (.tmp 4) (.tmp 17) rfl (w.heap.size+2) #[.string ⟨#[]⟩,.int .u32 0,.int .u8 0,.int .u16 0,.int .u32 0,.int .u32 0,.string ⟨#[]⟩,.slice none 0 0] rfl rfl Rz.out (by kernel_rfl) rfl (row8 _ _ _ _ _ _ _ _ _ _) ?_;intro w2 hw;clear cv0 co0 co1 co2 co3 co4 co5 co6 cz0 cz1 cz2 cz3 cz4 cz5 cz6 cz7;replace B:=bx hw B (by omega);replace Rv:=kx hw Rv (by omega);replace Ro:=kx hw Ro (by omega);replace Rz:=sx hw Rz;clear hw;have cv0:=cl1 Rv.out;obtain⟨co0,co1,co2,co3,co4,co5,co6⟩:=cl7 Ro.out;obtain⟨cz0,cz1,cz2,cz3,cz4,cz5,cz6,cz7⟩:=cl8 Rz.out))
  refine bodyPost_ret (v:=.tuple #[.agg #[.string ⟨#[]⟩,.int .u32 0,.int .u8 0,.int .u16 0,.int .u32 0,.int .u32 0,.string ⟨#[]⟩,.slice none 0 0],.int .i64 x]) (results_row2 rfl _ _ (w.heap.size+2) 38 #[.string ⟨#[]⟩,.int .u32 0,.int .u8 0,.int .u16 0,.int .u32 0,.int .u32 0,.string ⟨#[]⟩,.slice none 0 0] (0,0) _ rfl Rz.out Tryz.underlying38 rfl (by kernel_rfl) _ rfl) rfl ?_;exact TPost.no HE.out B.out
 ·
  have HA:=hid (fun (w1:World) (hb:Below w.heap.size w w1)=>attrKey_any (h.go hb) o ho);have HG:=hid (fun (w1:World) (hb:Below w.heap.size w w1)=>get_in (h.go hb) (atK L o));unfold daX;rw [if_neg h0];have h0:=Decidable.not_not.1 h0;rw [h0] at HA;have e0:gaT L o={ zTd with s:=(get L (atK L o)).getD ⟨#[]⟩ }:=rfl;rw [e0];have hz:(if (get L (atK L o)).isSome=true then (0:Int) else 5)≠0→(get L (atK L o)).getD ⟨#[]⟩=⟨#[]⟩:=fun h9=>by
   cases e:get L (atK L o) with
   | none=>rfl
   | some v=>rw [e] at h9;exact absurd rfl h9
  generalize (if (get L (atK L o)).isSome=true then (0:Int) else 5)=y at *;generalize (get L (atK L o)).getD ⟨#[]⟩=s at *;generalize atK L o=k at *;obtain⟨oK,oP,oT,oM,oO,oN,oD⟩:=o;try dsimp only at *
  have HZ:=hid hz;clear h ho h0 e0 hz;have HN:=hid (three_new w #[.slice A n c] #[.int .u8 oK,.string oP,.string oT,.int .u16 oM,.int .u32 oO,.int .u32 oN,.string oD] #[.string ⟨#[]⟩,.int .u32 0,.int .u8 0,.int .u16 0,.int .u32 0,.int .u32 0,.string ⟨#[]⟩,.slice none 0 0] 84 31 38)
  go_enter Tryz.func61,Tryz.ntmps61
  go_wp2_with fail
  try generalize (((w.alloc (.cells #[.slice A n c] 84)).alloc (.cells #[.int .u8 oK,.string oP,.string oT,.int .u16 oM,.int .u32 oO,.int .u32 oN,.string oD] 31)).alloc (.cells #[.string ⟨#[]⟩,.int .u32 0,.int .u8 0,.int .u16 0,.int .u32 0,.int .u32 0,.string ⟨#[]⟩,.slice none 0 0] 38))=w0 at *
  have Rv:=hid HN.out.1;have Ro:=hid HN.out.2.1;have Rz:=hid HN.out.2.2.1;have B:=hid HN.out.2.2.2.1;clear HN;have cv0:=cl1 Rv.out;obtain⟨co0,co1,co2,co3,co4,co5,co6⟩:=cl7 Ro.out;obtain⟨cz0,cz1,cz2,cz3,cz4,cz5,cz6,cz7⟩:=cl8 Rz.out;refine (HA.out _ B.out).mono ?_;rintro e w1 ⟨rfl,hb⟩;clear cv0 co0 co1 co2 co3 co4 co5 co6 cz0 cz1 cz2 cz3 cz4 cz5 cz6 cz7;replace Rv:=gg Rv hb;replace Ro:=gg Ro hb;replace Rz:=gg Rz hb;replace B:=gb B hb;have cv0:=cl1 Rv.out;obtain⟨co0,co1,co2,co3,co4,co5,co6⟩:=cl7 Ro.out;obtain⟨cz0,cz1,cz2,cz3,cz4,cz5,cz6,cz7⟩:=cl8 Rz.out;clear hb
  go_wp2_with (first
   | (go_at_call 99;refine (HG.out _ B.out).mono ?_;rintro e w2 ⟨rfl,hb⟩;clear cv0 co0 co1 co2 co3 co4 co5 co6 cz0 cz1 cz2 cz3 cz4 cz5 cz6 cz7;replace Rv:=gg Rv hb;replace Ro:=gg Ro hb;replace Rz:=gg Rz hb;replace B:=gb B hb;have cv0:=cl1 Rv.out;obtain⟨co0,co1,co2,co3,co4,co5,co6⟩:=cl7 Ro.out;obtain⟨cz0,cz1,cz2,cz3,cz4,cz5,cz6,cz7⟩:=cl8 Rz.out;clear hb)
   | (refine old_row rfl 38 (.tmp 4) (.tmp 27) rfl (w.heap.size+2) #[.string s,.int .u32 0,.int .u8 0,.int .u16 0,.int .u32 0,.int .u32 0,.string ⟨#[]⟩,.slice none 0 0] rfl rfl Rz.out (by kernel_rfl) rfl (row8 _ _ _ _ _ _ _ _ _ _) ?_;intro w3 hw;clear cv0 co0 co1 co2 co3 co4 co5 co6 cz0 cz1 cz2 cz3 cz4 cz5 cz6 cz7;replace B:=bx hw B (by omega);replace Rv:=kx hw Rv (by omega);replace Ro:=kx hw Ro (by omega);replace Rz:=sx hw Rz;clear hw;have cv0:=cl1 Rv.out;obtain⟨co0,co1,co2,co3,co4,co5,co6⟩:=cl7 Ro.out;obtain⟨cz0,cz1,cz2,cz3,cz4,cz5,cz6,cz7⟩:=cl8 Rz.out))
  refine bodyPost_ret (v:=.tuple #[.agg #[.string s,.int .u32 0,.int .u8 0,.int .u16 0,.int .u32 0,.int .u32 0,.string ⟨#[]⟩,.slice none 0 0],.int .i64 y]) (results_row2 rfl _ _ (w.heap.size+2) 38 #[.string s,.int .u32 0,.int .u8 0,.int .u16 0,.int .u32 0,.int .u32 0,.string ⟨#[]⟩,.slice none 0 0] (0,0) _ rfl Rz.out Tryz.underlying38 rfl (by kernel_rfl) _ rfl) rfl ?_;exact (by
   by_cases hy:y=0
   ·subst hy;exact TPost.yes0 rfl B.out
   ·obtain rfl:=HZ.out hy;exact TPost.no hy B.out)
theorem eqN {a b:Nat}(h:a=b):((a:Int)==(b:Int))=true:=by subst h;simp
theorem neN {a b:Nat}(h:a≠b):((a:Int)==(b:Int))=false:=by
 have h2:(a:Int)≠(b:Int):=by omega
 rw [beq_eq_false_iff_ne];exact h2
set_option maxHeartbeats 1000000 in
theorem told_any (h:VA w A n c L) (o:Op) (ho:o.lim):Calls Tryz.prog 34 #[vV A n c,vOp o] w (TPost w (tdX L o) (tdT L o)):=by
 by_cases hk5:o.K=5
 ·
  have HF:=hid (fun (w1:World) (hb:Below w.heap.size w w1)=>read_any (h.go hb) o ho);have e1:tdX L o=reX L o:=by unfold tdX;rw [if_pos hk5]
  have e2:tdT L o=reT L o:=by unfold tdT;rw [if_pos hk5]
  rw [e1,e2];unfold TPost at HF ⊢;obtain⟨d2,hd2⟩:∃ d2,(if reX L o=0 then reT L o else zTd)=d2:=⟨_,rfl⟩;obtain⟨D2,hD2⟩:∃ D2,(if reX L o=0 then (reT L o).e else [])=D2:=⟨_,rfl⟩;rw [hd2,hD2] at HF ⊢;generalize reX L o=x at *;obtain⟨ds,di,⟨nK,nM,nL,nS,nT⟩,de⟩:=d2;obtain⟨oK,oP,oT,oM,oO,oN,oD⟩:=o;try dsimp only at *
  have k0:=(eqN (a:=oK) (b:=5) (by first | exact hk5 | omega):((oK:Int)==5)=true);clear h ho e1 e2 hd2 hD2 hk5;have HN:=hid (three_new w #[.slice A n c] #[.int .u8 oK,.string oP,.string oT,.int .u16 oM,.int .u32 oO,.int .u32 oN,.string oD] #[.string ⟨#[]⟩,.int .u32 0,.int .u8 0,.int .u16 0,.int .u32 0,.int .u32 0,.string ⟨#[]⟩,.slice none 0 0] 84 31 38)
  go_enter Tryz.func34,Tryz.ntmps34
  go_wp2_with fail
  try generalize (((w.alloc (.cells #[.slice A n c] 84)).alloc (.cells #[.int .u8 oK,.string oP,.string oT,.int .u16 oM,.int .u32 oO,.int .u32 oN,.string oD] 31)).alloc (.cells #[.string ⟨#[]⟩,.int .u32 0,.int .u8 0,.int .u16 0,.int .u32 0,.int .u32 0,.string ⟨#[]⟩,.slice none 0 0] 38))=w0 at *
  have Rv:=hid HN.out.1;have Ro:=hid HN.out.2.1;have Rz:=hid HN.out.2.2.1;have B:=hid HN.out.2.2.2.1;clear HN;have cv0:=cl1 Rv.out;obtain⟨co0,co1,co2,co3,co4,co5,co6⟩:=cl7 Ro.out;obtain⟨cz0,cz1,cz2,cz3,cz4,cz5,cz6,cz7⟩:=cl8 Rz.out;refine (HF.out _ B.out).mono ?_;rintro e w1 ⟨ev,rfl,hm⟩;have hb:=hm.2;have HM:=hid hm;have BK:=hid B.out;have GK:=hid Rz.out.lt;obtain⟨A9,c9,hv9,_⟩:=hm.ls Di.encEn_len;generalize D2.length=m9 at hv9;subst hv9;clear cv0 co0 co1 co2 co3 co4 co5 co6 cz0 cz1 cz2 cz3 cz4 cz5 cz6 cz7;replace Rv:=gg Rv hb;replace Ro:=gg Ro hb;replace Rz:=gg Rz hb;replace B:=gb B hb;clear hm;have cv0:=cl1 Rv.out;obtain⟨co0,co1,co2,co3,co4,co5,co6⟩:=cl7 Ro.out;obtain⟨cz0,cz1,cz2,cz3,cz4,cz5,cz6,cz7⟩:=cl8 Rz.out;clear hb
  go_wp2_with (first
   | (refine old_row rfl 38 (.tmp 4) (.tmp 13) rfl (w.heap.size+2) #[.string ds,.int .u32 di,.int .u8 nK,.int .u16 nM,.int .u32 nL,.int .u32 nS,.string nT,.slice A9 m9 c9] rfl rfl Rz.out (by kernel_rfl) rfl (row8 _ _ _ _ _ _ _ _ _ _) ?_;intro w2 hw;clear cv0 co0 co1 co2 co3 co4 co5 co6 cz0 cz1 cz2 cz3 cz4 cz5 cz6 cz7;have hx:=mk_row (g:=w.heap.size+2) (cs:=#[.string ds,.int .u32 di,.int .u8 nK,.int .u16 nM,.int .u32 nL,.int .u32 nS,.string nT,.slice A9 m9 c9]) HM.out BK.out (by omega) GK.out;rw [← hw] at hx;replace HM:=hid hx;clear hx;replace B:=bx hw B (by omega);replace Rv:=kx hw Rv (by omega);replace Ro:=kx hw Ro (by omega);replace Rz:=sx hw Rz;clear hw;have cv0:=cl1 Rv.out;obtain⟨co0,co1,co2,co3,co4,co5,co6⟩:=cl7 Ro.out;obtain⟨cz0,cz1,cz2,cz3,cz4,cz5,cz6,cz7⟩:=cl8 Rz.out))
  refine bodyPost_ret (v:=.tuple #[.agg #[.string ds,.int .u32 di,.int .u8 nK,.int .u16 nM,.int .u32 nL,.int .u32 nS,.string nT,.slice A9 m9 c9],.int .i64 x]) (results_row2 rfl _ _ (w.heap.size+2) 38 #[.string ds,.int .u32 di,.int .u8 nK,.int .u16 nM,.int .u32 nL,.int .u32 nS,.string nT,.slice A9 m9 c9] (0,0) _ rfl Rz.out Tryz.underlying38 rfl (by kernel_rfl) _ rfl) rfl ?_;exact⟨.slice A9 m9 c9,rfl,HM.out⟩
 ·by_cases hk11:o.K=11
  ·
   have HF:=hid (fun (w1:World) (hb:Below w.heap.size w w1)=>stat_any (h.go hb) o ho);have e1:tdX L o=ldX L o.P (decide (o.N=0)):=by unfold tdX;rw [if_neg hk5,if_pos hk11]
   have e2:tdT L o=stT L o:=by unfold tdT;rw [if_neg hk5,if_pos hk11]
   rw [e1,e2];unfold TPost at HF ⊢;obtain⟨d2,hd2⟩:∃ d2,(if ldX L o.P (decide (o.N=0))=0 then stT L o else zTd)=d2:=⟨_,rfl⟩;obtain⟨D2,hD2⟩:∃ D2,(if ldX L o.P (decide (o.N=0))=0 then (stT L o).e else [])=D2:=⟨_,rfl⟩;rw [hd2,hD2] at HF ⊢;generalize ldX L o.P (decide (o.N=0))=x at *;obtain⟨ds,di,⟨nK,nM,nL,nS,nT⟩,de⟩:=d2;obtain⟨oK,oP,oT,oM,oO,oN,oD⟩:=o;try dsimp only at *
   have k0:=(neN (a:=oK) (b:=5) (by first | exact hk5 | omega):((oK:Int)==5)=false);have k1:=(eqN (a:=oK) (b:=11) (by first | exact hk11 | omega):((oK:Int)==11)=true);clear h ho e1 e2 hd2 hD2 hk5 hk11;have HN:=hid (three_new w #[.slice A n c] #[.int .u8 oK,.string oP,.string oT,.int .u16 oM,.int .u32 oO,.int .u32 oN,.string oD] #[.string ⟨#[]⟩,.int .u32 0,.int .u8 0,.int .u16 0,.int .u32 0,.int .u32 0,.string ⟨#[]⟩,.slice none 0 0] 84 31 38)
   go_enter Tryz.func34,Tryz.ntmps34
   go_wp2_with fail
   try generalize (((w.alloc (.cells #[.slice A n c] 84)).alloc (.cells #[.int .u8 oK,.string oP,.string oT,.int .u16 oM,.int .u32 oO,.int .u32 oN,.string oD] 31)).alloc (.cells #[.string ⟨#[]⟩,.int .u32 0,.int .u8 0,.int .u16 0,.int .u32 0,.int .u32 0,.string ⟨#[]⟩,.slice none 0 0] 38))=w0 at *
   have Rv:=hid HN.out.1;have Ro:=hid HN.out.2.1;have Rz:=hid HN.out.2.2.1;have B:=hid HN.out.2.2.2.1;clear HN;have cv0:=cl1 Rv.out;obtain⟨co0,co1,co2,co3,co4,co5,co6⟩:=cl7 Ro.out;obtain⟨cz0,cz1,cz2,cz3,cz4,cz5,cz6,cz7⟩:=cl8 Rz.out;refine (HF.out _ B.out).mono ?_;rintro e w1 ⟨ev,rfl,hm⟩;have hb:=hm.2;have HM:=hid hm;have BK:=hid B.out;have GK:=hid Rz.out.lt;obtain⟨A9,c9,hv9,_⟩:=hm.ls Di.encEn_len;generalize D2.length=m9 at hv9;subst hv9;clear cv0 co0 co1 co2 co3 co4 co5 co6 cz0 cz1 cz2 cz3 cz4 cz5 cz6 cz7;replace Rv:=gg Rv hb;replace Ro:=gg Ro hb;replace Rz:=gg Rz hb;replace B:=gb B hb;clear hm;have cv0:=cl1 Rv.out;obtain⟨co0,co1,co2,co3,co4,co5,co6⟩:=cl7 Ro.out;obtain⟨cz0,cz1,cz2,cz3,cz4,cz5,cz6,cz7⟩:=cl8 Rz.out;clear hb
   go_wp2_with (first
    | (refine old_row rfl 38 (.tmp 4) (.tmp 20) rfl (w.heap.size+2) #[.string ds,.int .u32 di,.int .u8 nK,.int .u16 nM,.int .u32 nL,.int .u32 nS,.string nT,.slice A9 m9 c9] rfl rfl Rz.out (by kernel_rfl) rfl (row8 _ _ _ _ _ _ _ _ _ _) ?_;intro w2 hw;clear cv0 co0 co1 co2 co3 co4 co5 co6 cz0 cz1 cz2 cz3 cz4 cz5 cz6 cz7;have hx:=mk_row (g:=w.heap.size+2) (cs:=#[.string ds,.int .u32 di,.int .u8 nK,.int .u16 nM,.int .u32 nL,.int .u32 nS,.string nT,.slice A9 m9 c9]) HM.out BK.out (by omega) GK.out;rw [← hw] at hx;replace HM:=hid hx;clear hx;replace B:=bx hw B (by omega);replace Rv:=kx hw Rv (by omega);replace Ro:=kx hw Ro (by omega);replace Rz:=sx hw Rz;clear hw;have cv0:=cl1 Rv.out;obtain⟨co0,co1,co2,co3,co4,co5,co6⟩:=cl7 Ro.out;obtain⟨cz0,cz1,cz2,cz3,cz4,cz5,cz6,cz7⟩:=cl8 Rz.out))
   refine bodyPost_ret (v:=.tuple #[.agg #[.string ds,.int .u32 di,.int .u8 nK,.int .u16 nM,.int .u32 nL,.int .u32 nS,.string nT,.slice A9 m9 c9],.int .i64 x]) (results_row2 rfl _ _ (w.heap.size+2) 38 #[.string ds,.int .u32 di,.int .u8 nK,.int .u16 nM,.int .u32 nL,.int .u32 nS,.string nT,.slice A9 m9 c9] (0,0) _ rfl Rz.out Tryz.underlying38 rfl (by kernel_rfl) _ rfl) rfl ?_;exact⟨.slice A9 m9 c9,rfl,HM.out⟩
  ·by_cases hk12:o.K=12
   ·
    have HF:=hid (fun (w1:World) (hb:Below w.heap.size w w1)=>list_any (h.go hb) o ho);have e1:tdX L o=liX L o:=by unfold tdX;rw [if_neg hk5,if_neg hk11,if_pos hk12]
    have e2:tdT L o=liT L o:=by unfold tdT;rw [if_neg hk5,if_neg hk11,if_pos hk12]
    rw [e1,e2];unfold TPost at HF ⊢;obtain⟨d2,hd2⟩:∃ d2,(if liX L o=0 then liT L o else zTd)=d2:=⟨_,rfl⟩;obtain⟨D2,hD2⟩:∃ D2,(if liX L o=0 then (liT L o).e else [])=D2:=⟨_,rfl⟩;rw [hd2,hD2] at HF ⊢;generalize liX L o=x at *;obtain⟨ds,di,⟨nK,nM,nL,nS,nT⟩,de⟩:=d2;obtain⟨oK,oP,oT,oM,oO,oN,oD⟩:=o;try dsimp only at *
    have k0:=(neN (a:=oK) (b:=5) (by first | exact hk5 | omega):((oK:Int)==5)=false);have k1:=(neN (a:=oK) (b:=11) (by first | exact hk11 | omega):((oK:Int)==11)=false);have k2:=(eqN (a:=oK) (b:=12) (by first | exact hk12 | omega):((oK:Int)==12)=true);clear h ho e1 e2 hd2 hD2 hk5 hk11 hk12;have HN:=hid (three_new w #[.slice A n c] #[.int .u8 oK,.string oP,.string oT,.int .u16 oM,.int .u32 oO,.int .u32 oN,.string oD] #[.string ⟨#[]⟩,.int .u32 0,.int .u8 0,.int .u16 0,.int .u32 0,.int .u32 0,.string ⟨#[]⟩,.slice none 0 0] 84 31 38)
    go_enter Tryz.func34,Tryz.ntmps34
    go_wp2_with fail
    try generalize (((w.alloc (.cells #[.slice A n c] 84)).alloc (.cells #[.int .u8 oK,.string oP,.string oT,.int .u16 oM,.int .u32 oO,.int .u32 oN,.string oD] 31)).alloc (.cells #[.string ⟨#[]⟩,.int .u32 0,.int .u8 0,.int .u16 0,.int .u32 0,.int .u32 0,.string ⟨#[]⟩,.slice none 0 0] 38))=w0 at *
    have Rv:=hid HN.out.1;have Ro:=hid HN.out.2.1;have Rz:=hid HN.out.2.2.1;have B:=hid HN.out.2.2.2.1;clear HN;have cv0:=cl1 Rv.out;obtain⟨co0,co1,co2,co3,co4,co5,co6⟩:=cl7 Ro.out;obtain⟨cz0,cz1,cz2,cz3,cz4,cz5,cz6,cz7⟩:=cl8 Rz.out;refine (HF.out _ B.out).mono ?_;rintro e w1 ⟨ev,rfl,hm⟩;have hb:=hm.2;have HM:=hid hm;have BK:=hid B.out;have GK:=hid Rz.out.lt;obtain⟨A9,c9,hv9,_⟩:=hm.ls Di.encEn_len;generalize D2.length=m9 at hv9;subst hv9;clear cv0 co0 co1 co2 co3 co4 co5 co6 cz0 cz1 cz2 cz3 cz4 cz5 cz6 cz7;replace Rv:=gg Rv hb;replace Ro:=gg Ro hb;replace Rz:=gg Rz hb;replace B:=gb B hb;clear hm;have cv0:=cl1 Rv.out;obtain⟨co0,co1,co2,co3,co4,co5,co6⟩:=cl7 Ro.out;obtain⟨cz0,cz1,cz2,cz3,cz4,cz5,cz6,cz7⟩:=cl8 Rz.out;clear hb
    go_wp2_with (first
     | (refine old_row rfl 38 (.tmp 4) (.tmp 27) rfl (w.heap.size+2) #[.string ds,.int .u32 di,.int .u8 nK,.int .u16 nM,.int .u32 nL,.int .u32 nS,.string nT,.slice A9 m9 c9] rfl rfl Rz.out (by kernel_rfl) rfl (row8 _ _ _ _ _ _ _ _ _ _) ?_;intro w2 hw;clear cv0 co0 co1 co2 co3 co4 co5 co6 cz0 cz1 cz2 cz3 cz4 cz5 cz6 cz7;have hx:=mk_row (g:=w.heap.size+2) (cs:=#[.string ds,.int .u32 di,.int .u8 nK,.int .u16 nM,.int .u32 nL,.int .u32 nS,.string nT,.slice A9 m9 c9]) HM.out BK.out (by omega) GK.out;rw [← hw] at hx;replace HM:=hid hx;clear hx;replace B:=bx hw B (by omega);replace Rv:=kx hw Rv (by omega);replace Ro:=kx hw Ro (by omega);replace Rz:=sx hw Rz;clear hw;have cv0:=cl1 Rv.out;obtain⟨co0,co1,co2,co3,co4,co5,co6⟩:=cl7 Ro.out;obtain⟨cz0,cz1,cz2,cz3,cz4,cz5,cz6,cz7⟩:=cl8 Rz.out))
    refine bodyPost_ret (v:=.tuple #[.agg #[.string ds,.int .u32 di,.int .u8 nK,.int .u16 nM,.int .u32 nL,.int .u32 nS,.string nT,.slice A9 m9 c9],.int .i64 x]) (results_row2 rfl _ _ (w.heap.size+2) 38 #[.string ds,.int .u32 di,.int .u8 nK,.int .u16 nM,.int .u32 nL,.int .u32 nS,.string nT,.slice A9 m9 c9] (0,0) _ rfl Rz.out Tryz.underlying38 rfl (by kernel_rfl) _ rfl) rfl ?_;exact⟨.slice A9 m9 c9,rfl,HM.out⟩
   ·
    have HF:=hid (fun (w1:World) (hb:Below w.heap.size w w1)=>getAttr_any (h.go hb) o ho);have e1:tdX L o=daX L o:=by unfold tdX;rw [if_neg hk5,if_neg hk11,if_neg hk12]
    have e2:tdT L o=gaT L o:=by unfold tdT;rw [if_neg hk5,if_neg hk11,if_neg hk12]
    rw [e1,e2];unfold TPost at HF ⊢;obtain⟨d2,hd2⟩:∃ d2,(if daX L o=0 then gaT L o else zTd)=d2:=⟨_,rfl⟩;obtain⟨D2,hD2⟩:∃ D2,(if daX L o=0 then (gaT L o).e else [])=D2:=⟨_,rfl⟩;rw [hd2,hD2] at HF ⊢;generalize daX L o=x at *;obtain⟨ds,di,⟨nK,nM,nL,nS,nT⟩,de⟩:=d2;obtain⟨oK,oP,oT,oM,oO,oN,oD⟩:=o;try dsimp only at *
    have k0:=(neN (a:=oK) (b:=5) (by first | exact hk5 | omega):((oK:Int)==5)=false);have k1:=(neN (a:=oK) (b:=11) (by first | exact hk11 | omega):((oK:Int)==11)=false);have k2:=(neN (a:=oK) (b:=12) (by first | exact hk12 | omega):((oK:Int)==12)=false);clear h ho e1 e2 hd2 hD2 hk5 hk11 hk12;have HN:=hid (three_new w #[.slice A n c] #[.int .u8 oK,.string oP,.string oT,.int .u16 oM,.int .u32 oO,.int .u32 oN,.string oD] #[.string ⟨#[]⟩,.int .u32 0,.int .u8 0,.int .u16 0,.int .u32 0,.int .u32 0,.string ⟨#[]⟩,.slice none 0 0] 84 31 38)
    go_enter Tryz.func34,Tryz.ntmps34
    go_wp2_with fail
    try generalize (((w.alloc (.cells #[.slice A n c] 84)).alloc (.cells #[.int .u8 oK,.string oP,.string oT,.int .u16 oM,.int .u32 oO,.int .u32 oN,.string oD] 31)).alloc (.cells #[.string ⟨#[]⟩,.int .u32 0,.int .u8 0,.int .u16 0,.int .u32 0,.int .u32 0,.string ⟨#[]⟩,.slice none 0 0] 38))=w0 at *
    have Rv:=hid HN.out.1;have Ro:=hid HN.out.2.1;have Rz:=hid HN.out.2.2.1;have B:=hid HN.out.2.2.2.1;clear HN;have cv0:=cl1 Rv.out;obtain⟨co0,co1,co2,co3,co4,co5,co6⟩:=cl7 Ro.out;obtain⟨cz0,cz1,cz2,cz3,cz4,cz5,cz6,cz7⟩:=cl8 Rz.out;refine (HF.out _ B.out).mono ?_;rintro e w1 ⟨ev,rfl,hm⟩;have hb:=hm.2;have HM:=hid hm;have BK:=hid B.out;have GK:=hid Rz.out.lt;obtain⟨A9,c9,hv9,_⟩:=hm.ls Di.encEn_len;generalize D2.length=m9 at hv9;subst hv9;clear cv0 co0 co1 co2 co3 co4 co5 co6 cz0 cz1 cz2 cz3 cz4 cz5 cz6 cz7;replace Rv:=gg Rv hb;replace Ro:=gg Ro hb;replace Rz:=gg Rz hb;replace B:=gb B hb;clear hm;have cv0:=cl1 Rv.out;obtain⟨co0,co1,co2,co3,co4,co5,co6⟩:=cl7 Ro.out;obtain⟨cz0,cz1,cz2,cz3,cz4,cz5,cz6,cz7⟩:=cl8 Rz.out;clear hb
    go_wp2_with (first
     | (refine old_row rfl 38 (.tmp 4) (.tmp 32) rfl (w.heap.size+2) #[.string ds,.int .u32 di,.int .u8 nK,.int .u16 nM,.int .u32 nL,.int .u32 nS,.string nT,.slice A9 m9 c9] rfl rfl Rz.out (by kernel_rfl) rfl (row8 _ _ _ _ _ _ _ _ _ _) ?_;intro w2 hw;clear cv0 co0 co1 co2 co3 co4 co5 co6 cz0 cz1 cz2 cz3 cz4 cz5 cz6 cz7;have hx:=mk_row (g:=w.heap.size+2) (cs:=#[.string ds,.int .u32 di,.int .u8 nK,.int .u16 nM,.int .u32 nL,.int .u32 nS,.string nT,.slice A9 m9 c9]) HM.out BK.out (by omega) GK.out;rw [← hw] at hx;replace HM:=hid hx;clear hx;replace B:=bx hw B (by omega);replace Rv:=kx hw Rv (by omega);replace Ro:=kx hw Ro (by omega);replace Rz:=sx hw Rz;clear hw;have cv0:=cl1 Rv.out;obtain⟨co0,co1,co2,co3,co4,co5,co6⟩:=cl7 Ro.out;obtain⟨cz0,cz1,cz2,cz3,cz4,cz5,cz6,cz7⟩:=cl8 Rz.out))
    refine bodyPost_ret (v:=.tuple #[.agg #[.string ds,.int .u32 di,.int .u8 nK,.int .u16 nM,.int .u32 nL,.int .u32 nS,.string nT,.slice A9 m9 c9],.int .i64 x]) (results_row2 rfl _ _ (w.heap.size+2) 38 #[.string ds,.int .u32 di,.int .u8 nK,.int .u16 nM,.int .u32 nL,.int .u32 nS,.string nT,.slice A9 m9 c9] (0,0) _ rfl Rz.out Tryz.underlying38 rfl (by kernel_rfl) _ rfl) rfl ?_;exact⟨.slice A9 m9 c9,rfl,HM.out⟩
end Go.Proofs.YtopepebcnaikiaaGreatDoor.Fi
namespace Go.Proofs.YtopepebcnaikiaaGreatDoor.Fi
open Lib (hid)
open Go.ChangeShapes Go.WideShapes Go.ChangeAt Go.RowKit
open BigFrame
open Ar Rg
open Ino
open It (Itm Ch get und app dif rt rc enc er getV get_any under_any apply_any diff_any MkI MkC)
open Di (ItA wlk rgt rgt_iff numOf Vo vo pts lsX lsL up En NmA Walk_any Up MkE List_any)
open Ph (nb spX spB laX laD laN)
open Pk (nB nE tN tR tE number_any take_any)
variable {w w' wr:World}{A:Option Addr}{n c:Nat}{L:List Itm}
theorem mk_sl {α:Type}{en:α→List Value}{k:Nat}{te:TypeId}(hk:∀ x,(en x).length=k){A':Option Addr}{m c':Nat}{D:List α}(h:Mk en k te w wr (.slice A' m c') D):m=D.length∧m≤c'∧c'≤maxLen∧Ls en k wr wr.heap.size A' D:=by
 obtain⟨A9,c9,hv,h1,h2,h3⟩:=h.ls hk;injection hv with e1 e2 e3
 subst e1;subst e2;subst e3;exact⟨rfl,h1,h2,h3⟩
set_option maxHeartbeats 1000000 in
theorem apart_any (h:VA w A n c L){C:List Ch}{A':Option Addr}{m c':Nat}(hm:m=C.length) (hlen:m≤1048576000) (hL:Ls Sc.enc 3 w w.heap.size A' C):Calls Tryz.prog 24 #[vV A n c,.slice A' m c'] w fun e w'=>∃ v,e=.returned v∧MkC w w' v (apC L C):=by
 have HAP:=hid (fun (w1:World) (hb:Below w.heap.size w w1)=>apply_any L C A A' n c m c' w1.heap.size w1.heap.size (h.go hb).it.1 h.nc h.cm hm (by have:=h.it.2.1;omega) (by omega) w1 (Nat.le_refl _) (Nat.le_refl _) (h.go hb).it.2.2 ((hL.below hb).more hb.size));have hrt:=h.rt;have HDF:=hid (fun (w1:World) (hb:Below w.heap.size w w1) (Y:List Itm) (A9:Option Addr) (m9 c9:Nat) (h9:m9=Y.length) (hl9:m9≤1099511627776) (hL9:Ls enc 2 w1 w1.heap.size A9 Y)=>diff_any L Y A A9 n c m9 c9 w1.heap.size w1.heap.size (h.go hb).it.1 h9 (by have:=h.it.2.1;omega) hl9 w1 (Nat.le_refl _) (Nat.le_refl _) (h.go hb).it.2.2 hL9);rw [hrt,Bool.true_and] at HAP;have HRT:=hid (show rt (if rc C=true then app L C else [])=true by
  split
  ·exact It.rt_app hrt (by assumption)
  ·rfl)
 have HYL:=hid (show (if rc C=true then app L C else []).length≤1099511627776 by
  split
  ·have:=It.app_len C L;have:=h.it.1;have:=h.it.2.1;omega
  ·exact Nat.zero_le _)
 have HAC:=hid (show apC L C=dif L (if rc C=true then app L C else []) from rfl);have HRL:=hid hrt;generalize (if rc C=true then app L C else [])=Y at *;generalize apC L C=Z at *;generalize er (rc C)=y at *;clear h hm hlen hL hrt;have HN:=hid (one_new w #[.slice A n c] 84)
 go_enter Tryz.func24,Tryz.ntmps24
 go_wp2_with fail
 try generalize (w.alloc (.cells #[.slice A n c] 84))=w0 at *
 have Rv:=hid HN.out.1;have B:=hid HN.out.2.1;clear HN;have cv0:=cl1 Rv.out;refine (HAP.out _ B.out).mono ?_;rintro e w1 ⟨v,rfl,hm⟩;have hb:=hm.2;have HM:=hid hm;obtain⟨A9,c9,hv9,_⟩:=hm.ls It.enc_len;generalize Y.length=m9 at hv9;subst hv9;clear cv0;replace Rv:=gg Rv hb;replace B:=gb B hb;clear hm;have cv0:=cl1 Rv.out;clear hb
 go_wp2_with (first
  | (go_at_call 36;refine (HDF.out _ B.out Y A9 m9 c9 (mk_sl It.enc_len HM.out).1 (by rw [(mk_sl It.enc_len HM.out).1];exact HYL.out) (mk_sl It.enc_len HM.out).2.2.2).mono ?_;rintro e w2 ⟨v2,rfl,hm⟩;have hb:=hm.2;have HZ:=hid (hm.since B.out);clear cv0;replace Rv:=gg Rv hb;replace HM:=hid (HM.out.go hb);replace B:=gb B hb;clear hm;have cv0:=cl1 Rv.out;clear hb))
 go_ret
 refine⟨v2,rfl,?_⟩;have hz:=HZ.out;rw [HRL.out,HRT.out] at hz;rw [HAC.out];exact hz
set_option maxHeartbeats 2000000 in
theorem changes_any (h:VA w A n c L) (o:Op) (ho:o.lim):Calls Tryz.prog 35 #[vV A n c,vOp o] w (CPost w (chX L o) (chC L o)):=by
 by_cases hk1:o.K=1
 ·
  have e1:chX L o=crX L o.P ⟨2,o.M,1,0,ByteArray.empty⟩:=by unfold chX;rw [if_pos hk1]
  have e2:chC L o=crC L o.P ⟨2,o.M,1,0,ByteArray.empty⟩:=by unfold chC;rw [if_pos hk1]
  rw [e1,e2];have HF:=hid (fun (w1:World) (hb:Below w.heap.size w w1)=>(show Calls Tryz.prog 62 #[vV A n c,.string o.P,.agg #[.int .u8 2,.int .u16 (o.M:Nat),.int .u32 1,.int .u32 0,.string ⟨#[]⟩]] w1 _ from create_any (h.go hb) o.P ho.2.2.2.2.1 ⟨2,o.M,1,0,ByteArray.empty⟩ ⟨by show 2<256;decide,ho.2.1,by show 1<4294967296;decide,by show 0<4294967296;decide⟩));clear e1 e2;unfold CPost at HF ⊢;obtain⟨D2,hD2⟩:∃ D2,(if crX L o.P ⟨2,o.M,1,0,ByteArray.empty⟩=0 then crC L o.P ⟨2,o.M,1,0,ByteArray.empty⟩ else [])=D2:=⟨_,rfl⟩;rw [hD2] at HF ⊢;clear hD2;generalize crX L o.P ⟨2,o.M,1,0,ByteArray.empty⟩=x at *;obtain⟨oK,oP,oT,oM,oO,oN,oD⟩:=o;try dsimp only at *
  have k0:=(eqN (a:=oK) (b:=1) (by first | exact hk1 | omega):((oK:Int)==1)=true);clear h ho hk1;have HN:=hid (two_new w #[.slice A n c] #[.int .u8 oK,.string oP,.string oT,.int .u16 oM,.int .u32 oO,.int .u32 oN,.string oD] 84 31)
  go_enter Tryz.func35,Tryz.ntmps35
  go_wp2_with fail
  try generalize ((w.alloc (.cells #[.slice A n c] 84)).alloc (.cells #[.int .u8 oK,.string oP,.string oT,.int .u16 oM,.int .u32 oO,.int .u32 oN,.string oD] 31))=w0 at *
  have Rv:=hid HN.out.1;have Ro:=hid HN.out.2.1;have B:=hid HN.out.2.2.1;clear HN;have cv0:=cl1 Rv.out;obtain⟨co0,co1,co2,co3,co4,co5,co6⟩:=cl7 Ro.out;refine (HF.out _ B.out).mono ?_;rintro e w1 ⟨v,rfl,hm⟩;have hb:=hm.2;have HM:=hid (hm.since B.out);clear cv0 co0 co1 co2 co3 co4 co5 co6;replace Rv:=gg Rv hb;replace Ro:=gg Ro hb;replace B:=gb B hb;clear hm;have cv0:=cl1 Rv.out;obtain⟨co0,co1,co2,co3,co4,co5,co6⟩:=cl7 Ro.out;clear hb
  go_wp2
  go_ret2
  exact⟨v,rfl,HM.out⟩
 ·by_cases hk2:o.K=2
  ·
   have e1:chX L o=crX L o.P ⟨1,o.M,1,0,ByteArray.empty⟩:=by unfold chX;rw [if_neg hk1,if_pos hk2]
   have e2:chC L o=crC L o.P ⟨1,o.M,1,0,ByteArray.empty⟩:=by unfold chC;rw [if_neg hk1,if_pos hk2]
   rw [e1,e2];have HF:=hid (fun (w1:World) (hb:Below w.heap.size w w1)=>(show Calls Tryz.prog 62 #[vV A n c,.string o.P,.agg #[.int .u8 1,.int .u16 (o.M:Nat),.int .u32 1,.int .u32 0,.string ⟨#[]⟩]] w1 _ from create_any (h.go hb) o.P ho.2.2.2.2.1 ⟨1,o.M,1,0,ByteArray.empty⟩ ⟨by show 1<256;decide,ho.2.1,by show 1<4294967296;decide,by show 0<4294967296;decide⟩));clear e1 e2;unfold CPost at HF ⊢;obtain⟨D2,hD2⟩:∃ D2,(if crX L o.P ⟨1,o.M,1,0,ByteArray.empty⟩=0 then crC L o.P ⟨1,o.M,1,0,ByteArray.empty⟩ else [])=D2:=⟨_,rfl⟩;rw [hD2] at HF ⊢;clear hD2;generalize crX L o.P ⟨1,o.M,1,0,ByteArray.empty⟩=x at *;obtain⟨oK,oP,oT,oM,oO,oN,oD⟩:=o;try dsimp only at *
   have k0:=(neN (a:=oK) (b:=1) (by first | exact hk1 | omega):((oK:Int)==1)=false);have k1:=(eqN (a:=oK) (b:=2) (by first | exact hk2 | omega):((oK:Int)==2)=true);clear h ho hk1 hk2;have HN:=hid (two_new w #[.slice A n c] #[.int .u8 oK,.string oP,.string oT,.int .u16 oM,.int .u32 oO,.int .u32 oN,.string oD] 84 31)
   go_enter Tryz.func35,Tryz.ntmps35
   go_wp2_with fail
   try generalize ((w.alloc (.cells #[.slice A n c] 84)).alloc (.cells #[.int .u8 oK,.string oP,.string oT,.int .u16 oM,.int .u32 oO,.int .u32 oN,.string oD] 31))=w0 at *
   have Rv:=hid HN.out.1;have Ro:=hid HN.out.2.1;have B:=hid HN.out.2.2.1;clear HN;have cv0:=cl1 Rv.out;obtain⟨co0,co1,co2,co3,co4,co5,co6⟩:=cl7 Ro.out;refine (HF.out _ B.out).mono ?_;rintro e w1 ⟨v,rfl,hm⟩;have hb:=hm.2;have HM:=hid (hm.since B.out);clear cv0 co0 co1 co2 co3 co4 co5 co6;replace Rv:=gg Rv hb;replace Ro:=gg Ro hb;replace B:=gb B hb;clear hm;have cv0:=cl1 Rv.out;obtain⟨co0,co1,co2,co3,co4,co5,co6⟩:=cl7 Ro.out;clear hb
   go_wp2
   go_ret2
   exact⟨v,rfl,HM.out⟩
  ·by_cases hk3:o.K=3
   ·
    have e1:chX L o=crX L o.P ⟨3,o.M,1,o.T.size,o.T⟩:=by unfold chX;rw [if_neg hk1,if_neg hk2,if_pos hk3]
    have e2:chC L o=crC L o.P ⟨3,o.M,1,o.T.size,o.T⟩:=by unfold chC;rw [if_neg hk1,if_neg hk2,if_pos hk3]
    rw [e1,e2];have HF:=hid (fun (w1:World) (hb:Below w.heap.size w w1)=>(show Calls Tryz.prog 62 #[vV A n c,.string o.P,.agg #[.int .u8 3,.int .u16 (o.M:Nat),.int .u32 1,.int .u32 (o.T.size:Nat),.string o.T]] w1 _ from create_any (h.go hb) o.P ho.2.2.2.2.1 ⟨3,o.M,1,o.T.size,o.T⟩ ⟨by show 3<256;decide,ho.2.1,by show 1<4294967296;decide,by have:=ho.2.2.2.2.2.1;show o.T.size<4294967296;omega⟩));have hu1:IntKind.u32.wrap (o.T.size:Int)=(o.T.size:Int):=u32_id (by have:=ho.2.2.2.2.2.1;omega);clear e1 e2;unfold CPost at HF ⊢;obtain⟨D2,hD2⟩:∃ D2,(if crX L o.P ⟨3,o.M,1,o.T.size,o.T⟩=0 then crC L o.P ⟨3,o.M,1,o.T.size,o.T⟩ else [])=D2:=⟨_,rfl⟩;rw [hD2] at HF ⊢;clear hD2;generalize crX L o.P ⟨3,o.M,1,o.T.size,o.T⟩=x at *;obtain⟨oK,oP,oT,oM,oO,oN,oD⟩:=o;try dsimp only at *
    have k0:=(neN (a:=oK) (b:=1) (by first | exact hk1 | omega):((oK:Int)==1)=false);have k1:=(neN (a:=oK) (b:=2) (by first | exact hk2 | omega):((oK:Int)==2)=false);have k2:=(eqN (a:=oK) (b:=3) (by first | exact hk3 | omega):((oK:Int)==3)=true);clear h ho hk1 hk2 hk3;have HN:=hid (two_new w #[.slice A n c] #[.int .u8 oK,.string oP,.string oT,.int .u16 oM,.int .u32 oO,.int .u32 oN,.string oD] 84 31)
    go_enter Tryz.func35,Tryz.ntmps35
    go_wp2_with fail
    try generalize ((w.alloc (.cells #[.slice A n c] 84)).alloc (.cells #[.int .u8 oK,.string oP,.string oT,.int .u16 oM,.int .u32 oO,.int .u32 oN,.string oD] 31))=w0 at *
    have Rv:=hid HN.out.1;have Ro:=hid HN.out.2.1;have B:=hid HN.out.2.2.1;clear HN;have cv0:=cl1 Rv.out;obtain⟨co0,co1,co2,co3,co4,co5,co6⟩:=cl7 Ro.out;refine (HF.out _ B.out).mono ?_;rintro e w1 ⟨v,rfl,hm⟩;have hb:=hm.2;have HM:=hid (hm.since B.out);clear cv0 co0 co1 co2 co3 co4 co5 co6;replace Rv:=gg Rv hb;replace Ro:=gg Ro hb;replace B:=gb B hb;clear hm;have cv0:=cl1 Rv.out;obtain⟨co0,co1,co2,co3,co4,co5,co6⟩:=cl7 Ro.out;clear hb
    go_wp2
    go_ret2
    exact⟨v,rfl,HM.out⟩
   ·by_cases hk4:o.K=4
    ·
     have e1:chX L o=hdX L o:=by unfold chX;rw [if_neg hk1,if_neg hk2,if_neg hk3,if_pos hk4]
     have e2:chC L o=hdC L o:=by unfold chC;rw [if_neg hk1,if_neg hk2,if_neg hk3,if_pos hk4]
     rw [e1,e2];have HF:=hid (fun (w1:World) (hb:Below w.heap.size w w1)=>hard_any (h.go hb) o ho);clear e1 e2;unfold CPost at HF ⊢;obtain⟨D2,hD2⟩:∃ D2,(if hdX L o=0 then hdC L o else [])=D2:=⟨_,rfl⟩;rw [hD2] at HF ⊢;clear hD2;generalize hdX L o=x at *;obtain⟨oK,oP,oT,oM,oO,oN,oD⟩:=o;try dsimp only at *
     have k0:=(neN (a:=oK) (b:=1) (by first | exact hk1 | omega):((oK:Int)==1)=false);have k1:=(neN (a:=oK) (b:=2) (by first | exact hk2 | omega):((oK:Int)==2)=false);have k2:=(neN (a:=oK) (b:=3) (by first | exact hk3 | omega):((oK:Int)==3)=false);have k3:=(eqN (a:=oK) (b:=4) (by first | exact hk4 | omega):((oK:Int)==4)=true);clear h ho hk1 hk2 hk3 hk4;have HN:=hid (two_new w #[.slice A n c] #[.int .u8 oK,.string oP,.string oT,.int .u16 oM,.int .u32 oO,.int .u32 oN,.string oD] 84 31)
     go_enter Tryz.func35,Tryz.ntmps35
     go_wp2_with fail
     try generalize ((w.alloc (.cells #[.slice A n c] 84)).alloc (.cells #[.int .u8 oK,.string oP,.string oT,.int .u16 oM,.int .u32 oO,.int .u32 oN,.string oD] 31))=w0 at *
     have Rv:=hid HN.out.1;have Ro:=hid HN.out.2.1;have B:=hid HN.out.2.2.1;clear HN;have cv0:=cl1 Rv.out;obtain⟨co0,co1,co2,co3,co4,co5,co6⟩:=cl7 Ro.out;refine (HF.out _ B.out).mono ?_;rintro e w1 ⟨v,rfl,hm⟩;have hb:=hm.2;have HM:=hid (hm.since B.out);clear cv0 co0 co1 co2 co3 co4 co5 co6;replace Rv:=gg Rv hb;replace Ro:=gg Ro hb;replace B:=gb B hb;clear hm;have cv0:=cl1 Rv.out;obtain⟨co0,co1,co2,co3,co4,co5,co6⟩:=cl7 Ro.out;clear hb
     go_wp2
     go_ret2
     exact⟨v,rfl,HM.out⟩
    ·by_cases hk6:o.K=6
     ·
      have e1:chX L o=wtX L o:=by unfold chX;rw [if_neg hk1,if_neg hk2,if_neg hk3,if_neg hk4,if_pos hk6]
      have e2:chC L o=wtC L o:=by unfold chC;rw [if_neg hk1,if_neg hk2,if_neg hk3,if_neg hk4,if_pos hk6]
      rw [e1,e2];have HF:=hid (fun (w1:World) (hb:Below w.heap.size w w1)=>write_any (h.go hb) o ho);clear e1 e2;unfold CPost at HF ⊢;obtain⟨D2,hD2⟩:∃ D2,(if wtX L o=0 then wtC L o else [])=D2:=⟨_,rfl⟩;rw [hD2] at HF ⊢;clear hD2;generalize wtX L o=x at *;obtain⟨oK,oP,oT,oM,oO,oN,oD⟩:=o;try dsimp only at *
      have k0:=(neN (a:=oK) (b:=1) (by first | exact hk1 | omega):((oK:Int)==1)=false);have k1:=(neN (a:=oK) (b:=2) (by first | exact hk2 | omega):((oK:Int)==2)=false);have k2:=(neN (a:=oK) (b:=3) (by first | exact hk3 | omega):((oK:Int)==3)=false);have k3:=(neN (a:=oK) (b:=4) (by first | exact hk4 | omega):((oK:Int)==4)=false);have k4:=(eqN (a:=oK) (b:=6) (by first | exact hk6 | omega):((oK:Int)==6)=true);clear h ho hk1 hk2 hk3 hk4 hk6;have HN:=hid (two_new w #[.slice A n c] #[.int .u8 oK,.string oP,.string oT,.int .u16 oM,.int .u32 oO,.int .u32 oN,.string oD] 84 31)
      go_enter Tryz.func35,Tryz.ntmps35
      go_wp2_with fail
      try generalize ((w.alloc (.cells #[.slice A n c] 84)).alloc (.cells #[.int .u8 oK,.string oP,.string oT,.int .u16 oM,.int .u32 oO,.int .u32 oN,.string oD] 31))=w0 at *
      have Rv:=hid HN.out.1;have Ro:=hid HN.out.2.1;have B:=hid HN.out.2.2.1;clear HN;have cv0:=cl1 Rv.out;obtain⟨co0,co1,co2,co3,co4,co5,co6⟩:=cl7 Ro.out;refine (HF.out _ B.out).mono ?_;rintro e w1 ⟨v,rfl,hm⟩;have hb:=hm.2;have HM:=hid (hm.since B.out);clear cv0 co0 co1 co2 co3 co4 co5 co6;replace Rv:=gg Rv hb;replace Ro:=gg Ro hb;replace B:=gb B hb;clear hm;have cv0:=cl1 Rv.out;obtain⟨co0,co1,co2,co3,co4,co5,co6⟩:=cl7 Ro.out;clear hb
      go_wp2
      go_ret2
      exact⟨v,rfl,HM.out⟩
     ·by_cases hk7:o.K=7
      ·
       have e1:chX L o=cuX L o:=by unfold chX;rw [if_neg hk1,if_neg hk2,if_neg hk3,if_neg hk4,if_neg hk6,if_pos hk7]
       have e2:chC L o=cuC L o:=by unfold chC;rw [if_neg hk1,if_neg hk2,if_neg hk3,if_neg hk4,if_neg hk6,if_pos hk7]
       rw [e1,e2];have HF:=hid (fun (w1:World) (hb:Below w.heap.size w w1)=>cut_any (h.go hb) o ho);clear e1 e2;unfold CPost at HF ⊢;obtain⟨D2,hD2⟩:∃ D2,(if cuX L o=0 then cuC L o else [])=D2:=⟨_,rfl⟩;rw [hD2] at HF ⊢;clear hD2;generalize cuX L o=x at *;obtain⟨oK,oP,oT,oM,oO,oN,oD⟩:=o;try dsimp only at *
       have k0:=(neN (a:=oK) (b:=1) (by first | exact hk1 | omega):((oK:Int)==1)=false);have k1:=(neN (a:=oK) (b:=2) (by first | exact hk2 | omega):((oK:Int)==2)=false);have k2:=(neN (a:=oK) (b:=3) (by first | exact hk3 | omega):((oK:Int)==3)=false);have k3:=(neN (a:=oK) (b:=4) (by first | exact hk4 | omega):((oK:Int)==4)=false);have k4:=(neN (a:=oK) (b:=6) (by first | exact hk6 | omega):((oK:Int)==6)=false);have k5:=(eqN (a:=oK) (b:=7) (by first | exact hk7 | omega):((oK:Int)==7)=true);clear h ho hk1 hk2 hk3 hk4 hk6 hk7;have HN:=hid (two_new w #[.slice A n c] #[.int .u8 oK,.string oP,.string oT,.int .u16 oM,.int .u32 oO,.int .u32 oN,.string oD] 84 31)
       go_enter Tryz.func35,Tryz.ntmps35
       go_wp2_with fail
       try generalize ((w.alloc (.cells #[.slice A n c] 84)).alloc (.cells #[.int .u8 oK,.string oP,.string oT,.int .u16 oM,.int .u32 oO,.int .u32 oN,.string oD] 31))=w0 at *
       have Rv:=hid HN.out.1;have Ro:=hid HN.out.2.1;have B:=hid HN.out.2.2.1;clear HN;have cv0:=cl1 Rv.out;obtain⟨co0,co1,co2,co3,co4,co5,co6⟩:=cl7 Ro.out;refine (HF.out _ B.out).mono ?_;rintro e w1 ⟨v,rfl,hm⟩;have hb:=hm.2;have HM:=hid (hm.since B.out);clear cv0 co0 co1 co2 co3 co4 co5 co6;replace Rv:=gg Rv hb;replace Ro:=gg Ro hb;replace B:=gb B hb;clear hm;have cv0:=cl1 Rv.out;obtain⟨co0,co1,co2,co3,co4,co5,co6⟩:=cl7 Ro.out;clear hb
       go_wp2
       go_ret2
       exact⟨v,rfl,HM.out⟩
      ·by_cases hk8:o.K=8
       ·
        have e1:chX L o=rnX L o:=by unfold chX;rw [if_neg hk1,if_neg hk2,if_neg hk3,if_neg hk4,if_neg hk6,if_neg hk7,if_pos hk8]
        have e2:chC L o=rnC L o:=by unfold chC;rw [if_neg hk1,if_neg hk2,if_neg hk3,if_neg hk4,if_neg hk6,if_neg hk7,if_pos hk8]
        rw [e1,e2];have HF:=hid (fun (w1:World) (hb:Below w.heap.size w w1)=>rename_any (h.go hb) o ho);clear e1 e2;unfold CPost at HF ⊢;obtain⟨D2,hD2⟩:∃ D2,(if rnX L o=0 then rnC L o else [])=D2:=⟨_,rfl⟩;rw [hD2] at HF ⊢;clear hD2;generalize rnX L o=x at *;obtain⟨oK,oP,oT,oM,oO,oN,oD⟩:=o;try dsimp only at *
        have k0:=(neN (a:=oK) (b:=1) (by first | exact hk1 | omega):((oK:Int)==1)=false);have k1:=(neN (a:=oK) (b:=2) (by first | exact hk2 | omega):((oK:Int)==2)=false);have k2:=(neN (a:=oK) (b:=3) (by first | exact hk3 | omega):((oK:Int)==3)=false);have k3:=(neN (a:=oK) (b:=4) (by first | exact hk4 | omega):((oK:Int)==4)=false);have k4:=(neN (a:=oK) (b:=6) (by first | exact hk6 | omega):((oK:Int)==6)=false);have k5:=(neN (a:=oK) (b:=7) (by first | exact hk7 | omega):((oK:Int)==7)=false);have k6:=(eqN (a:=oK) (b:=8) (by first | exact hk8 | omega):((oK:Int)==8)=true);clear h ho hk1 hk2 hk3 hk4 hk6 hk7 hk8;have HN:=hid (two_new w #[.slice A n c] #[.int .u8 oK,.string oP,.string oT,.int .u16 oM,.int .u32 oO,.int .u32 oN,.string oD] 84 31)
        go_enter Tryz.func35,Tryz.ntmps35
        go_wp2_with fail
        try generalize ((w.alloc (.cells #[.slice A n c] 84)).alloc (.cells #[.int .u8 oK,.string oP,.string oT,.int .u16 oM,.int .u32 oO,.int .u32 oN,.string oD] 31))=w0 at *
        have Rv:=hid HN.out.1;have Ro:=hid HN.out.2.1;have B:=hid HN.out.2.2.1;clear HN;have cv0:=cl1 Rv.out;obtain⟨co0,co1,co2,co3,co4,co5,co6⟩:=cl7 Ro.out;refine (HF.out _ B.out).mono ?_;rintro e w1 ⟨v,rfl,hm⟩;have hb:=hm.2;have HM:=hid (hm.since B.out);clear cv0 co0 co1 co2 co3 co4 co5 co6;replace Rv:=gg Rv hb;replace Ro:=gg Ro hb;replace B:=gb B hb;clear hm;have cv0:=cl1 Rv.out;obtain⟨co0,co1,co2,co3,co4,co5,co6⟩:=cl7 Ro.out;clear hb
        go_wp2
        go_ret2
        exact⟨v,rfl,HM.out⟩
       ·by_cases hk9:o.K=9
        ·
         have e1:chX L o=ulX L o:=by unfold chX;rw [if_neg hk1,if_neg hk2,if_neg hk3,if_neg hk4,if_neg hk6,if_neg hk7,if_neg hk8,if_pos hk9]
         have e2:chC L o=letGo L (pl L o.P):=by unfold chC;rw [if_neg hk1,if_neg hk2,if_neg hk3,if_neg hk4,if_neg hk6,if_neg hk7,if_neg hk8,if_pos hk9]
         rw [e1,e2];have HF:=hid (fun (w1:World) (hb:Below w.heap.size w w1)=>unlink_any (h.go hb) o ho);clear e1 e2;unfold CPost at HF ⊢;obtain⟨D2,hD2⟩:∃ D2,(if ulX L o=0 then letGo L (pl L o.P) else [])=D2:=⟨_,rfl⟩;rw [hD2] at HF ⊢;clear hD2;generalize ulX L o=x at *;obtain⟨oK,oP,oT,oM,oO,oN,oD⟩:=o;try dsimp only at *
         have k0:=(neN (a:=oK) (b:=1) (by first | exact hk1 | omega):((oK:Int)==1)=false);have k1:=(neN (a:=oK) (b:=2) (by first | exact hk2 | omega):((oK:Int)==2)=false);have k2:=(neN (a:=oK) (b:=3) (by first | exact hk3 | omega):((oK:Int)==3)=false);have k3:=(neN (a:=oK) (b:=4) (by first | exact hk4 | omega):((oK:Int)==4)=false);have k4:=(neN (a:=oK) (b:=6) (by first | exact hk6 | omega):((oK:Int)==6)=false);have k5:=(neN (a:=oK) (b:=7) (by first | exact hk7 | omega):((oK:Int)==7)=false);have k6:=(neN (a:=oK) (b:=8) (by first | exact hk8 | omega):((oK:Int)==8)=false);have k7:=(eqN (a:=oK) (b:=9) (by first | exact hk9 | omega):((oK:Int)==9)=true);clear h ho hk1 hk2 hk3 hk4 hk6 hk7 hk8 hk9;have HN:=hid (two_new w #[.slice A n c] #[.int .u8 oK,.string oP,.string oT,.int .u16 oM,.int .u32 oO,.int .u32 oN,.string oD] 84 31)
         go_enter Tryz.func35,Tryz.ntmps35
         go_wp2_with fail
         try generalize ((w.alloc (.cells #[.slice A n c] 84)).alloc (.cells #[.int .u8 oK,.string oP,.string oT,.int .u16 oM,.int .u32 oO,.int .u32 oN,.string oD] 31))=w0 at *
         have Rv:=hid HN.out.1;have Ro:=hid HN.out.2.1;have B:=hid HN.out.2.2.1;clear HN;have cv0:=cl1 Rv.out;obtain⟨co0,co1,co2,co3,co4,co5,co6⟩:=cl7 Ro.out;refine (HF.out _ B.out).mono ?_;rintro e w1 ⟨v,rfl,hm⟩;have hb:=hm.2;have HM:=hid (hm.since B.out);clear cv0 co0 co1 co2 co3 co4 co5 co6;replace Rv:=gg Rv hb;replace Ro:=gg Ro hb;replace B:=gb B hb;clear hm;have cv0:=cl1 Rv.out;obtain⟨co0,co1,co2,co3,co4,co5,co6⟩:=cl7 Ro.out;clear hb
         go_wp2
         go_ret2
         exact⟨v,rfl,HM.out⟩
        ·by_cases hk10:o.K=10
         ·
          have e1:chX L o=rmX L o:=by unfold chX;rw [if_neg hk1,if_neg hk2,if_neg hk3,if_neg hk4,if_neg hk6,if_neg hk7,if_neg hk8,if_neg hk9,if_pos hk10]
          have e2:chC L o=letGo L (pl L o.P):=by unfold chC;rw [if_neg hk1,if_neg hk2,if_neg hk3,if_neg hk4,if_neg hk6,if_neg hk7,if_neg hk8,if_neg hk9,if_pos hk10]
          rw [e1,e2];have HF:=hid (fun (w1:World) (hb:Below w.heap.size w w1)=>rmdir_any (h.go hb) o ho);clear e1 e2;unfold CPost at HF ⊢;obtain⟨D2,hD2⟩:∃ D2,(if rmX L o=0 then letGo L (pl L o.P) else [])=D2:=⟨_,rfl⟩;rw [hD2] at HF ⊢;clear hD2;generalize rmX L o=x at *;obtain⟨oK,oP,oT,oM,oO,oN,oD⟩:=o;try dsimp only at *
          have k0:=(neN (a:=oK) (b:=1) (by first | exact hk1 | omega):((oK:Int)==1)=false);have k1:=(neN (a:=oK) (b:=2) (by first | exact hk2 | omega):((oK:Int)==2)=false);have k2:=(neN (a:=oK) (b:=3) (by first | exact hk3 | omega):((oK:Int)==3)=false);have k3:=(neN (a:=oK) (b:=4) (by first | exact hk4 | omega):((oK:Int)==4)=false);have k4:=(neN (a:=oK) (b:=6) (by first | exact hk6 | omega):((oK:Int)==6)=false);have k5:=(neN (a:=oK) (b:=7) (by first | exact hk7 | omega):((oK:Int)==7)=false);have k6:=(neN (a:=oK) (b:=8) (by first | exact hk8 | omega):((oK:Int)==8)=false);have k7:=(neN (a:=oK) (b:=9) (by first | exact hk9 | omega):((oK:Int)==9)=false);have k8:=(eqN (a:=oK) (b:=10) (by first | exact hk10 | omega):((oK:Int)==10)=true);clear h ho hk1 hk2 hk3 hk4 hk6 hk7 hk8 hk9 hk10;have HN:=hid (two_new w #[.slice A n c] #[.int .u8 oK,.string oP,.string oT,.int .u16 oM,.int .u32 oO,.int .u32 oN,.string oD] 84 31)
          go_enter Tryz.func35,Tryz.ntmps35
          go_wp2_with fail
          try generalize ((w.alloc (.cells #[.slice A n c] 84)).alloc (.cells #[.int .u8 oK,.string oP,.string oT,.int .u16 oM,.int .u32 oO,.int .u32 oN,.string oD] 31))=w0 at *
          have Rv:=hid HN.out.1;have Ro:=hid HN.out.2.1;have B:=hid HN.out.2.2.1;clear HN;have cv0:=cl1 Rv.out;obtain⟨co0,co1,co2,co3,co4,co5,co6⟩:=cl7 Ro.out;refine (HF.out _ B.out).mono ?_;rintro e w1 ⟨v,rfl,hm⟩;have hb:=hm.2;have HM:=hid (hm.since B.out);clear cv0 co0 co1 co2 co3 co4 co5 co6;replace Rv:=gg Rv hb;replace Ro:=gg Ro hb;replace B:=gb B hb;clear hm;have cv0:=cl1 Rv.out;obtain⟨co0,co1,co2,co3,co4,co5,co6⟩:=cl7 Ro.out;clear hb
          go_wp2
          go_ret2
          exact⟨v,rfl,HM.out⟩
         ·by_cases hk13:o.K=13
          ·
           have e1:chX L o=ldX L o.P true:=by unfold chX;rw [if_neg hk1,if_neg hk2,if_neg hk3,if_neg hk4,if_neg hk6,if_neg hk7,if_neg hk8,if_neg hk9,if_neg hk10,if_pos hk13]
           have e2:chC L o=moC L o:=by unfold chC;rw [if_neg hk1,if_neg hk2,if_neg hk3,if_neg hk4,if_neg hk6,if_neg hk7,if_neg hk8,if_neg hk9,if_neg hk10,if_pos hk13]
           rw [e1,e2];have HF:=hid (fun (w1:World) (hb:Below w.heap.size w w1)=>mode_any (h.go hb) o ho);clear e1 e2;unfold CPost at HF ⊢;obtain⟨D2,hD2⟩:∃ D2,(if ldX L o.P true=0 then moC L o else [])=D2:=⟨_,rfl⟩;rw [hD2] at HF ⊢;clear hD2;generalize ldX L o.P true=x at *;obtain⟨oK,oP,oT,oM,oO,oN,oD⟩:=o;try dsimp only at *
           have k0:=(neN (a:=oK) (b:=1) (by first | exact hk1 | omega):((oK:Int)==1)=false);have k1:=(neN (a:=oK) (b:=2) (by first | exact hk2 | omega):((oK:Int)==2)=false);have k2:=(neN (a:=oK) (b:=3) (by first | exact hk3 | omega):((oK:Int)==3)=false);have k3:=(neN (a:=oK) (b:=4) (by first | exact hk4 | omega):((oK:Int)==4)=false);have k4:=(neN (a:=oK) (b:=6) (by first | exact hk6 | omega):((oK:Int)==6)=false);have k5:=(neN (a:=oK) (b:=7) (by first | exact hk7 | omega):((oK:Int)==7)=false);have k6:=(neN (a:=oK) (b:=8) (by first | exact hk8 | omega):((oK:Int)==8)=false);have k7:=(neN (a:=oK) (b:=9) (by first | exact hk9 | omega):((oK:Int)==9)=false);have k8:=(neN (a:=oK) (b:=10) (by first | exact hk10 | omega):((oK:Int)==10)=false);have k9:=(eqN (a:=oK) (b:=13) (by first | exact hk13 | omega):((oK:Int)==13)=true);clear h ho hk1 hk2 hk3 hk4 hk6 hk7 hk8 hk9 hk10 hk13;have HN:=hid (two_new w #[.slice A n c] #[.int .u8 oK,.string oP,.string oT,.int .u16 oM,.int .u32 oO,.int .u32 oN,.string oD] 84 31)
           go_enter Tryz.func35,Tryz.ntmps35
           go_wp2_with fail
           try generalize ((w.alloc (.cells #[.slice A n c] 84)).alloc (.cells #[.int .u8 oK,.string oP,.string oT,.int .u16 oM,.int .u32 oO,.int .u32 oN,.string oD] 31))=w0 at *
           have Rv:=hid HN.out.1;have Ro:=hid HN.out.2.1;have B:=hid HN.out.2.2.1;clear HN;have cv0:=cl1 Rv.out;obtain⟨co0,co1,co2,co3,co4,co5,co6⟩:=cl7 Ro.out;refine (HF.out _ B.out).mono ?_;rintro e w1 ⟨v,rfl,hm⟩;have hb:=hm.2;have HM:=hid (hm.since B.out);clear cv0 co0 co1 co2 co3 co4 co5 co6;replace Rv:=gg Rv hb;replace Ro:=gg Ro hb;replace B:=gb B hb;clear hm;have cv0:=cl1 Rv.out;obtain⟨co0,co1,co2,co3,co4,co5,co6⟩:=cl7 Ro.out;clear hb
           go_wp2
           go_ret2
           exact⟨v,rfl,HM.out⟩
          ·by_cases hk14:o.K=14
           ·
            have e1:chX L o=saX L o:=by unfold chX;rw [if_neg hk1,if_neg hk2,if_neg hk3,if_neg hk4,if_neg hk6,if_neg hk7,if_neg hk8,if_neg hk9,if_neg hk10,if_neg hk13,if_pos hk14]
            have e2:chC L o=[(⟨atK L o,true,o.D⟩:Ch)]:=by unfold chC;rw [if_neg hk1,if_neg hk2,if_neg hk3,if_neg hk4,if_neg hk6,if_neg hk7,if_neg hk8,if_neg hk9,if_neg hk10,if_neg hk13,if_pos hk14]
            rw [e1,e2];have HF:=hid (fun (w1:World) (hb:Below w.heap.size w w1)=>setAttr_any (h.go hb) o ho);clear e1 e2;unfold CPost at HF ⊢;obtain⟨D2,hD2⟩:∃ D2,(if saX L o=0 then [(⟨atK L o,true,o.D⟩:Ch)] else [])=D2:=⟨_,rfl⟩;rw [hD2] at HF ⊢;clear hD2;generalize saX L o=x at *;obtain⟨oK,oP,oT,oM,oO,oN,oD⟩:=o;try dsimp only at *
            have k0:=(neN (a:=oK) (b:=1) (by first | exact hk1 | omega):((oK:Int)==1)=false);have k1:=(neN (a:=oK) (b:=2) (by first | exact hk2 | omega):((oK:Int)==2)=false);have k2:=(neN (a:=oK) (b:=3) (by first | exact hk3 | omega):((oK:Int)==3)=false);have k3:=(neN (a:=oK) (b:=4) (by first | exact hk4 | omega):((oK:Int)==4)=false);have k4:=(neN (a:=oK) (b:=6) (by first | exact hk6 | omega):((oK:Int)==6)=false);have k5:=(neN (a:=oK) (b:=7) (by first | exact hk7 | omega):((oK:Int)==7)=false);have k6:=(neN (a:=oK) (b:=8) (by first | exact hk8 | omega):((oK:Int)==8)=false);have k7:=(neN (a:=oK) (b:=9) (by first | exact hk9 | omega):((oK:Int)==9)=false);have k8:=(neN (a:=oK) (b:=10) (by first | exact hk10 | omega):((oK:Int)==10)=false);have k9:=(neN (a:=oK) (b:=13) (by first | exact hk13 | omega):((oK:Int)==13)=false);have k10:=(eqN (a:=oK) (b:=14) (by first | exact hk14 | omega):((oK:Int)==14)=true)
            clear h ho hk1 hk2 hk3 hk4 hk6 hk7 hk8 hk9 hk10 hk13 hk14;have HN:=hid (two_new w #[.slice A n c] #[.int .u8 oK,.string oP,.string oT,.int .u16 oM,.int .u32 oO,.int .u32 oN,.string oD] 84 31)
            go_enter Tryz.func35,Tryz.ntmps35
            go_wp2_with fail
            try generalize ((w.alloc (.cells #[.slice A n c] 84)).alloc (.cells #[.int .u8 oK,.string oP,.string oT,.int .u16 oM,.int .u32 oO,.int .u32 oN,.string oD] 31))=w0 at *
            have Rv:=hid HN.out.1;have Ro:=hid HN.out.2.1;have B:=hid HN.out.2.2.1;clear HN;have cv0:=cl1 Rv.out;obtain⟨co0,co1,co2,co3,co4,co5,co6⟩:=cl7 Ro.out;refine (HF.out _ B.out).mono ?_;rintro e w1 ⟨v,rfl,hm⟩;have hb:=hm.2;have HM:=hid (hm.since B.out);clear cv0 co0 co1 co2 co3 co4 co5 co6;replace Rv:=gg Rv hb;replace Ro:=gg Ro hb;replace B:=gb B hb;clear hm;have cv0:=cl1 Rv.out;obtain⟨co0,co1,co2,co3,co4,co5,co6⟩:=cl7 Ro.out;clear hb
            go_wp2
            go_ret2
            exact⟨v,rfl,HM.out⟩
           ·by_cases hk16:o.K=16
            ·
             have e1:chX L o=daX L o:=by unfold chX;rw [if_neg hk1,if_neg hk2,if_neg hk3,if_neg hk4,if_neg hk6,if_neg hk7,if_neg hk8,if_neg hk9,if_neg hk10,if_neg hk13,if_neg hk14,if_pos hk16]
             have e2:chC L o=[(⟨atK L o,false,ByteArray.empty⟩:Ch)]:=by unfold chC;rw [if_neg hk1,if_neg hk2,if_neg hk3,if_neg hk4,if_neg hk6,if_neg hk7,if_neg hk8,if_neg hk9,if_neg hk10,if_neg hk13,if_neg hk14,if_pos hk16]
             rw [e1,e2];have HF:=hid (fun (w1:World) (hb:Below w.heap.size w w1)=>dropAttr_any (h.go hb) o ho);clear e1 e2;unfold CPost at HF ⊢;obtain⟨D2,hD2⟩:∃ D2,(if daX L o=0 then [(⟨atK L o,false,ByteArray.empty⟩:Ch)] else [])=D2:=⟨_,rfl⟩;rw [hD2] at HF ⊢;clear hD2;generalize daX L o=x at *;obtain⟨oK,oP,oT,oM,oO,oN,oD⟩:=o;try dsimp only at *
             have k0:=(neN (a:=oK) (b:=1) (by first | exact hk1 | omega):((oK:Int)==1)=false);have k1:=(neN (a:=oK) (b:=2) (by first | exact hk2 | omega):((oK:Int)==2)=false);have k2:=(neN (a:=oK) (b:=3) (by first | exact hk3 | omega):((oK:Int)==3)=false);have k3:=(neN (a:=oK) (b:=4) (by first | exact hk4 | omega):((oK:Int)==4)=false);have k4:=(neN (a:=oK) (b:=6) (by first | exact hk6 | omega):((oK:Int)==6)=false);have k5:=(neN (a:=oK) (b:=7) (by first | exact hk7 | omega):((oK:Int)==7)=false);have k6:=(neN (a:=oK) (b:=8) (by first | exact hk8 | omega):((oK:Int)==8)=false);have k7:=(neN (a:=oK) (b:=9) (by first | exact hk9 | omega):((oK:Int)==9)=false);have k8:=(neN (a:=oK) (b:=10) (by first | exact hk10 | omega):((oK:Int)==10)=false);have k9:=(neN (a:=oK) (b:=13) (by first | exact hk13 | omega):((oK:Int)==13)=false);have k10:=(neN (a:=oK) (b:=14) (by first | exact hk14 | omega):((oK:Int)==14)=false)
             have k11:=(eqN (a:=oK) (b:=16) (by first | exact hk16 | omega):((oK:Int)==16)=true);clear h ho hk1 hk2 hk3 hk4 hk6 hk7 hk8 hk9 hk10 hk13 hk14 hk16;have HN:=hid (two_new w #[.slice A n c] #[.int .u8 oK,.string oP,.string oT,.int .u16 oM,.int .u32 oO,.int .u32 oN,.string oD] 84 31)
             go_enter Tryz.func35,Tryz.ntmps35
             go_wp2_with fail
             try generalize ((w.alloc (.cells #[.slice A n c] 84)).alloc (.cells #[.int .u8 oK,.string oP,.string oT,.int .u16 oM,.int .u32 oO,.int .u32 oN,.string oD] 31))=w0 at *
             have Rv:=hid HN.out.1;have Ro:=hid HN.out.2.1;have B:=hid HN.out.2.2.1;clear HN;have cv0:=cl1 Rv.out;obtain⟨co0,co1,co2,co3,co4,co5,co6⟩:=cl7 Ro.out;refine (HF.out _ B.out).mono ?_;rintro e w1 ⟨v,rfl,hm⟩;have hb:=hm.2;have HM:=hid (hm.since B.out);clear cv0 co0 co1 co2 co3 co4 co5 co6;replace Rv:=gg Rv hb;replace Ro:=gg Ro hb;replace B:=gb B hb;clear hm;have cv0:=cl1 Rv.out;obtain⟨co0,co1,co2,co3,co4,co5,co6⟩:=cl7 Ro.out;clear hb
             go_wp2
             go_ret2
             exact⟨v,rfl,HM.out⟩
            ·
             have e1:chX L o=4:=by unfold chX;rw [if_neg hk1,if_neg hk2,if_neg hk3,if_neg hk4,if_neg hk6,if_neg hk7,if_neg hk8,if_neg hk9,if_neg hk10,if_neg hk13,if_neg hk14,if_neg hk16]
             have e2:chC L o=[]:=by unfold chC;rw [if_neg hk1,if_neg hk2,if_neg hk3,if_neg hk4,if_neg hk6,if_neg hk7,if_neg hk8,if_neg hk9,if_neg hk10,if_neg hk13,if_neg hk14,if_neg hk16]
             rw [e1,e2];clear e1 e2;obtain⟨oK,oP,oT,oM,oO,oN,oD⟩:=o;try dsimp only at *
             have k0:=(neN (a:=oK) (b:=1) (by first | exact hk1 | omega):((oK:Int)==1)=false);have k1:=(neN (a:=oK) (b:=2) (by first | exact hk2 | omega):((oK:Int)==2)=false);have k2:=(neN (a:=oK) (b:=3) (by first | exact hk3 | omega):((oK:Int)==3)=false);have k3:=(neN (a:=oK) (b:=4) (by first | exact hk4 | omega):((oK:Int)==4)=false);have k4:=(neN (a:=oK) (b:=6) (by first | exact hk6 | omega):((oK:Int)==6)=false);have k5:=(neN (a:=oK) (b:=7) (by first | exact hk7 | omega):((oK:Int)==7)=false);have k6:=(neN (a:=oK) (b:=8) (by first | exact hk8 | omega):((oK:Int)==8)=false);have k7:=(neN (a:=oK) (b:=9) (by first | exact hk9 | omega):((oK:Int)==9)=false);have k8:=(neN (a:=oK) (b:=10) (by first | exact hk10 | omega):((oK:Int)==10)=false);have k9:=(neN (a:=oK) (b:=13) (by first | exact hk13 | omega):((oK:Int)==13)=false);have k10:=(neN (a:=oK) (b:=14) (by first | exact hk14 | omega):((oK:Int)==14)=false)
             have k11:=(neN (a:=oK) (b:=16) (by first | exact hk16 | omega):((oK:Int)==16)=false);clear h ho hk1 hk2 hk3 hk4 hk6 hk7 hk8 hk9 hk10 hk13 hk14 hk16;have HN:=hid (two_new w #[.slice A n c] #[.int .u8 oK,.string oP,.string oT,.int .u16 oM,.int .u32 oO,.int .u32 oN,.string oD] 84 31)
             go_enter Tryz.func35,Tryz.ntmps35
             go_wp2
             have B:=hid HN.out.2.2.1
             go_ret2
             exact CPost.err (by decide) _ B.out
variable {w w' wr:World}{A:Option Addr}{n c:Nat}{L:List Itm}
def DPost (w:World) (x:Int) (C:List Ch) (d:Td) (e:Ending) (w':World):Prop:=∃ v ev,e=.returned (.tuple #[v,vTd (if x=0 then d else zTd) ev,.int .i64 x])∧MkC w w' v (if x=0 then C else [])∧MkE w w' ev (if x=0 then d.e else [])
theorem results_row3 {P:Program}{fn:Func}{p u u2:Tmp}{ty:TypeId}(h:fn.results=#[.tmp u,.cell p ty,.tmp u2]) (tmps:Array Value) (w:World) (g:Nat) (t:TypeId) (cs:Array Value) (fr:Nat×Nat) (d:TypeDesc) (a b:Value)
  (ha:tmps.getD u undef=a) (hp:tmps.getD p undef=.pointer (some ⟨g,0,none⟩)) (hb:tmps.getD u2 undef=b) (hg:w.heap[g]?=some (.cells cs t fr))
  (hu:P.underlying ty=some d) (hd:(match d with | .struct _ | .array _ _=>true | _=>false)=true) (hi:(P.info? ty).map (·.size)=some cs.size) :
  (results fn tmps).run P w=.ok (.tuple #[a,.agg cs,b]) w:=by
 have hp':tmps[p]?.getD undef=.pointer (some ⟨g,0,none⟩):=by simpa using hp
 have ha':tmps[u]?.getD undef=a:=by simpa using ha
 have hb':tmps[u2]?.getD undef=b:=by simpa using hb
 simp [results,h,hp',ha',hb',asAddr,run_loadVar_row w g t ty cs fr d hg hu hd hi,Result.andThen]
set_option maxHeartbeats 2000000 in
theorem do_any (h:VA w A n c L) (o:Op) (ho:o.lim):Calls Tryz.prog 23 #[vV A n c,vOp o] w (DPost w (if tells o then tdX L o else chX L o) (if tells o then [] else chC L o) (if tells o then tdT L o else zTd)):=by
 by_cases hk5:o.K=5
 ·
  have HF:=hid (fun (w1:World) (hb:Below w.heap.size w w1)=>told_any (h.go hb) o ho);have ht:tells o:=by unfold tells;omega
  rw [if_pos ht,if_pos ht,if_pos ht];unfold TPost at HF;unfold DPost;obtain⟨d2,hd2⟩:∃ d2,(if tdX L o=0 then tdT L o else zTd)=d2:=⟨_,rfl⟩;obtain⟨D2,hD2⟩:∃ D2,(if tdX L o=0 then (tdT L o).e else [])=D2:=⟨_,rfl⟩;rw [hd2,hD2] at HF ⊢;have e1:(if tdX L o=0 then ([]:List Ch) else [])=[]:=by split<;>rfl
  rw [e1];generalize tdX L o=x at *;obtain⟨ds,di,⟨nK,nM,nL,nS,nT⟩,de⟩:=d2;obtain⟨oK,oP,oT,oM,oO,oN,oD⟩:=o;try dsimp only at *
  have k0:=(eqN (a:=oK) (b:=5) (by first | exact hk5 | omega):((oK:Int)==5)=true);clear h ho hd2 hD2 e1 ht hk5;have HN:=hid (three_new w #[.slice A n c] #[.int .u8 oK,.string oP,.string oT,.int .u16 oM,.int .u32 oO,.int .u32 oN,.string oD] #[.string ⟨#[]⟩,.int .u32 0,.int .u8 0,.int .u16 0,.int .u32 0,.int .u32 0,.string ⟨#[]⟩,.slice none 0 0] 84 31 38)
  go_enter Tryz.func23,Tryz.ntmps23
  go_wp2_with fail
  try generalize (((w.alloc (.cells #[.slice A n c] 84)).alloc (.cells #[.int .u8 oK,.string oP,.string oT,.int .u16 oM,.int .u32 oO,.int .u32 oN,.string oD] 31)).alloc (.cells #[.string ⟨#[]⟩,.int .u32 0,.int .u8 0,.int .u16 0,.int .u32 0,.int .u32 0,.string ⟨#[]⟩,.slice none 0 0] 38))=w0 at *
  have Rv:=hid HN.out.1;have Ro:=hid HN.out.2.1;have Rz:=hid HN.out.2.2.1;have B:=hid HN.out.2.2.2.1;clear HN;have cv0:=cl1 Rv.out;obtain⟨co0,co1,co2,co3,co4,co5,co6⟩:=cl7 Ro.out;obtain⟨cz0,cz1,cz2,cz3,cz4,cz5,cz6,cz7⟩:=cl8 Rz.out;refine (HF.out _ B.out).mono ?_;rintro e w1 ⟨ev,rfl,hm⟩;have hb:=hm.2;have HM:=hid hm;have BK:=hid B.out;have GK:=hid Rz.out.lt;obtain⟨A9,c9,hv9,_⟩:=hm.ls Di.encEn_len;generalize D2.length=m9 at hv9;subst hv9;clear cv0 co0 co1 co2 co3 co4 co5 co6 cz0 cz1 cz2 cz3 cz4 cz5 cz6 cz7;replace Rv:=gg Rv hb;replace Ro:=gg Ro hb;replace Rz:=gg Rz hb;replace B:=gb B hb;clear hm;have cv0:=cl1 Rv.out;obtain⟨co0,co1,co2,co3,co4,co5,co6⟩:=cl7 Ro.out;obtain⟨cz0,cz1,cz2,cz3,cz4,cz5,cz6,cz7⟩:=cl8 Rz.out;clear hb
  go_wp2_with (first
   | (refine new_row rfl 38 (.tmp 7) (.tmp 22) rfl rfl #[.string ds,.int .u32 di,.int .u8 nK,.int .u16 nM,.int .u32 nL,.int .u32 nS,.string nT,.slice A9 m9 c9] rfl rfl (by kernel_rfl) rfl (row8 _ _ _ _ _ _ _ _ _ _) ?_;intro w2 M;have Dd_z:=hid Rz.out.lt;clear cv0 co0 co1 co2 co3 co4 co5 co6 cz0 cz1 cz2 cz3 cz4 cz5 cz6 cz7;replace Rv:=gg Rv M.2.1;replace Ro:=gg Ro M.2.1;replace Rz:=gg Rz M.2.1;replace HM:=hid (HM.out.go M.2.1);replace B:=gb B M.2.1;have Rd:=hid M.1;have cv0:=cl1 Rv.out;obtain⟨co0,co1,co2,co3,co4,co5,co6⟩:=cl7 Ro.out;obtain⟨cz0,cz1,cz2,cz3,cz4,cz5,cz6,cz7⟩:=cl8 Rz.out;obtain⟨cd0,cd1,cd2,cd3,cd4,cd5,cd6,cd7⟩:=cl8 Rd.out;clear M))
  refine wp_region_X (Till 3 (fun (w':World)=>Below w2.heap.size w2 w')) (by kernel_rfl) ?_;have hd:Below w2.heap.size w2 w2.drew:=(Below.refl _ _).drew;generalize hW1:w2.drew=w3 at *;have hS:=hd;clear hW1;have Qv:=hid (Rv.out);have Qo:=hid (Ro.out);have Qz:=hid (Rz.out);have Qd:=hid (Rd.out);clear cv0 co0 co1 co2 co3 co4 co5 co6 cz0 cz1 cz2 cz3 cz4 cz5 cz6 cz7 cd0 cd1 cd2 cd3 cd4 cd5 cd6 cd7;replace Rv:=gg Rv hd;replace Ro:=gg Ro hd;replace Rz:=gg Rz hd;replace Rd:=gg Rd hd;replace HM:=hid (HM.out.go hd);replace B:=gb B hd;have cv0:=cl1 Rv.out;obtain⟨co0,co1,co2,co3,co4,co5,co6⟩:=cl7 Ro.out;obtain⟨cz0,cz1,cz2,cz3,cz4,cz5,cz6,cz7⟩:=cl8 Rz.out;obtain⟨cd0,cd1,cd2,cd3,cd4,cd5,cd6,cd7⟩:=cl8 Rd.out;clear hd;refine take_X 0 24 (.agg #[.string ds,.int .u32 di,.int .u8 nK,.int .u16 nM,.int .u32 nL,.int .u32 nS,.string nT,.slice A9 m9 c9]) rfl (by rfl) (by kernel_rfl) (by kernel_rfl) (by kernel_rfl) (by kernel_rfl) (fun _ _ _ h=>h) (Till.mono (by decide)) (Or.inl ⟨by rfl,fun w' hB=>by have hSw:=Till.bef hB (by kernel_rfl);exact load_all 38 (.tmp 7) rfl (w1.heap.size) rfl (Qd.out.go hSw) Tryz.underlying38 rfl (by kernel_rfl)⟩) (fun _=>hS) ?_
  simp only [Gw2ighta,Gw2ightb,Gw2ightc];refine take_X 1 25 (.int .i64 x) rfl (by rfl) (by kernel_rfl) (by kernel_rfl) (by kernel_rfl) (by kernel_rfl) (fun _ _ _ h=>h) (Till.mono (by decide)) (Or.inl ⟨by rfl,fun w' hB=>by go_simp⟩) (fun _=>hS) ?_;simp only [Gw2ighta,Gw2ightb,Gw2ightc];refine take_X 2 4 (.slice none 0 0) rfl (by rfl) (by kernel_rfl) (by kernel_rfl) (by kernel_rfl) (by kernel_rfl) (fun _ _ _ h=>h) (Till.mono (by decide)) (Or.inl ⟨by rfl,fun w' hB=>by go_simp⟩) (fun _=>hS) ?_;simp only [Gw2ighta,Gw2ightb,Gw2ightc];refine only_X 3 rfl (by kernel_rfl) (by rfl) (fun K hK=>?_);refine wp_store_row 38 (.tmp 5) (.tmp 24) rfl (w.heap.size+2) #[.string ds,.int .u32 di,.int .u8 nK,.int .u16 nM,.int .u32 nL,.int .u32 nS,.string nT,.slice A9 m9 c9] rfl rfl 38 #[.string ⟨#[]⟩,.int .u32 0,.int .u8 0,.int .u16 0,.int .u32 0,.int .u32 0,.string ⟨#[]⟩,.slice none 0 0] Rz.out (by kernel_rfl) rfl (row8 _ _ _ _ _ _ _ _ _ _) ?_
  clear cv0 co0 co1 co2 co3 co4 co5 co6 cz0 cz1 cz2 cz3 cz4 cz5 cz6 cz7 cd0 cd1 cd2 cd3 cd4 cd5 cd6 cd7;replace HM:=hid (mk_row (g:=w.heap.size+2) (cs:=#[.string ds,.int .u32 di,.int .u8 nK,.int .u16 nM,.int .u32 nL,.int .u32 nS,.string nT,.slice A9 m9 c9]) HM.out BK.out (by omega) GK.out);replace B:=hid (below_setRow B.out (g:=w.heap.size+2) (by omega) #[.string ds,.int .u32 di,.int .u8 nK,.int .u16 nM,.int .u32 nL,.int .u32 nS,.string nT,.slice A9 m9 c9]);replace Rv:=hid (Rv.out.keep (g':=w.heap.size+2) (old:=#[.string ds,.int .u32 di,.int .u8 nK,.int .u16 nM,.int .u32 nL,.int .u32 nS,.string nT,.slice A9 m9 c9]) (by omega));replace Ro:=hid (Ro.out.keep (g':=w.heap.size+2) (old:=#[.string ds,.int .u32 di,.int .u8 nK,.int .u16 nM,.int .u32 nL,.int .u32 nS,.string nT,.slice A9 m9 c9]) (by omega));replace Rd:=hid (Rd.out.keep (g':=w.heap.size+2) (old:=#[.string ds,.int .u32 di,.int .u8 nK,.int .u16 nM,.int .u32 nL,.int .u32 nS,.string nT,.slice A9 m9 c9]) (Nat.ne_of_gt Dd_z.out))
  replace Rz:=hid (Rz.out.set (cs:=#[.string ds,.int .u32 di,.int .u8 nK,.int .u16 nM,.int .u32 nL,.int .u32 nS,.string nT,.slice A9 m9 c9]));refine hK.out _ _ (fun h=>absurd h (by decide)) ?_;clear hK K;try simp only [Act.put,Gw2ighta,Gw2ightb,Gw2ightc]
  generalize w3.setRow (w.heap.size+2) #[.string ds,.int .u32 di,.int .u8 nK,.int .u16 nM,.int .u32 nL,.int .u32 nS,.string nT,.slice A9 m9 c9]=w4 at *;have cv0:=cl1 Rv.out;obtain⟨co0,co1,co2,co3,co4,co5,co6⟩:=cl7 Ro.out;obtain⟨cz0,cz1,cz2,cz3,cz4,cz5,cz6,cz7⟩:=cl8 Rz.out;obtain⟨cd0,cd1,cd2,cd3,cd4,cd5,cd6,cd7⟩:=cl8 Rd.out;refine take_X 4 6 (.int .i64 x) rfl (by rfl) (by kernel_rfl) (by kernel_rfl) (by kernel_rfl) (by kernel_rfl) (fun _ _ _ h=>h) (Till.mono (by decide)) (Or.inl ⟨by rfl,fun w' hB=>by go_simp⟩) (fun h=>absurd h (by decide)) ?_;simp only [Gw2ighta,Gw2ightb,Gw2ightc];refine done_X (by kernel_rfl) ?_ _;clear hS Qv Qo Qz Qd
  go_wp2
  refine bodyPost_ret (v:=.tuple #[.slice none 0 0,.agg #[.string ds,.int .u32 di,.int .u8 nK,.int .u16 nM,.int .u32 nL,.int .u32 nS,.string nT,.slice A9 m9 c9],.int .i64 x]) (results_row3 rfl _ _ (w.heap.size+2) 38 #[.string ds,.int .u32 di,.int .u8 nK,.int .u16 nM,.int .u32 nL,.int .u32 nS,.string nT,.slice A9 m9 c9] (0,0) _ _ _ rfl rfl rfl Rz.out Tryz.underlying38 rfl (by kernel_rfl)) rfl ?_;exact⟨.slice none 0 0,.slice A9 m9 c9,rfl,Mk.nil B.out,HM.out⟩
 ·by_cases hk11:o.K=11
  ·
   have HF:=hid (fun (w1:World) (hb:Below w.heap.size w w1)=>told_any (h.go hb) o ho);have ht:tells o:=by unfold tells;omega
   rw [if_pos ht,if_pos ht,if_pos ht];unfold TPost at HF;unfold DPost;obtain⟨d2,hd2⟩:∃ d2,(if tdX L o=0 then tdT L o else zTd)=d2:=⟨_,rfl⟩;obtain⟨D2,hD2⟩:∃ D2,(if tdX L o=0 then (tdT L o).e else [])=D2:=⟨_,rfl⟩;rw [hd2,hD2] at HF ⊢;have e1:(if tdX L o=0 then ([]:List Ch) else [])=[]:=by split<;>rfl
   rw [e1];generalize tdX L o=x at *;obtain⟨ds,di,⟨nK,nM,nL,nS,nT⟩,de⟩:=d2;obtain⟨oK,oP,oT,oM,oO,oN,oD⟩:=o;try dsimp only at *
   have k0:=(neN (a:=oK) (b:=5) (by first | exact hk5 | omega):((oK:Int)==5)=false);have k1:=(eqN (a:=oK) (b:=11) (by first | exact hk11 | omega):((oK:Int)==11)=true);clear h ho hd2 hD2 e1 ht hk5 hk11;have HN:=hid (three_new w #[.slice A n c] #[.int .u8 oK,.string oP,.string oT,.int .u16 oM,.int .u32 oO,.int .u32 oN,.string oD] #[.string ⟨#[]⟩,.int .u32 0,.int .u8 0,.int .u16 0,.int .u32 0,.int .u32 0,.string ⟨#[]⟩,.slice none 0 0] 84 31 38)
   go_enter Tryz.func23,Tryz.ntmps23
   go_wp2_with fail
   try generalize (((w.alloc (.cells #[.slice A n c] 84)).alloc (.cells #[.int .u8 oK,.string oP,.string oT,.int .u16 oM,.int .u32 oO,.int .u32 oN,.string oD] 31)).alloc (.cells #[.string ⟨#[]⟩,.int .u32 0,.int .u8 0,.int .u16 0,.int .u32 0,.int .u32 0,.string ⟨#[]⟩,.slice none 0 0] 38))=w0 at *
   have Rv:=hid HN.out.1;have Ro:=hid HN.out.2.1;have Rz:=hid HN.out.2.2.1;have B:=hid HN.out.2.2.2.1;clear HN;have cv0:=cl1 Rv.out;obtain⟨co0,co1,co2,co3,co4,co5,co6⟩:=cl7 Ro.out;obtain⟨cz0,cz1,cz2,cz3,cz4,cz5,cz6,cz7⟩:=cl8 Rz.out;refine (HF.out _ B.out).mono ?_;rintro e w1 ⟨ev,rfl,hm⟩;have hb:=hm.2;have HM:=hid hm;have BK:=hid B.out;have GK:=hid Rz.out.lt;obtain⟨A9,c9,hv9,_⟩:=hm.ls Di.encEn_len;generalize D2.length=m9 at hv9;subst hv9;clear cv0 co0 co1 co2 co3 co4 co5 co6 cz0 cz1 cz2 cz3 cz4 cz5 cz6 cz7;replace Rv:=gg Rv hb;replace Ro:=gg Ro hb;replace Rz:=gg Rz hb;replace B:=gb B hb;clear hm;have cv0:=cl1 Rv.out;obtain⟨co0,co1,co2,co3,co4,co5,co6⟩:=cl7 Ro.out;obtain⟨cz0,cz1,cz2,cz3,cz4,cz5,cz6,cz7⟩:=cl8 Rz.out;clear hb
   go_wp2_with (first
    | (refine new_row rfl 38 (.tmp 7) (.tmp 22) rfl rfl #[.string ds,.int .u32 di,.int .u8 nK,.int .u16 nM,.int .u32 nL,.int .u32 nS,.string nT,.slice A9 m9 c9] rfl rfl (by kernel_rfl) rfl (row8 _ _ _ _ _ _ _ _ _ _) ?_;intro w2 M;have Dd_z:=hid Rz.out.lt;clear cv0 co0 co1 co2 co3 co4 co5 co6 cz0 cz1 cz2 cz3 cz4 cz5 cz6 cz7;replace Rv:=gg Rv M.2.1;replace Ro:=gg Ro M.2.1;replace Rz:=gg Rz M.2.1;replace HM:=hid (HM.out.go M.2.1);replace B:=gb B M.2.1;have Rd:=hid M.1;have cv0:=cl1 Rv.out;obtain⟨co0,co1,co2,co3,co4,co5,co6⟩:=cl7 Ro.out;obtain⟨cz0,cz1,cz2,cz3,cz4,cz5,cz6,cz7⟩:=cl8 Rz.out;obtain⟨cd0,cd1,cd2,cd3,cd4,cd5,cd6,cd7⟩:=cl8 Rd.out;clear M))
   refine wp_region_X (Till 3 (fun (w':World)=>Below w2.heap.size w2 w')) (by kernel_rfl) ?_;have hd:Below w2.heap.size w2 w2.drew:=(Below.refl _ _).drew;generalize hW1:w2.drew=w3 at *;have hS:=hd;clear hW1;have Qv:=hid (Rv.out);have Qo:=hid (Ro.out);have Qz:=hid (Rz.out);have Qd:=hid (Rd.out);clear cv0 co0 co1 co2 co3 co4 co5 co6 cz0 cz1 cz2 cz3 cz4 cz5 cz6 cz7 cd0 cd1 cd2 cd3 cd4 cd5 cd6 cd7;replace Rv:=gg Rv hd;replace Ro:=gg Ro hd;replace Rz:=gg Rz hd;replace Rd:=gg Rd hd;replace HM:=hid (HM.out.go hd);replace B:=gb B hd;have cv0:=cl1 Rv.out;obtain⟨co0,co1,co2,co3,co4,co5,co6⟩:=cl7 Ro.out;obtain⟨cz0,cz1,cz2,cz3,cz4,cz5,cz6,cz7⟩:=cl8 Rz.out;obtain⟨cd0,cd1,cd2,cd3,cd4,cd5,cd6,cd7⟩:=cl8 Rd.out;clear hd;refine take_X 0 24 (.agg #[.string ds,.int .u32 di,.int .u8 nK,.int .u16 nM,.int .u32 nL,.int .u32 nS,.string nT,.slice A9 m9 c9]) rfl (by rfl) (by kernel_rfl) (by kernel_rfl) (by kernel_rfl) (by kernel_rfl) (fun _ _ _ h=>h) (Till.mono (by decide)) (Or.inl ⟨by rfl,fun w' hB=>by have hSw:=Till.bef hB (by kernel_rfl);exact load_all 38 (.tmp 7) rfl (w1.heap.size) rfl (Qd.out.go hSw) Tryz.underlying38 rfl (by kernel_rfl)⟩) (fun _=>hS) ?_
   simp only [Gw2ighta,Gw2ightb,Gw2ightc];refine take_X 1 25 (.int .i64 x) rfl (by rfl) (by kernel_rfl) (by kernel_rfl) (by kernel_rfl) (by kernel_rfl) (fun _ _ _ h=>h) (Till.mono (by decide)) (Or.inl ⟨by rfl,fun w' hB=>by go_simp⟩) (fun _=>hS) ?_;simp only [Gw2ighta,Gw2ightb,Gw2ightc];refine take_X 2 4 (.slice none 0 0) rfl (by rfl) (by kernel_rfl) (by kernel_rfl) (by kernel_rfl) (by kernel_rfl) (fun _ _ _ h=>h) (Till.mono (by decide)) (Or.inl ⟨by rfl,fun w' hB=>by go_simp⟩) (fun _=>hS) ?_;simp only [Gw2ighta,Gw2ightb,Gw2ightc];refine only_X 3 rfl (by kernel_rfl) (by rfl) (fun K hK=>?_);refine wp_store_row 38 (.tmp 5) (.tmp 24) rfl (w.heap.size+2) #[.string ds,.int .u32 di,.int .u8 nK,.int .u16 nM,.int .u32 nL,.int .u32 nS,.string nT,.slice A9 m9 c9] rfl rfl 38 #[.string ⟨#[]⟩,.int .u32 0,.int .u8 0,.int .u16 0,.int .u32 0,.int .u32 0,.string ⟨#[]⟩,.slice none 0 0] Rz.out (by kernel_rfl) rfl (row8 _ _ _ _ _ _ _ _ _ _) ?_
   clear cv0 co0 co1 co2 co3 co4 co5 co6 cz0 cz1 cz2 cz3 cz4 cz5 cz6 cz7 cd0 cd1 cd2 cd3 cd4 cd5 cd6 cd7;replace HM:=hid (mk_row (g:=w.heap.size+2) (cs:=#[.string ds,.int .u32 di,.int .u8 nK,.int .u16 nM,.int .u32 nL,.int .u32 nS,.string nT,.slice A9 m9 c9]) HM.out BK.out (by omega) GK.out);replace B:=hid (below_setRow B.out (g:=w.heap.size+2) (by omega) #[.string ds,.int .u32 di,.int .u8 nK,.int .u16 nM,.int .u32 nL,.int .u32 nS,.string nT,.slice A9 m9 c9]);replace Rv:=hid (Rv.out.keep (g':=w.heap.size+2) (old:=#[.string ds,.int .u32 di,.int .u8 nK,.int .u16 nM,.int .u32 nL,.int .u32 nS,.string nT,.slice A9 m9 c9]) (by omega));replace Ro:=hid (Ro.out.keep (g':=w.heap.size+2) (old:=#[.string ds,.int .u32 di,.int .u8 nK,.int .u16 nM,.int .u32 nL,.int .u32 nS,.string nT,.slice A9 m9 c9]) (by omega));replace Rd:=hid (Rd.out.keep (g':=w.heap.size+2) (old:=#[.string ds,.int .u32 di,.int .u8 nK,.int .u16 nM,.int .u32 nL,.int .u32 nS,.string nT,.slice A9 m9 c9]) (Nat.ne_of_gt Dd_z.out))
   replace Rz:=hid (Rz.out.set (cs:=#[.string ds,.int .u32 di,.int .u8 nK,.int .u16 nM,.int .u32 nL,.int .u32 nS,.string nT,.slice A9 m9 c9]));refine hK.out _ _ (fun h=>absurd h (by decide)) ?_;clear hK K;try simp only [Act.put,Gw2ighta,Gw2ightb,Gw2ightc]
   generalize w3.setRow (w.heap.size+2) #[.string ds,.int .u32 di,.int .u8 nK,.int .u16 nM,.int .u32 nL,.int .u32 nS,.string nT,.slice A9 m9 c9]=w4 at *;have cv0:=cl1 Rv.out;obtain⟨co0,co1,co2,co3,co4,co5,co6⟩:=cl7 Ro.out;obtain⟨cz0,cz1,cz2,cz3,cz4,cz5,cz6,cz7⟩:=cl8 Rz.out;obtain⟨cd0,cd1,cd2,cd3,cd4,cd5,cd6,cd7⟩:=cl8 Rd.out;refine take_X 4 6 (.int .i64 x) rfl (by rfl) (by kernel_rfl) (by kernel_rfl) (by kernel_rfl) (by kernel_rfl) (fun _ _ _ h=>h) (Till.mono (by decide)) (Or.inl ⟨by rfl,fun w' hB=>by go_simp⟩) (fun h=>absurd h (by decide)) ?_;simp only [Gw2ighta,Gw2ightb,Gw2ightc];refine done_X (by kernel_rfl) ?_ _;clear hS Qv Qo Qz Qd
   go_wp2
   refine bodyPost_ret (v:=.tuple #[.slice none 0 0,.agg #[.string ds,.int .u32 di,.int .u8 nK,.int .u16 nM,.int .u32 nL,.int .u32 nS,.string nT,.slice A9 m9 c9],.int .i64 x]) (results_row3 rfl _ _ (w.heap.size+2) 38 #[.string ds,.int .u32 di,.int .u8 nK,.int .u16 nM,.int .u32 nL,.int .u32 nS,.string nT,.slice A9 m9 c9] (0,0) _ _ _ rfl rfl rfl Rz.out Tryz.underlying38 rfl (by kernel_rfl)) rfl ?_;exact⟨.slice none 0 0,.slice A9 m9 c9,rfl,Mk.nil B.out,HM.out⟩
  ·by_cases hk12:o.K=12
   ·
    have HF:=hid (fun (w1:World) (hb:Below w.heap.size w w1)=>told_any (h.go hb) o ho);have ht:tells o:=by unfold tells;omega
    rw [if_pos ht,if_pos ht,if_pos ht];unfold TPost at HF;unfold DPost;obtain⟨d2,hd2⟩:∃ d2,(if tdX L o=0 then tdT L o else zTd)=d2:=⟨_,rfl⟩;obtain⟨D2,hD2⟩:∃ D2,(if tdX L o=0 then (tdT L o).e else [])=D2:=⟨_,rfl⟩;rw [hd2,hD2] at HF ⊢;have e1:(if tdX L o=0 then ([]:List Ch) else [])=[]:=by split<;>rfl
    rw [e1];generalize tdX L o=x at *;obtain⟨ds,di,⟨nK,nM,nL,nS,nT⟩,de⟩:=d2;obtain⟨oK,oP,oT,oM,oO,oN,oD⟩:=o;try dsimp only at *
    have k0:=(neN (a:=oK) (b:=5) (by first | exact hk5 | omega):((oK:Int)==5)=false);have k1:=(neN (a:=oK) (b:=11) (by first | exact hk11 | omega):((oK:Int)==11)=false);have k2:=(eqN (a:=oK) (b:=12) (by first | exact hk12 | omega):((oK:Int)==12)=true);clear h ho hd2 hD2 e1 ht hk5 hk11 hk12;have HN:=hid (three_new w #[.slice A n c] #[.int .u8 oK,.string oP,.string oT,.int .u16 oM,.int .u32 oO,.int .u32 oN,.string oD] #[.string ⟨#[]⟩,.int .u32 0,.int .u8 0,.int .u16 0,.int .u32 0,.int .u32 0,.string ⟨#[]⟩,.slice none 0 0] 84 31 38)
    go_enter Tryz.func23,Tryz.ntmps23
    go_wp2_with fail
    try generalize (((w.alloc (.cells #[.slice A n c] 84)).alloc (.cells #[.int .u8 oK,.string oP,.string oT,.int .u16 oM,.int .u32 oO,.int .u32 oN,.string oD] 31)).alloc (.cells #[.string ⟨#[]⟩,.int .u32 0,.int .u8 0,.int .u16 0,.int .u32 0,.int .u32 0,.string ⟨#[]⟩,.slice none 0 0] 38))=w0 at *
    have Rv:=hid HN.out.1;have Ro:=hid HN.out.2.1;have Rz:=hid HN.out.2.2.1;have B:=hid HN.out.2.2.2.1;clear HN;have cv0:=cl1 Rv.out;obtain⟨co0,co1,co2,co3,co4,co5,co6⟩:=cl7 Ro.out;obtain⟨cz0,cz1,cz2,cz3,cz4,cz5,cz6,cz7⟩:=cl8 Rz.out;refine (HF.out _ B.out).mono ?_;rintro e w1 ⟨ev,rfl,hm⟩;have hb:=hm.2;have HM:=hid hm;have BK:=hid B.out;have GK:=hid Rz.out.lt;obtain⟨A9,c9,hv9,_⟩:=hm.ls Di.encEn_len;generalize D2.length=m9 at hv9;subst hv9;clear cv0 co0 co1 co2 co3 co4 co5 co6 cz0 cz1 cz2 cz3 cz4 cz5 cz6 cz7;replace Rv:=gg Rv hb;replace Ro:=gg Ro hb;replace Rz:=gg Rz hb;replace B:=gb B hb;clear hm;have cv0:=cl1 Rv.out;obtain⟨co0,co1,co2,co3,co4,co5,co6⟩:=cl7 Ro.out;obtain⟨cz0,cz1,cz2,cz3,cz4,cz5,cz6,cz7⟩:=cl8 Rz.out;clear hb
    go_wp2_with (first
     | (refine new_row rfl 38 (.tmp 7) (.tmp 22) rfl rfl #[.string ds,.int .u32 di,.int .u8 nK,.int .u16 nM,.int .u32 nL,.int .u32 nS,.string nT,.slice A9 m9 c9] rfl rfl (by kernel_rfl) rfl (row8 _ _ _ _ _ _ _ _ _ _) ?_;intro w2 M;have Dd_z:=hid Rz.out.lt;clear cv0 co0 co1 co2 co3 co4 co5 co6 cz0 cz1 cz2 cz3 cz4 cz5 cz6 cz7;replace Rv:=gg Rv M.2.1;replace Ro:=gg Ro M.2.1;replace Rz:=gg Rz M.2.1;replace HM:=hid (HM.out.go M.2.1);replace B:=gb B M.2.1;have Rd:=hid M.1;have cv0:=cl1 Rv.out;obtain⟨co0,co1,co2,co3,co4,co5,co6⟩:=cl7 Ro.out;obtain⟨cz0,cz1,cz2,cz3,cz4,cz5,cz6,cz7⟩:=cl8 Rz.out;obtain⟨cd0,cd1,cd2,cd3,cd4,cd5,cd6,cd7⟩:=cl8 Rd.out;clear M))
    refine wp_region_X (Till 3 (fun (w':World)=>Below w2.heap.size w2 w')) (by kernel_rfl) ?_;have hd:Below w2.heap.size w2 w2.drew:=(Below.refl _ _).drew;generalize hW1:w2.drew=w3 at *;have hS:=hd;clear hW1;have Qv:=hid (Rv.out);have Qo:=hid (Ro.out);have Qz:=hid (Rz.out);have Qd:=hid (Rd.out);clear cv0 co0 co1 co2 co3 co4 co5 co6 cz0 cz1 cz2 cz3 cz4 cz5 cz6 cz7 cd0 cd1 cd2 cd3 cd4 cd5 cd6 cd7;replace Rv:=gg Rv hd;replace Ro:=gg Ro hd;replace Rz:=gg Rz hd;replace Rd:=gg Rd hd;replace HM:=hid (HM.out.go hd);replace B:=gb B hd;have cv0:=cl1 Rv.out;obtain⟨co0,co1,co2,co3,co4,co5,co6⟩:=cl7 Ro.out;obtain⟨cz0,cz1,cz2,cz3,cz4,cz5,cz6,cz7⟩:=cl8 Rz.out;obtain⟨cd0,cd1,cd2,cd3,cd4,cd5,cd6,cd7⟩:=cl8 Rd.out;clear hd;refine take_X 0 24 (.agg #[.string ds,.int .u32 di,.int .u8 nK,.int .u16 nM,.int .u32 nL,.int .u32 nS,.string nT,.slice A9 m9 c9]) rfl (by rfl) (by kernel_rfl) (by kernel_rfl) (by kernel_rfl) (by kernel_rfl) (fun _ _ _ h=>h) (Till.mono (by decide)) (Or.inl ⟨by rfl,fun w' hB=>by have hSw:=Till.bef hB (by kernel_rfl);exact load_all 38 (.tmp 7) rfl (w1.heap.size) rfl (Qd.out.go hSw) Tryz.underlying38 rfl (by kernel_rfl)⟩) (fun _=>hS) ?_
    simp only [Gw2ighta,Gw2ightb,Gw2ightc];refine take_X 1 25 (.int .i64 x) rfl (by rfl) (by kernel_rfl) (by kernel_rfl) (by kernel_rfl) (by kernel_rfl) (fun _ _ _ h=>h) (Till.mono (by decide)) (Or.inl ⟨by rfl,fun w' hB=>by go_simp⟩) (fun _=>hS) ?_;simp only [Gw2ighta,Gw2ightb,Gw2ightc];refine take_X 2 4 (.slice none 0 0) rfl (by rfl) (by kernel_rfl) (by kernel_rfl) (by kernel_rfl) (by kernel_rfl) (fun _ _ _ h=>h) (Till.mono (by decide)) (Or.inl ⟨by rfl,fun w' hB=>by go_simp⟩) (fun _=>hS) ?_;simp only [Gw2ighta,Gw2ightb,Gw2ightc];refine only_X 3 rfl (by kernel_rfl) (by rfl) (fun K hK=>?_);refine wp_store_row 38 (.tmp 5) (.tmp 24) rfl (w.heap.size+2) #[.string ds,.int .u32 di,.int .u8 nK,.int .u16 nM,.int .u32 nL,.int .u32 nS,.string nT,.slice A9 m9 c9] rfl rfl 38 #[.string ⟨#[]⟩,.int .u32 0,.int .u8 0,.int .u16 0,.int .u32 0,.int .u32 0,.string ⟨#[]⟩,.slice none 0 0] Rz.out (by kernel_rfl) rfl (row8 _ _ _ _ _ _ _ _ _ _) ?_
    clear cv0 co0 co1 co2 co3 co4 co5 co6 cz0 cz1 cz2 cz3 cz4 cz5 cz6 cz7 cd0 cd1 cd2 cd3 cd4 cd5 cd6 cd7;replace HM:=hid (mk_row (g:=w.heap.size+2) (cs:=#[.string ds,.int .u32 di,.int .u8 nK,.int .u16 nM,.int .u32 nL,.int .u32 nS,.string nT,.slice A9 m9 c9]) HM.out BK.out (by omega) GK.out);replace B:=hid (below_setRow B.out (g:=w.heap.size+2) (by omega) #[.string ds,.int .u32 di,.int .u8 nK,.int .u16 nM,.int .u32 nL,.int .u32 nS,.string nT,.slice A9 m9 c9]);replace Rv:=hid (Rv.out.keep (g':=w.heap.size+2) (old:=#[.string ds,.int .u32 di,.int .u8 nK,.int .u16 nM,.int .u32 nL,.int .u32 nS,.string nT,.slice A9 m9 c9]) (by omega));replace Ro:=hid (Ro.out.keep (g':=w.heap.size+2) (old:=#[.string ds,.int .u32 di,.int .u8 nK,.int .u16 nM,.int .u32 nL,.int .u32 nS,.string nT,.slice A9 m9 c9]) (by omega));replace Rd:=hid (Rd.out.keep (g':=w.heap.size+2) (old:=#[.string ds,.int .u32 di,.int .u8 nK,.int .u16 nM,.int .u32 nL,.int .u32 nS,.string nT,.slice A9 m9 c9]) (Nat.ne_of_gt Dd_z.out))
    replace Rz:=hid (Rz.out.set (cs:=#[.string ds,.int .u32 di,.int .u8 nK,.int .u16 nM,.int .u32 nL,.int .u32 nS,.string nT,.slice A9 m9 c9]));refine hK.out _ _ (fun h=>absurd h (by decide)) ?_;clear hK K;try simp only [Act.put,Gw2ighta,Gw2ightb,Gw2ightc]
    generalize w3.setRow (w.heap.size+2) #[.string ds,.int .u32 di,.int .u8 nK,.int .u16 nM,.int .u32 nL,.int .u32 nS,.string nT,.slice A9 m9 c9]=w4 at *;have cv0:=cl1 Rv.out;obtain⟨co0,co1,co2,co3,co4,co5,co6⟩:=cl7 Ro.out;obtain⟨cz0,cz1,cz2,cz3,cz4,cz5,cz6,cz7⟩:=cl8 Rz.out;obtain⟨cd0,cd1,cd2,cd3,cd4,cd5,cd6,cd7⟩:=cl8 Rd.out;refine take_X 4 6 (.int .i64 x) rfl (by rfl) (by kernel_rfl) (by kernel_rfl) (by kernel_rfl) (by kernel_rfl) (fun _ _ _ h=>h) (Till.mono (by decide)) (Or.inl ⟨by rfl,fun w' hB=>by go_simp⟩) (fun h=>absurd h (by decide)) ?_;simp only [Gw2ighta,Gw2ightb,Gw2ightc];refine done_X (by kernel_rfl) ?_ _;clear hS Qv Qo Qz Qd
    go_wp2
    refine bodyPost_ret (v:=.tuple #[.slice none 0 0,.agg #[.string ds,.int .u32 di,.int .u8 nK,.int .u16 nM,.int .u32 nL,.int .u32 nS,.string nT,.slice A9 m9 c9],.int .i64 x]) (results_row3 rfl _ _ (w.heap.size+2) 38 #[.string ds,.int .u32 di,.int .u8 nK,.int .u16 nM,.int .u32 nL,.int .u32 nS,.string nT,.slice A9 m9 c9] (0,0) _ _ _ rfl rfl rfl Rz.out Tryz.underlying38 rfl (by kernel_rfl)) rfl ?_;exact⟨.slice none 0 0,.slice A9 m9 c9,rfl,Mk.nil B.out,HM.out⟩
   ·by_cases hk15:o.K=15
    ·
     have HF:=hid (fun (w1:World) (hb:Below w.heap.size w w1)=>told_any (h.go hb) o ho);have ht:tells o:=by unfold tells;omega
     rw [if_pos ht,if_pos ht,if_pos ht];unfold TPost at HF;unfold DPost;obtain⟨d2,hd2⟩:∃ d2,(if tdX L o=0 then tdT L o else zTd)=d2:=⟨_,rfl⟩;obtain⟨D2,hD2⟩:∃ D2,(if tdX L o=0 then (tdT L o).e else [])=D2:=⟨_,rfl⟩;rw [hd2,hD2] at HF ⊢;have e1:(if tdX L o=0 then ([]:List Ch) else [])=[]:=by split<;>rfl
     rw [e1];generalize tdX L o=x at *;obtain⟨ds,di,⟨nK,nM,nL,nS,nT⟩,de⟩:=d2;obtain⟨oK,oP,oT,oM,oO,oN,oD⟩:=o;try dsimp only at *
     have k0:=(neN (a:=oK) (b:=5) (by first | exact hk5 | omega):((oK:Int)==5)=false);have k1:=(neN (a:=oK) (b:=11) (by first | exact hk11 | omega):((oK:Int)==11)=false);have k2:=(neN (a:=oK) (b:=12) (by first | exact hk12 | omega):((oK:Int)==12)=false);have k3:=(eqN (a:=oK) (b:=15) (by first | exact hk15 | omega):((oK:Int)==15)=true);clear h ho hd2 hD2 e1 ht hk5 hk11 hk12 hk15;have HN:=hid (three_new w #[.slice A n c] #[.int .u8 oK,.string oP,.string oT,.int .u16 oM,.int .u32 oO,.int .u32 oN,.string oD] #[.string ⟨#[]⟩,.int .u32 0,.int .u8 0,.int .u16 0,.int .u32 0,.int .u32 0,.string ⟨#[]⟩,.slice none 0 0] 84 31 38)
     go_enter Tryz.func23,Tryz.ntmps23
     go_wp2_with fail
     try generalize (((w.alloc (.cells #[.slice A n c] 84)).alloc (.cells #[.int .u8 oK,.string oP,.string oT,.int .u16 oM,.int .u32 oO,.int .u32 oN,.string oD] 31)).alloc (.cells #[.string ⟨#[]⟩,.int .u32 0,.int .u8 0,.int .u16 0,.int .u32 0,.int .u32 0,.string ⟨#[]⟩,.slice none 0 0] 38))=w0 at *
     have Rv:=hid HN.out.1;have Ro:=hid HN.out.2.1;have Rz:=hid HN.out.2.2.1;have B:=hid HN.out.2.2.2.1;clear HN;have cv0:=cl1 Rv.out;obtain⟨co0,co1,co2,co3,co4,co5,co6⟩:=cl7 Ro.out;obtain⟨cz0,cz1,cz2,cz3,cz4,cz5,cz6,cz7⟩:=cl8 Rz.out;refine (HF.out _ B.out).mono ?_;rintro e w1 ⟨ev,rfl,hm⟩;have hb:=hm.2;have HM:=hid hm;have BK:=hid B.out;have GK:=hid Rz.out.lt;obtain⟨A9,c9,hv9,_⟩:=hm.ls Di.encEn_len;generalize D2.length=m9 at hv9;subst hv9;clear cv0 co0 co1 co2 co3 co4 co5 co6 cz0 cz1 cz2 cz3 cz4 cz5 cz6 cz7;replace Rv:=gg Rv hb;replace Ro:=gg Ro hb;replace Rz:=gg Rz hb;replace B:=gb B hb;clear hm;have cv0:=cl1 Rv.out;obtain⟨co0,co1,co2,co3,co4,co5,co6⟩:=cl7 Ro.out;obtain⟨cz0,cz1,cz2,cz3,cz4,cz5,cz6,cz7⟩:=cl8 Rz.out;clear hb
     go_wp2_with (first
      | (refine new_row rfl 38 (.tmp 7) (.tmp 22) rfl rfl #[.string ds,.int .u32 di,.int .u8 nK,.int .u16 nM,.int .u32 nL,.int .u32 nS,.string nT,.slice A9 m9 c9] rfl rfl (by kernel_rfl) rfl (row8 _ _ _ _ _ _ _ _ _ _) ?_;intro w2 M;have Dd_z:=hid Rz.out.lt;clear cv0 co0 co1 co2 co3 co4 co5 co6 cz0 cz1 cz2 cz3 cz4 cz5 cz6 cz7;replace Rv:=gg Rv M.2.1;replace Ro:=gg Ro M.2.1;replace Rz:=gg Rz M.2.1;replace HM:=hid (HM.out.go M.2.1);replace B:=gb B M.2.1;have Rd:=hid M.1;have cv0:=cl1 Rv.out;obtain⟨co0,co1,co2,co3,co4,co5,co6⟩:=cl7 Ro.out;obtain⟨cz0,cz1,cz2,cz3,cz4,cz5,cz6,cz7⟩:=cl8 Rz.out;obtain⟨cd0,cd1,cd2,cd3,cd4,cd5,cd6,cd7⟩:=cl8 Rd.out;clear M))
     refine wp_region_X (Till 3 (fun (w':World)=>Below w2.heap.size w2 w')) (by kernel_rfl) ?_;have hd:Below w2.heap.size w2 w2.drew:=(Below.refl _ _).drew;generalize hW1:w2.drew=w3 at *;have hS:=hd;clear hW1;have Qv:=hid (Rv.out);have Qo:=hid (Ro.out);have Qz:=hid (Rz.out);have Qd:=hid (Rd.out);clear cv0 co0 co1 co2 co3 co4 co5 co6 cz0 cz1 cz2 cz3 cz4 cz5 cz6 cz7 cd0 cd1 cd2 cd3 cd4 cd5 cd6 cd7;replace Rv:=gg Rv hd;replace Ro:=gg Ro hd;replace Rz:=gg Rz hd;replace Rd:=gg Rd hd;replace HM:=hid (HM.out.go hd);replace B:=gb B hd;have cv0:=cl1 Rv.out;obtain⟨co0,co1,co2,co3,co4,co5,co6⟩:=cl7 Ro.out;obtain⟨cz0,cz1,cz2,cz3,cz4,cz5,cz6,cz7⟩:=cl8 Rz.out;obtain⟨cd0,cd1,cd2,cd3,cd4,cd5,cd6,cd7⟩:=cl8 Rd.out;clear hd;refine take_X 0 24 (.agg #[.string ds,.int .u32 di,.int .u8 nK,.int .u16 nM,.int .u32 nL,.int .u32 nS,.string nT,.slice A9 m9 c9]) rfl (by rfl) (by kernel_rfl) (by kernel_rfl) (by kernel_rfl) (by kernel_rfl) (fun _ _ _ h=>h) (Till.mono (by decide)) (Or.inl ⟨by rfl,fun w' hB=>by have hSw:=Till.bef hB (by kernel_rfl);exact load_all 38 (.tmp 7) rfl (w1.heap.size) rfl (Qd.out.go hSw) Tryz.underlying38 rfl (by kernel_rfl)⟩) (fun _=>hS) ?_
     simp only [Gw2ighta,Gw2ightb,Gw2ightc];refine take_X 1 25 (.int .i64 x) rfl (by rfl) (by kernel_rfl) (by kernel_rfl) (by kernel_rfl) (by kernel_rfl) (fun _ _ _ h=>h) (Till.mono (by decide)) (Or.inl ⟨by rfl,fun w' hB=>by go_simp⟩) (fun _=>hS) ?_;simp only [Gw2ighta,Gw2ightb,Gw2ightc];refine take_X 2 4 (.slice none 0 0) rfl (by rfl) (by kernel_rfl) (by kernel_rfl) (by kernel_rfl) (by kernel_rfl) (fun _ _ _ h=>h) (Till.mono (by decide)) (Or.inl ⟨by rfl,fun w' hB=>by go_simp⟩) (fun _=>hS) ?_;simp only [Gw2ighta,Gw2ightb,Gw2ightc];refine only_X 3 rfl (by kernel_rfl) (by rfl) (fun K hK=>?_);refine wp_store_row 38 (.tmp 5) (.tmp 24) rfl (w.heap.size+2) #[.string ds,.int .u32 di,.int .u8 nK,.int .u16 nM,.int .u32 nL,.int .u32 nS,.string nT,.slice A9 m9 c9] rfl rfl 38 #[.string ⟨#[]⟩,.int .u32 0,.int .u8 0,.int .u16 0,.int .u32 0,.int .u32 0,.string ⟨#[]⟩,.slice none 0 0] Rz.out (by kernel_rfl) rfl (row8 _ _ _ _ _ _ _ _ _ _) ?_
     clear cv0 co0 co1 co2 co3 co4 co5 co6 cz0 cz1 cz2 cz3 cz4 cz5 cz6 cz7 cd0 cd1 cd2 cd3 cd4 cd5 cd6 cd7;replace HM:=hid (mk_row (g:=w.heap.size+2) (cs:=#[.string ds,.int .u32 di,.int .u8 nK,.int .u16 nM,.int .u32 nL,.int .u32 nS,.string nT,.slice A9 m9 c9]) HM.out BK.out (by omega) GK.out);replace B:=hid (below_setRow B.out (g:=w.heap.size+2) (by omega) #[.string ds,.int .u32 di,.int .u8 nK,.int .u16 nM,.int .u32 nL,.int .u32 nS,.string nT,.slice A9 m9 c9]);replace Rv:=hid (Rv.out.keep (g':=w.heap.size+2) (old:=#[.string ds,.int .u32 di,.int .u8 nK,.int .u16 nM,.int .u32 nL,.int .u32 nS,.string nT,.slice A9 m9 c9]) (by omega));replace Ro:=hid (Ro.out.keep (g':=w.heap.size+2) (old:=#[.string ds,.int .u32 di,.int .u8 nK,.int .u16 nM,.int .u32 nL,.int .u32 nS,.string nT,.slice A9 m9 c9]) (by omega));replace Rd:=hid (Rd.out.keep (g':=w.heap.size+2) (old:=#[.string ds,.int .u32 di,.int .u8 nK,.int .u16 nM,.int .u32 nL,.int .u32 nS,.string nT,.slice A9 m9 c9]) (Nat.ne_of_gt Dd_z.out))
     replace Rz:=hid (Rz.out.set (cs:=#[.string ds,.int .u32 di,.int .u8 nK,.int .u16 nM,.int .u32 nL,.int .u32 nS,.string nT,.slice A9 m9 c9]));refine hK.out _ _ (fun h=>absurd h (by decide)) ?_;clear hK K;try simp only [Act.put,Gw2ighta,Gw2ightb,Gw2ightc]
     generalize w3.setRow (w.heap.size+2) #[.string ds,.int .u32 di,.int .u8 nK,.int .u16 nM,.int .u32 nL,.int .u32 nS,.string nT,.slice A9 m9 c9]=w4 at *;have cv0:=cl1 Rv.out;obtain⟨co0,co1,co2,co3,co4,co5,co6⟩:=cl7 Ro.out;obtain⟨cz0,cz1,cz2,cz3,cz4,cz5,cz6,cz7⟩:=cl8 Rz.out;obtain⟨cd0,cd1,cd2,cd3,cd4,cd5,cd6,cd7⟩:=cl8 Rd.out;refine take_X 4 6 (.int .i64 x) rfl (by rfl) (by kernel_rfl) (by kernel_rfl) (by kernel_rfl) (by kernel_rfl) (fun _ _ _ h=>h) (Till.mono (by decide)) (Or.inl ⟨by rfl,fun w' hB=>by go_simp⟩) (fun h=>absurd h (by decide)) ?_;simp only [Gw2ighta,Gw2ightb,Gw2ightc];refine done_X (by kernel_rfl) ?_ _;clear hS Qv Qo Qz Qd
     go_wp2
     refine bodyPost_ret (v:=.tuple #[.slice none 0 0,.agg #[.string ds,.int .u32 di,.int .u8 nK,.int .u16 nM,.int .u32 nL,.int .u32 nS,.string nT,.slice A9 m9 c9],.int .i64 x]) (results_row3 rfl _ _ (w.heap.size+2) 38 #[.string ds,.int .u32 di,.int .u8 nK,.int .u16 nM,.int .u32 nL,.int .u32 nS,.string nT,.slice A9 m9 c9] (0,0) _ _ _ rfl rfl rfl Rz.out Tryz.underlying38 rfl (by kernel_rfl)) rfl ?_;exact⟨.slice none 0 0,.slice A9 m9 c9,rfl,Mk.nil B.out,HM.out⟩
    ·
     have HF:=hid (fun (w1:World) (hb:Below w.heap.size w w1)=>changes_any (h.go hb) o ho);have ht:¬ tells o:=by unfold tells;omega
     rw [if_neg ht,if_neg ht,if_neg ht];unfold CPost at HF;unfold DPost;obtain⟨D2,hD2⟩:∃ D2,(if chX L o=0 then chC L o else [])=D2:=⟨_,rfl⟩;rw [hD2] at HF ⊢;have e1:(if chX L o=0 then zTd else zTd)=zTd:=by split<;>rfl
     have e2:(if chX L o=0 then zTd.e else [])=[]:=by split<;>rfl
     rw [e1,e2];generalize chX L o=x at *;obtain⟨oK,oP,oT,oM,oO,oN,oD⟩:=o;try dsimp only at *
     have k0:=(neN (a:=oK) (b:=5) (by first | exact hk5 | omega):((oK:Int)==5)=false);have k1:=(neN (a:=oK) (b:=11) (by first | exact hk11 | omega):((oK:Int)==11)=false);have k2:=(neN (a:=oK) (b:=12) (by first | exact hk12 | omega):((oK:Int)==12)=false);have k3:=(neN (a:=oK) (b:=15) (by first | exact hk15 | omega):((oK:Int)==15)=false);clear h ho hD2 e1 e2 ht hk5 hk11 hk12 hk15;have HN:=hid (three_new w #[.slice A n c] #[.int .u8 oK,.string oP,.string oT,.int .u16 oM,.int .u32 oO,.int .u32 oN,.string oD] #[.string ⟨#[]⟩,.int .u32 0,.int .u8 0,.int .u16 0,.int .u32 0,.int .u32 0,.string ⟨#[]⟩,.slice none 0 0] 84 31 38)
     go_enter Tryz.func23,Tryz.ntmps23
     go_wp2_with fail
     try generalize (((w.alloc (.cells #[.slice A n c] 84)).alloc (.cells #[.int .u8 oK,.string oP,.string oT,.int .u16 oM,.int .u32 oO,.int .u32 oN,.string oD] 31)).alloc (.cells #[.string ⟨#[]⟩,.int .u32 0,.int .u8 0,.int .u16 0,.int .u32 0,.int .u32 0,.string ⟨#[]⟩,.slice none 0 0] 38))=w0 at *
     have Rv:=hid HN.out.1;have Ro:=hid HN.out.2.1;have Rz:=hid HN.out.2.2.1;have B:=hid HN.out.2.2.2.1;clear HN;have cv0:=cl1 Rv.out;obtain⟨co0,co1,co2,co3,co4,co5,co6⟩:=cl7 Ro.out;obtain⟨cz0,cz1,cz2,cz3,cz4,cz5,cz6,cz7⟩:=cl8 Rz.out;refine (HF.out _ B.out).mono ?_;rintro e w1 ⟨v,rfl,hm⟩;have hb:=hm.2;have HM:=hid hm;have BK:=hid B.out;have GK:=hid Rz.out.lt;clear cv0 co0 co1 co2 co3 co4 co5 co6 cz0 cz1 cz2 cz3 cz4 cz5 cz6 cz7;replace Rv:=gg Rv hb;replace Ro:=gg Ro hb;replace Rz:=gg Rz hb;replace B:=gb B hb;clear hm;have cv0:=cl1 Rv.out;obtain⟨co0,co1,co2,co3,co4,co5,co6⟩:=cl7 Ro.out;obtain⟨cz0,cz1,cz2,cz3,cz4,cz5,cz6,cz7⟩:=cl8 Rz.out;clear hb
     go_wp2_with (first
      | (refine old_row rfl 38 (.tmp 5) (.tmp 33) rfl (w.heap.size+2) #[.string ⟨#[]⟩,.int .u32 0,.int .u8 0,.int .u16 0,.int .u32 0,.int .u32 0,.string ⟨#[]⟩,.slice none 0 0] rfl rfl Rz.out (by kernel_rfl) rfl (row8 _ _ _ _ _ _ _ _ _ _) ?_;intro w2 hw;clear cv0 co0 co1 co2 co3 co4 co5 co6 cz0 cz1 cz2 cz3 cz4 cz5 cz6 cz7;have hx:=mk_row (g:=w.heap.size+2) (cs:=#[.string ⟨#[]⟩,.int .u32 0,.int .u8 0,.int .u16 0,.int .u32 0,.int .u32 0,.string ⟨#[]⟩,.slice none 0 0]) HM.out BK.out (by omega) GK.out;rw [← hw] at hx;replace HM:=hid hx;clear hx;replace B:=bx hw B (by omega);replace Rv:=kx hw Rv (by omega);replace Ro:=kx hw Ro (by omega);replace Rz:=sx hw Rz;clear hw;have cv0:=cl1 Rv.out;obtain⟨co0,co1,co2,co3,co4,co5,co6⟩:=cl7 Ro.out;obtain⟨cz0,cz1,cz2,cz3,cz4,cz5,cz6,cz7⟩:=cl8 Rz.out))
     refine bodyPost_ret (v:=.tuple #[v,.agg #[.string ⟨#[]⟩,.int .u32 0,.int .u8 0,.int .u16 0,.int .u32 0,.int .u32 0,.string ⟨#[]⟩,.slice none 0 0],.int .i64 x]) (results_row3 rfl _ _ (w.heap.size+2) 38 #[.string ⟨#[]⟩,.int .u32 0,.int .u8 0,.int .u16 0,.int .u32 0,.int .u32 0,.string ⟨#[]⟩,.slice none 0 0] (0,0) _ _ _ rfl rfl rfl Rz.out Tryz.underlying38 rfl (by kernel_rfl)) rfl ?_;exact⟨v,.slice none 0 0,rfl,HM.out,Mk.nil B.out⟩
theorem chC_len (h:VA w A n c L){o:Op}(ho:o.lim):(chC L o).length≤104857600:=by
 have hn:L.length≤1390000:=by have:=h.it.1;have:=h.it.2.1;omega
 have hD:o.D.data.toList.length≤1048576:=by rw [Array.length_toList];exact ho.2.2.2.2.2.2
 have h1:=Da.wrL_len (Da.chs L (ldI L o.P true)) (ldI L o.P true) o.D.data.toList.length o.D.data.toList o.O (Nat.le_refl _);have h2:=Da.ctL_len (Da.chs L (ldI L o.P true)) o.N;have h3:(Da.chs L (ldI L o.P true)).length≤L.length:=Nat.le_trans (List.length_filterMap_le _ _) (und_len _ _);have h4:=letGo_len (pl L o.P) L;have h5:=letGo_len (pl L o.T) L;have e1:∀ p m,(crC L p m).length=2:=fun _ _=>rfl
 have e2:(hdC L o).length=2:=rfl;have e3:(wtC L o).length≤1048577:=by unfold wtC;rw [List.length_append];show _+1≤_;omega
 have e4:(cuC L o).length≤1390001:=by unfold cuC;rw [List.length_append];show _+1≤_;omega
 have e5:(rnC L o).length≤5560004:=by
  unfold rnC;split
  ·exact Nat.zero_le _
  ·rw [List.length_append];show _+2≤_
   split
   ·show 0+2≤_;omega
   ·omega
 have e6:(moC L o).length=1:=rfl;unfold chC;by_cases k1:o.K=1
 ·rw [if_pos k1];rw [e1];decide
 rw [if_neg k1];by_cases k2:o.K=2
 ·rw [if_pos k2];rw [e1];decide
 rw [if_neg k2];by_cases k3:o.K=3
 ·rw [if_pos k3];rw [e1];decide
 rw [if_neg k3];by_cases k4:o.K=4
 ·rw [if_pos k4];rw [e2];decide
 rw [if_neg k4];by_cases k6:o.K=6
 ·rw [if_pos k6];omega
 rw [if_neg k6];by_cases k7:o.K=7
 ·rw [if_pos k7];omega
 rw [if_neg k7];by_cases k8:o.K=8
 ·rw [if_pos k8];omega
 rw [if_neg k8];by_cases k9:o.K=9
 ·rw [if_pos k9];omega
 rw [if_neg k9];by_cases k10:o.K=10
 ·rw [if_pos k10];omega
 rw [if_neg k10];by_cases k13:o.K=13
 ·rw [if_pos k13];rw [e6];decide
 rw [if_neg k13];by_cases k14:o.K=14
 ·rw [if_pos k14];show 1≤_;decide
 rw [if_neg k14];by_cases k16:o.K=16
 ·rw [if_pos k16];show 1≤_;decide
 rw [if_neg k16];exact Nat.zero_le _
set_option maxHeartbeats 2000000 in
theorem Do_any (hI:ItA w A n L) (hc:n≤c) (hcm:c≤maxLen) (o:Op) (ho:o.lim):Calls Tryz.prog 13 #[.slice A n c,vOp o] w (DPost w (dX L o) (dC L o) (dT L o)):=by
 cases hr:rgt L
 ·
  have HCK:=hid (fun (w1:World) (hb:Below w.heap.size w w1)=>Di.Check_any c (hI.go hb));have e0:Di.ckE L=9:=by unfold Di.ckE;rw [hr];rfl
  have e1:dX L o=9:=by unfold dX;rw [hr];rfl
  rw [e0] at HCK;rw [e1];generalize dC L o=D at *;generalize dT L o=d at *;obtain⟨oK,oP,oT,oM,oO,oN,oD⟩:=o;clear ho hI hr e0 e1 hc hcm;have HN:=hid (two_new w #[.int .u8 oK,.string oP,.string oT,.int .u16 oM,.int .u32 oO,.int .u32 oN,.string oD] #[.string ⟨#[]⟩,.int .u32 0,.int .u8 0,.int .u16 0,.int .u32 0,.int .u32 0,.string ⟨#[]⟩,.slice none 0 0] 31 38)
  go_enter Tryz.func13,Tryz.ntmps13
  go_wp2_with fail
  try generalize ((w.alloc (.cells #[.int .u8 oK,.string oP,.string oT,.int .u16 oM,.int .u32 oO,.int .u32 oN,.string oD] 31)).alloc (.cells #[.string ⟨#[]⟩,.int .u32 0,.int .u8 0,.int .u16 0,.int .u32 0,.int .u32 0,.string ⟨#[]⟩,.slice none 0 0] 38))=w0 at *
  have Ro:=hid HN.out.1;have Rz:=hid HN.out.2.1;have B:=hid HN.out.2.2.1;clear HN;obtain⟨co0,co1,co2,co3,co4,co5,co6⟩:=cl7 Ro.out;obtain⟨cz0,cz1,cz2,cz3,cz4,cz5,cz6,cz7⟩:=cl8 Rz.out;refine (HCK.out _ B.out).mono ?_;rintro e w1 ⟨rfl,hb⟩;clear co0 co1 co2 co3 co4 co5 co6 cz0 cz1 cz2 cz3 cz4 cz5 cz6 cz7;replace Ro:=gg Ro hb;replace Rz:=gg Rz hb;replace B:=gb B hb;obtain⟨co0,co1,co2,co3,co4,co5,co6⟩:=cl7 Ro.out;obtain⟨cz0,cz1,cz2,cz3,cz4,cz5,cz6,cz7⟩:=cl8 Rz.out;clear hb
  go_wp2_with (first
   | (refine old_row rfl 38 (.tmp 5) (.tmp 16) rfl (w.heap.size+1) #[.string ⟨#[]⟩,.int .u32 0,.int .u8 0,.int .u16 0,.int .u32 0,.int .u32 0,.string ⟨#[]⟩,.slice none 0 0] rfl rfl Rz.out (by kernel_rfl) rfl (row8 _ _ _ _ _ _ _ _ _ _) ?_;intro w2 hw;clear co0 co1 co2 co3 co4 co5 co6 cz0 cz1 cz2 cz3 cz4 cz5 cz6 cz7;replace B:=bx hw B (by omega);replace Ro:=kx hw Ro (by omega);replace Rz:=sx hw Rz;clear hw;obtain⟨co0,co1,co2,co3,co4,co5,co6⟩:=cl7 Ro.out;obtain⟨cz0,cz1,cz2,cz3,cz4,cz5,cz6,cz7⟩:=cl8 Rz.out))
  refine bodyPost_ret (v:=.tuple #[.slice none 0 0,.agg #[.string ⟨#[]⟩,.int .u32 0,.int .u8 0,.int .u16 0,.int .u32 0,.int .u32 0,.string ⟨#[]⟩,.slice none 0 0],.int .i64 9]) (results_row3 rfl _ _ (w.heap.size+1) 38 #[.string ⟨#[]⟩,.int .u32 0,.int .u8 0,.int .u16 0,.int .u32 0,.int .u32 0,.string ⟨#[]⟩,.slice none 0 0] (0,0) _ _ _ rfl rfl rfl Rz.out Tryz.underlying38 rfl (by kernel_rfl)) rfl ?_;exact⟨.slice none 0 0,.slice none 0 0,rfl,Mk.nil B.out,Mk.nil B.out⟩
 ·by_cases h0:dX L o=0
  ·
   have HCK:=hid (fun (w1:World) (hb:Below w.heap.size w w1)=>Di.Check_any c (hI.go hb));have hV:VA w A n c L:=⟨hI,hc,hcm,hr⟩;have e0:Di.ckE L=0:=by unfold Di.ckE;rw [hr];rfl
   have e1:dX L o=if tells o then tdX L o else chX L o:=by unfold dX;rw [hr];rfl
   rw [e0] at HCK;have HF:=hid (fun (w1:World) (hb:Below w.heap.size w w1)=>do_any (hV.go hb) o ho);rw [← e1] at HF;have e2:dC L o=apC L (if tells o then [] else chC L o):=by unfold dC;rw [if_pos h0];split<;>rfl
   have e3:dT L o=(if tells o then tdT L o else zTd):=by unfold dT;rw [if_pos h0]
   rw [h0] at HF ⊢;rw [e2,e3];have hCl:(if tells o then [] else chC L o).length≤104857600:=by
    split
    ·exact Nat.zero_le _
    ·exact chC_len hV ho
   generalize (if tells o then ([]:List Ch) else chC L o)=C at *;generalize (if tells o then tdT L o else zTd)=d at *;unfold DPost at HF;rw [if_pos rfl,if_pos rfl,if_pos rfl] at HF;have HCL:=hid hCl;have HAP:=hid (fun (w1:World) (hb:Below w.heap.size w w1) (A8:Option Addr) (m8 c8:Nat) (h8:m8=C.length) (hL8:Ls Sc.enc 3 w1 w1.heap.size A8 C)=>apart_any (c':=c8) (hV.go hb) h8 (by omega) hL8);generalize apC L C=Z at *;obtain⟨ds,di,⟨nK,nM,nL,nS,nT⟩,de⟩:=d;obtain⟨oK,oP,oT,oM,oO,oN,oD⟩:=o;try dsimp only at *
   clear ho hI hr hV e0 e1 e2 e3 hc hcm h0 hCl;have HN:=hid (two_new w #[.int .u8 oK,.string oP,.string oT,.int .u16 oM,.int .u32 oO,.int .u32 oN,.string oD] #[.string ⟨#[]⟩,.int .u32 0,.int .u8 0,.int .u16 0,.int .u32 0,.int .u32 0,.string ⟨#[]⟩,.slice none 0 0] 31 38)
   go_enter Tryz.func13,Tryz.ntmps13
   go_wp2_with fail
   try generalize ((w.alloc (.cells #[.int .u8 oK,.string oP,.string oT,.int .u16 oM,.int .u32 oO,.int .u32 oN,.string oD] 31)).alloc (.cells #[.string ⟨#[]⟩,.int .u32 0,.int .u8 0,.int .u16 0,.int .u32 0,.int .u32 0,.string ⟨#[]⟩,.slice none 0 0] 38))=w0 at *
   have Ro:=hid HN.out.1;have Rz:=hid HN.out.2.1;have B:=hid HN.out.2.2.1;clear HN;obtain⟨co0,co1,co2,co3,co4,co5,co6⟩:=cl7 Ro.out;obtain⟨cz0,cz1,cz2,cz3,cz4,cz5,cz6,cz7⟩:=cl8 Rz.out;refine (HCK.out _ B.out).mono ?_;rintro e w1 ⟨rfl,hb⟩;clear co0 co1 co2 co3 co4 co5 co6 cz0 cz1 cz2 cz3 cz4 cz5 cz6 cz7;replace Ro:=gg Ro hb;replace Rz:=gg Rz hb;replace B:=gb B hb;obtain⟨co0,co1,co2,co3,co4,co5,co6⟩:=cl7 Ro.out;obtain⟨cz0,cz1,cz2,cz3,cz4,cz5,cz6,cz7⟩:=cl8 Rz.out;clear hb
   go_wp2_with (first
    | (refine new_row rfl 84 (.tmp 8) (.tmp 19) rfl rfl #[.slice A n c] rfl rfl (by kernel_rfl) rfl (by simp [Value.oneCell']) ?_;intro w2 M;have Dv_z:=hid Rz.out.lt;clear co0 co1 co2 co3 co4 co5 co6 cz0 cz1 cz2 cz3 cz4 cz5 cz6 cz7;replace Ro:=gg Ro M.2.1;replace Rz:=gg Rz M.2.1;replace B:=gb B M.2.1;have Rv:=hid M.1;obtain⟨co0,co1,co2,co3,co4,co5,co6⟩:=cl7 Ro.out;obtain⟨cz0,cz1,cz2,cz3,cz4,cz5,cz6,cz7⟩:=cl8 Rz.out;have cv0:=cl1 Rv.out;clear M)
    | (go_at_call 23;refine (HF.out _ B.out).mono ?_;rintro e w3 ⟨v,ev,rfl,hm0,hm⟩;have hb:=hm.2;have HM:=hid hm;have HC:=hid hm0;have BK:=hid B.out;have GK:=hid Rz.out.lt;obtain⟨A9,c9,hv9,_⟩:=hm.ls Di.encEn_len;generalize de.length=m9 at hv9;subst hv9;obtain⟨A8,c8,hv8,_⟩:=hm0.ls Sc.enc_len;generalize C.length=m8 at hv8;subst hv8;clear co0 co1 co2 co3 co4 co5 co6 cz0 cz1 cz2 cz3 cz4 cz5 cz6 cz7 cv0;replace Ro:=gg Ro hb;replace Rz:=gg Rz hb;replace Rv:=gg Rv hb;replace B:=gb B hb;clear hm hm0;obtain⟨co0,co1,co2,co3,co4,co5,co6⟩:=cl7 Ro.out;obtain⟨cz0,cz1,cz2,cz3,cz4,cz5,cz6,cz7⟩:=cl8 Rz.out;have cv0:=cl1 Rv.out;clear hb)
    | (refine new_row rfl 38 (.tmp 10) (.tmp 25) rfl rfl #[.string ds,.int .u32 di,.int .u8 nK,.int .u16 nM,.int .u32 nL,.int .u32 nS,.string nT,.slice A9 m9 c9] rfl rfl (by kernel_rfl) rfl (row8 _ _ _ _ _ _ _ _ _ _) ?_;intro w4 M;have Dd_z:=hid Rz.out.lt;clear co0 co1 co2 co3 co4 co5 co6 cz0 cz1 cz2 cz3 cz4 cz5 cz6 cz7 cv0;replace Ro:=gg Ro M.2.1;replace Rz:=gg Rz M.2.1;replace Rv:=gg Rv M.2.1;replace HM:=hid (HM.out.go M.2.1);replace HC:=hid (HC.out.go M.2.1);replace B:=gb B M.2.1;have Rd:=hid M.1;obtain⟨co0,co1,co2,co3,co4,co5,co6⟩:=cl7 Ro.out;obtain⟨cz0,cz1,cz2,cz3,cz4,cz5,cz6,cz7⟩:=cl8 Rz.out;have cv0:=cl1 Rv.out;obtain⟨cd0,cd1,cd2,cd3,cd4,cd5,cd6,cd7⟩:=cl8 Rd.out;clear M))
   refine wp_region_X (Till 5 (fun (w':World)=>Below w4.heap.size w4 w')) (by kernel_rfl) ?_;have hd:Below w4.heap.size w4 w4.drew:=(Below.refl _ _).drew;generalize hW1:w4.drew=w5 at *;have hS:=hd;clear hW1;have Qo:=hid (Ro.out);have Qz:=hid (Rz.out);have Qv:=hid (Rv.out);have Qd:=hid (Rd.out);clear co0 co1 co2 co3 co4 co5 co6 cz0 cz1 cz2 cz3 cz4 cz5 cz6 cz7 cv0 cd0 cd1 cd2 cd3 cd4 cd5 cd6 cd7;replace Ro:=gg Ro hd;replace Rz:=gg Rz hd;replace Rv:=gg Rv hd;replace Rd:=gg Rd hd;replace HM:=hid (HM.out.go hd);replace HC:=hid (HC.out.go hd);replace B:=gb B hd;obtain⟨co0,co1,co2,co3,co4,co5,co6⟩:=cl7 Ro.out;obtain⟨cz0,cz1,cz2,cz3,cz4,cz5,cz6,cz7⟩:=cl8 Rz.out;have cv0:=cl1 Rv.out;obtain⟨cd0,cd1,cd2,cd3,cd4,cd5,cd6,cd7⟩:=cl8 Rd.out;clear hd;refine take_X 0 31 (.agg #[.slice A n c]) rfl (by rfl) (by kernel_rfl) (by kernel_rfl) (by kernel_rfl) (by kernel_rfl) (fun _ _ _ h=>h) (Till.mono (by decide)) (Or.inl ⟨by rfl,fun w' hB=>by have hSw:=Till.bef hB (by kernel_rfl);exact load_all 84 (.tmp 8) rfl (w1.heap.size) rfl (Qv.out.go hSw) Tryz.underlying84 rfl (by kernel_rfl)⟩) (fun _=>hS) ?_
   simp only [Gw2ighta,Gw2ightb,Gw2ightc];refine take_X 1 32 (.slice A8 m8 c8) rfl (by rfl) (by kernel_rfl) (by kernel_rfl) (by kernel_rfl) (by kernel_rfl) (fun _ _ _ h=>h) (Till.mono (by decide)) (Or.inl ⟨by rfl,fun w' hB=>by go_simp⟩) (fun _=>hS) ?_;simp only [Gw2ighta,Gw2ightb,Gw2ightc];refine take_X 3 34 (.agg #[.string ds,.int .u32 di,.int .u8 nK,.int .u16 nM,.int .u32 nL,.int .u32 nS,.string nT,.slice A9 m9 c9]) rfl (by rfl) (by kernel_rfl) (by kernel_rfl) (by kernel_rfl) (by kernel_rfl) (fun _ _ _ h=>h) (Till.mono (by decide)) (Or.inl ⟨by rfl,fun w' hB=>by have hSw:=Till.bef hB (by kernel_rfl);exact load_all 38 (.tmp 10) rfl (w3.heap.size) rfl (Qd.out.go hSw) Tryz.underlying38 rfl (by kernel_rfl)⟩) (fun _=>hS) ?_;simp only [Gw2ighta,Gw2ightb,Gw2ightc];refine only_X 2 rfl (by kernel_rfl) (by rfl) (fun K hK=>?_)
   go_wp2_with fail
   go_at_call 24
   refine (HAP.out _ B.out A8 m8 c8 (mk_sl Sc.enc_len HC.out).1 (mk_sl Sc.enc_len HC.out).2.2.2).mono ?_;rintro e w6 ⟨v2,rfl,hm⟩;have hb:=hm.2;have HZ:=hid hm;have BZ:=hid B.out;have GZ:=hid Rz.out.lt;have hS2:=hS.trans (hb.mono hS.size);clear co0 co1 co2 co3 co4 co5 co6 cz0 cz1 cz2 cz3 cz4 cz5 cz6 cz7 cv0 cd0 cd1 cd2 cd3 cd4 cd5 cd6 cd7;replace Ro:=gg Ro hb;replace Rz:=gg Rz hb;replace Rv:=gg Rv hb;replace Rd:=gg Rd hb;replace HM:=hid (HM.out.go hb);replace HC:=hid (HC.out.go hb);replace B:=gb B hb;clear hm;have HZ2:=hid HZ.out;obtain⟨co0,co1,co2,co3,co4,co5,co6⟩:=cl7 Ro.out;obtain⟨cz0,cz1,cz2,cz3,cz4,cz5,cz6,cz7⟩:=cl8 Rz.out;have cv0:=cl1 Rv.out;obtain⟨cd0,cd1,cd2,cd3,cd4,cd5,cd6,cd7⟩:=cl8 Rd.out;clear hb;refine hK.out _ _ (fun _=>hS2) ?_;clear hK K;try simp only [Act.put,Gw2ighta,Gw2ightb,Gw2ightc]
   replace hS:=hS2;clear hS2;refine take_X 4 4 (v2) rfl (by rfl) (by kernel_rfl) (by kernel_rfl) (by kernel_rfl) (by kernel_rfl) (fun _ _ _ h=>h) (Till.mono (by decide)) (Or.inl ⟨by rfl,fun w' hB=>by go_simp⟩) (fun _=>hS) ?_;simp only [Gw2ighta,Gw2ightb,Gw2ightc];refine only_X 5 rfl (by kernel_rfl) (by rfl) (fun K hK=>?_);refine wp_store_row 38 (.tmp 5) (.tmp 34) rfl (w.heap.size+1) #[.string ds,.int .u32 di,.int .u8 nK,.int .u16 nM,.int .u32 nL,.int .u32 nS,.string nT,.slice A9 m9 c9] rfl rfl 38 #[.string ⟨#[]⟩,.int .u32 0,.int .u8 0,.int .u16 0,.int .u32 0,.int .u32 0,.string ⟨#[]⟩,.slice none 0 0] Rz.out (by kernel_rfl) rfl (row8 _ _ _ _ _ _ _ _ _ _) ?_;clear co0 co1 co2 co3 co4 co5 co6 cz0 cz1 cz2 cz3 cz4 cz5 cz6 cz7 cv0 cd0 cd1 cd2 cd3 cd4 cd5 cd6 cd7;replace HM:=hid (mk_row (g:=w.heap.size+1) (cs:=#[.string ds,.int .u32 di,.int .u8 nK,.int .u16 nM,.int .u32 nL,.int .u32 nS,.string nT,.slice A9 m9 c9]) HM.out BK.out (by omega) GK.out)
   replace HC:=hid (mk_row (g:=w.heap.size+1) (cs:=#[.string ds,.int .u32 di,.int .u8 nK,.int .u16 nM,.int .u32 nL,.int .u32 nS,.string nT,.slice A9 m9 c9]) HC.out BK.out (by omega) GK.out);replace HZ2:=hid (mk_row (g:=w.heap.size+1) (cs:=#[.string ds,.int .u32 di,.int .u8 nK,.int .u16 nM,.int .u32 nL,.int .u32 nS,.string nT,.slice A9 m9 c9]) HZ2.out BZ.out (by omega) GZ.out);replace B:=hid (below_setRow B.out (g:=w.heap.size+1) (by omega) #[.string ds,.int .u32 di,.int .u8 nK,.int .u16 nM,.int .u32 nL,.int .u32 nS,.string nT,.slice A9 m9 c9]);replace Ro:=hid (Ro.out.keep (g':=w.heap.size+1) (old:=#[.string ds,.int .u32 di,.int .u8 nK,.int .u16 nM,.int .u32 nL,.int .u32 nS,.string nT,.slice A9 m9 c9]) (by omega));replace Rv:=hid (Rv.out.keep (g':=w.heap.size+1) (old:=#[.string ds,.int .u32 di,.int .u8 nK,.int .u16 nM,.int .u32 nL,.int .u32 nS,.string nT,.slice A9 m9 c9]) (Nat.ne_of_gt Dv_z.out))
   replace Rd:=hid (Rd.out.keep (g':=w.heap.size+1) (old:=#[.string ds,.int .u32 di,.int .u8 nK,.int .u16 nM,.int .u32 nL,.int .u32 nS,.string nT,.slice A9 m9 c9]) (Nat.ne_of_gt Dd_z.out));replace Rz:=hid (Rz.out.set (cs:=#[.string ds,.int .u32 di,.int .u8 nK,.int .u16 nM,.int .u32 nL,.int .u32 nS,.string nT,.slice A9 m9 c9]));refine hK.out _ _ (fun h=>absurd h (by decide)) ?_;clear hK K;try simp only [Act.put,Gw2ighta,Gw2ightb,Gw2ightc]
   generalize w6.setRow (w.heap.size+1) #[.string ds,.int .u32 di,.int .u8 nK,.int .u16 nM,.int .u32 nL,.int .u32 nS,.string nT,.slice A9 m9 c9]=w7 at *;obtain⟨co0,co1,co2,co3,co4,co5,co6⟩:=cl7 Ro.out;obtain⟨cz0,cz1,cz2,cz3,cz4,cz5,cz6,cz7⟩:=cl8 Rz.out;have cv0:=cl1 Rv.out;obtain⟨cd0,cd1,cd2,cd3,cd4,cd5,cd6,cd7⟩:=cl8 Rd.out;refine take_X 6 6 (.int .i64 0) rfl (by rfl) (by kernel_rfl) (by kernel_rfl) (by kernel_rfl) (by kernel_rfl) (fun _ _ _ h=>h) (Till.mono (by decide)) (Or.inl ⟨by rfl,fun w' hB=>by go_simp⟩) (fun h=>absurd h (by decide)) ?_;simp only [Gw2ighta,Gw2ightb,Gw2ightc];refine done_X (by kernel_rfl) ?_ _;clear hS Qo Qz Qv Qd
   go_wp2
   refine bodyPost_ret (v:=.tuple #[v2,.agg #[.string ds,.int .u32 di,.int .u8 nK,.int .u16 nM,.int .u32 nL,.int .u32 nS,.string nT,.slice A9 m9 c9],.int .i64 0]) (results_row3 rfl _ _ (w.heap.size+1) 38 #[.string ds,.int .u32 di,.int .u8 nK,.int .u16 nM,.int .u32 nL,.int .u32 nS,.string nT,.slice A9 m9 c9] (0,0) _ _ _ rfl rfl rfl Rz.out Tryz.underlying38 rfl (by kernel_rfl)) rfl ?_;exact⟨v2,.slice A9 m9 c9,rfl,HZ2.out,HM.out⟩
  ·
   have HCK:=hid (fun (w1:World) (hb:Below w.heap.size w w1)=>Di.Check_any c (hI.go hb));have hV:VA w A n c L:=⟨hI,hc,hcm,hr⟩;have e0:Di.ckE L=0:=by unfold Di.ckE;rw [hr];rfl
   have e1:dX L o=if tells o then tdX L o else chX L o:=by unfold dX;rw [hr];rfl
   rw [e0] at HCK;have HF:=hid (fun (w1:World) (hb:Below w.heap.size w w1)=>do_any (hV.go hb) o ho);rw [← e1] at HF;generalize (if tells o then ([]:List Ch) else chC L o)=C at *;generalize (if tells o then tdT L o else zTd)=d at *;generalize dC L o=D at *;generalize dT L o=d0 at *;generalize dX L o=x at *;unfold DPost at HF;rw [if_neg h0,if_neg h0,if_neg h0] at HF;have HE:=hid h0;have e5:=ne0 h0;obtain⟨oK,oP,oT,oM,oO,oN,oD⟩:=o;try dsimp only at *
   clear ho hI hr hV e0 e1 hc hcm h0;have HN:=hid (two_new w #[.int .u8 oK,.string oP,.string oT,.int .u16 oM,.int .u32 oO,.int .u32 oN,.string oD] #[.string ⟨#[]⟩,.int .u32 0,.int .u8 0,.int .u16 0,.int .u32 0,.int .u32 0,.string ⟨#[]⟩,.slice none 0 0] 31 38)
   go_enter Tryz.func13,Tryz.ntmps13
   go_wp2_with fail
   try generalize ((w.alloc (.cells #[.int .u8 oK,.string oP,.string oT,.int .u16 oM,.int .u32 oO,.int .u32 oN,.string oD] 31)).alloc (.cells #[.string ⟨#[]⟩,.int .u32 0,.int .u8 0,.int .u16 0,.int .u32 0,.int .u32 0,.string ⟨#[]⟩,.slice none 0 0] 38))=w0 at *
   have Ro:=hid HN.out.1;have Rz:=hid HN.out.2.1;have B:=hid HN.out.2.2.1;clear HN;obtain⟨co0,co1,co2,co3,co4,co5,co6⟩:=cl7 Ro.out;obtain⟨cz0,cz1,cz2,cz3,cz4,cz5,cz6,cz7⟩:=cl8 Rz.out;refine (HCK.out _ B.out).mono ?_;rintro e w1 ⟨rfl,hb⟩;clear co0 co1 co2 co3 co4 co5 co6 cz0 cz1 cz2 cz3 cz4 cz5 cz6 cz7;replace Ro:=gg Ro hb;replace Rz:=gg Rz hb;replace B:=gb B hb;obtain⟨co0,co1,co2,co3,co4,co5,co6⟩:=cl7 Ro.out;obtain⟨cz0,cz1,cz2,cz3,cz4,cz5,cz6,cz7⟩:=cl8 Rz.out;clear hb
   go_wp2_with (first
    | (refine new_row rfl 84 (.tmp 8) (.tmp 19) rfl rfl #[.slice A n c] rfl rfl (by kernel_rfl) rfl (by simp [Value.oneCell']) ?_;intro w2 M;have Dv_z:=hid Rz.out.lt;clear co0 co1 co2 co3 co4 co5 co6 cz0 cz1 cz2 cz3 cz4 cz5 cz6 cz7;replace Ro:=gg Ro M.2.1;replace Rz:=gg Rz M.2.1;replace B:=gb B M.2.1;have Rv:=hid M.1;obtain⟨co0,co1,co2,co3,co4,co5,co6⟩:=cl7 Ro.out;obtain⟨cz0,cz1,cz2,cz3,cz4,cz5,cz6,cz7⟩:=cl8 Rz.out;have cv0:=cl1 Rv.out;clear M)
    | (go_at_call 23;refine (HF.out _ B.out).mono ?_;rintro e w3 ⟨v,ev,rfl,hm0,hm⟩;have hb:=hm.2;have HM:=hid hm;have HC:=hid hm0;have BK:=hid B.out;have GK:=hid Rz.out.lt;obtain⟨A9,c9,hv9,_⟩:=hm.ls Di.encEn_len;have m9:=0;subst hv9;clear co0 co1 co2 co3 co4 co5 co6 cz0 cz1 cz2 cz3 cz4 cz5 cz6 cz7 cv0;replace Ro:=gg Ro hb;replace Rz:=gg Rz hb;replace Rv:=gg Rv hb;replace B:=gb B hb;clear hm hm0;obtain⟨co0,co1,co2,co3,co4,co5,co6⟩:=cl7 Ro.out;obtain⟨cz0,cz1,cz2,cz3,cz4,cz5,cz6,cz7⟩:=cl8 Rz.out;have cv0:=cl1 Rv.out;clear hb)
    | (refine new_row rfl 38 (.tmp 10) (.tmp 25) rfl rfl #[.string ⟨#[]⟩,.int .u32 0,.int .u8 0,.int .u16 0,.int .u32 0,.int .u32 0,.string ⟨#[]⟩,.slice A9 0 c9] rfl rfl (by kernel_rfl) rfl (row8 _ _ _ _ _ _ _ _ _ _) ?_;intro w4 M;have Dd_z:=hid Rz.out.lt;clear co0 co1 co2 co3 co4 co5 co6 cz0 cz1 cz2 cz3 cz4 cz5 cz6 cz7 cv0;replace Ro:=gg Ro M.2.1;replace Rz:=gg Rz M.2.1;replace Rv:=gg Rv M.2.1;replace HM:=hid (HM.out.go M.2.1);replace B:=gb B M.2.1;have Rd:=hid M.1;obtain⟨co0,co1,co2,co3,co4,co5,co6⟩:=cl7 Ro.out;obtain⟨cz0,cz1,cz2,cz3,cz4,cz5,cz6,cz7⟩:=cl8 Rz.out;have cv0:=cl1 Rv.out;obtain⟨cd0,cd1,cd2,cd3,cd4,cd5,cd6,cd7⟩:=cl8 Rd.out;clear M)
    | (refine old_row rfl 38 (.tmp 5) (.tmp 29) rfl (w.heap.size+1) #[.string ⟨#[]⟩,.int .u32 0,.int .u8 0,.int .u16 0,.int .u32 0,.int .u32 0,.string ⟨#[]⟩,.slice none 0 0] rfl rfl Rz.out (by kernel_rfl) rfl (row8 _ _ _ _ _ _ _ _ _ _) ?_;intro w5 hw;clear co0 co1 co2 co3 co4 co5 co6 cz0 cz1 cz2 cz3 cz4 cz5 cz6 cz7 cv0 cd0 cd1 cd2 cd3 cd4 cd5 cd6 cd7;have hx:=mk_row (g:=w.heap.size+1) (cs:=#[.string ⟨#[]⟩,.int .u32 0,.int .u8 0,.int .u16 0,.int .u32 0,.int .u32 0,.string ⟨#[]⟩,.slice none 0 0]) HM.out BK.out (by omega) GK.out;rw [← hw] at hx;replace HM:=hid hx;clear hx;replace B:=bx hw B (by omega);replace Ro:=kx hw Ro (by omega);replace Rv:=kx hw Rv (Nat.ne_of_gt Dv_z.out);replace Rd:=kx hw Rd (Nat.ne_of_gt Dd_z.out);replace Rz:=sx hw Rz;clear hw;obtain⟨co0,co1,co2,co3,co4,co5,co6⟩:=cl7 Ro.out;obtain⟨cz0,cz1,cz2,cz3,cz4,cz5,cz6,cz7⟩:=cl8 Rz.out;have cv0:=cl1 Rv.out;obtain⟨cd0,cd1,cd2,cd3,cd4,cd5,cd6,cd7⟩:=cl8 Rd.out))
   refine bodyPost_ret (v:=.tuple #[.slice none 0 0,.agg #[.string ⟨#[]⟩,.int .u32 0,.int .u8 0,.int .u16 0,.int .u32 0,.int .u32 0,.string ⟨#[]⟩,.slice none 0 0],.int .i64 x]) (results_row3 rfl _ _ (w.heap.size+1) 38 #[.string ⟨#[]⟩,.int .u32 0,.int .u8 0,.int .u16 0,.int .u32 0,.int .u32 0,.string ⟨#[]⟩,.slice none 0 0] (0,0) _ _ _ rfl rfl rfl Rz.out Tryz.underlying38 rfl (by kernel_rfl)) rfl ?_;exact⟨.slice none 0 0,.slice none 0 0,by rw [if_neg HE.out];rfl,by rw [if_neg HE.out];exact Mk.nil B.out,by rw [if_neg HE.out];exact Mk.nil B.out⟩
end Go.Proofs.YtopepebcnaikiaaGreatDoor.Fi
