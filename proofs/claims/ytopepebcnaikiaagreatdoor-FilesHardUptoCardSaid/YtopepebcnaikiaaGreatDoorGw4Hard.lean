import Derived.Test.YtopepebcnaikiaaGreatDoorGw3Hard
set_option maxRecDepth 100000
set_option linter.unusedVariables false
set_option linter.unusedSimpArgs false
set_option maxRecDepth 100000
namespace Go.Proofs.YtopepebcnaikiaaGreatDoor.Fi
open Lib (hid)
open Go.ChangeShapes Go.WideShapes Go.ChangeAt Go.RowKit
open BigFrame
open Ar Rg
open Ino
open It (Itm Ch get und app dif rt rc enc er getV get_any under_any apply_any diff_any MkI MkC)
open Di (ItA wlk rgt rgt_iff numOf Vo vo pts lsX lsL up En NmA Walk_any Up MkE List_any New_any L0 encEn encEn_len)
open Ph (nb spX spB laX laD laN)
open Pk (nB nE tN tR tE number_any take_any)
variable {w w' wr:World}{A:Option Addr}{n c:Nat}{L:List Itm}
theorem w32h {n:Nat}(h:n<4294967296):IntKind.u32.wrap (n:Int)=n:=u32_id h
set_option maxHeartbeats 4000000 in
theorem hard_X {p r d:ByteArray}{q:Nat}(hI:ItA w A n L) (hc:n≤c) (hcm:c≤maxLen) (hn:n≤1048576) (hp:p.size≤1048576) (hr:r.size≤1048576) (hq:q<4294967296) (hd:d.size≤1048576) (h0:dX L (oH p r)≠0):Calls Tryz.prog 7 #[.slice A n c,.string p,.string r,.int .u32 q,.string d] w fun e w'=>e=.returned (.bool true)∧Below w.heap.size w w':=by
 have hlL:L.length≤1048576:=by have:=hI.1;omega
 have C1:=hid (fun (w:World) (A:Option Addr) (n c:Nat) (hI:ItA w A n (L)) (hc:n≤c) (hcm:c≤maxLen)=>af0 (o:=oH p r) (L:=L) (L':=L) (d:=zTd) (x:=dX L (oH p r)) hI hc hcm ⟨show (4:Nat)<256 by decide,show (0:Nat)<65536 by decide,show (0:Nat)<4294967296 by decide,show (0:Nat)<4294967296 by decide,hp,hr,show (0:Nat)≤1048576 by decide⟩ rfl (aft_no h0) (dT_ch oH_t) (by omega) rfl)
 rw [show vOp (oH p r)=.agg #[.int .u8 4,.string p,.string r,.int .u16 0,.int .u32 0,.int .u32 0,.string ⟨#[]⟩] from rfl] at C1
 have e5:=ne0 h0
 generalize dX L (oH p r)=x1 at *
 have HI:=hid hI
 have HN:=hid (And.intro hc hcm)
 clear hI hc hcm hn hp hr hq hd hlL h0
 go_enter Tryz.func7,Tryz.ntmps7
 go_wp2_with fail
 have B:=hid (Below.refl w.heap.size w)
 refine (lives_any w).mono ?_
 rintro e w1 ⟨rfl,hb⟩
 replace HI:=hid (HI.out.go hb)
 replace B:=gb B hb
 clear hb
 go_wp2_with (first
  | (go_at_call 14;refine (C1.out w1 A n c HI.out HN.out.1 HN.out.2).mono ?_;rintro e w2 ⟨A1,n1,c1,E1,e1,rfl,hn9,hc9,hI9,hb⟩;replace HI:=hid (HI.out.go hb);replace B:=gb B hb;clear hI9 hn9 hc9;clear hb)
  | (refine new_row rfl 38 (.tmp 12) (.tmp 38) rfl rfl #[.string ⟨#[]⟩,.int .u32 0,.int .u8 0,.int .u16 0,.int .u32 0,.int .u32 0,.string ⟨#[]⟩,.slice E1 0 e1] rfl rfl (by kernel_rfl) rfl (row8 _ _ _ _ _ _ _ _ _ _) ?_;intro w3 M;replace HI:=hid (HI.out.go M.2.1);replace B:=gb B M.2.1;have Re:=hid M.1;clear M))
 go_ret
 exact⟨rfl,B.out⟩
set_option maxHeartbeats 4000000 in
theorem hard_B {p r d:ByteArray}{q:Nat}(hI:ItA w A n L) (hc:n≤c) (hcm:c≤maxLen) (hn:n≤1048576) (hp:p.size≤1048576) (hr:r.size≤1048576) (hq:q<4294967296) (hd:d.size≤1048576) (h0:dX L (oH p r)=0) (h2:∀ i n,dT L (oU p)={ zTd with i:=i,n:=n }→n.K≠2):Calls Tryz.prog 7 #[.slice A n c,.string p,.string r,.int .u32 q,.string d] w fun e w'=>e=.returned (.bool true)∧Below w.heap.size w w':=by
 have hlL:L.length≤1048576:=by have:=hI.1;omega
 obtain⟨i,nn,k1,k2,k3,k4,k5,k6,k7,k8,k9⟩:=hard_all h0
 obtain⟨nK,nM,nL,nS,nT⟩:=nn
 dsimp only at k1 k4 k9
 obtain⟨l1,hl1⟩:∃ l,nL+1=l:=⟨_,rfl⟩
 rw [hl1] at k4
 have hsub:IntKind.u32.wrap ((l1:Int)-(nL:Int))=1:=by
  rw [← hl1,show ((nL+1:Nat):Int)-(nL:Int)=((1:Nat):Int) by omega]
  exact w32h (by decide)
 have C1:=hid (fun (w:World) (A:Option Addr) (n c:Nat) (hI:ItA w A n (L)) (hc:n≤c) (hcm:c≤maxLen)=>af0 (o:=oH p r) (L:=L) (L':=aft L (oH p r)) (d:=zTd) (x:=0) hI hc hcm ⟨show (4:Nat)<256 by decide,show (0:Nat)<65536 by decide,show (0:Nat)<4294967296 by decide,show (0:Nat)<4294967296 by decide,hp,hr,show (0:Nat)≤1048576 by decide⟩ h0 rfl (dT_ch oH_t) (by omega) rfl)
 rw [show vOp (oH p r)=.agg #[.int .u8 4,.string p,.string r,.int .u16 0,.int .u32 0,.int .u32 0,.string ⟨#[]⟩] from rfl] at C1
 generalize aft L (oH p r)=M at *
 have C2:=hid (fun (w:World) (A:Option Addr) (n c:Nat) (hI:ItA w A n (M)) (hc:n≤c) (hcm:c≤maxLen)=>af0 (o:=oU r) (L:=M) (L':=M) (d:={ zTd with i:=i,n:=⟨nK,nM,l1,nS,nT⟩ }) (x:=0) hI hc hcm ⟨show (11:Nat)<256 by decide,show (0:Nat)<65536 by decide,show (0:Nat)<4294967296 by decide,show (1:Nat)<4294967296 by decide,hr,show (0:Nat)≤1048576 by decide,show (0:Nat)≤1048576 by decide⟩ k3 (aft_tl oU_t) k4 (by omega) rfl)
 rw [show vOp (oU r)=.agg #[.int .u8 11,.string r,.string ⟨#[]⟩,.int .u16 0,.int .u32 0,.int .u32 1,.string ⟨#[]⟩] from rfl] at C2
 have C3:=hid (fun (w:World) (A:Option Addr) (n c:Nat) (hI:ItA w A n (L)) (hc:n≤c) (hcm:c≤maxLen)=>af0 (o:=oU p) (L:=L) (L':=L) (d:={ zTd with i:=i,n:=⟨nK,nM,nL,nS,nT⟩ }) (x:=0) hI hc hcm ⟨show (11:Nat)<256 by decide,show (0:Nat)<65536 by decide,show (0:Nat)<4294967296 by decide,show (1:Nat)<4294967296 by decide,hp,show (0:Nat)≤1048576 by decide,show (0:Nat)≤1048576 by decide⟩ k5 (aft_tl oU_t) k6 (by omega) rfl)
 rw [show vOp (oU p)=.agg #[.int .u8 11,.string p,.string ⟨#[]⟩,.int .u16 0,.int .u32 0,.int .u32 1,.string ⟨#[]⟩] from rfl] at C3
 have C4:=hid (fun (w:World) (A:Option Addr) (n c:Nat) (hI:ItA w A n (M)) (hc:n≤c) (hcm:c≤maxLen)=>af0 (o:=oV r) (L:=M) (L':=L) (d:=zTd) (x:=0) hI hc hcm ⟨show (9:Nat)<256 by decide,show (0:Nat)<65536 by decide,show (0:Nat)<4294967296 by decide,show (0:Nat)<4294967296 by decide,hr,show (0:Nat)≤1048576 by decide,show (0:Nat)≤1048576 by decide⟩ k7 k8 (dT_ch oV_t) (by omega) rfl)
 rw [show vOp (oV r)=.agg #[.int .u8 9,.string r,.string ⟨#[]⟩,.int .u16 0,.int .u32 0,.int .u32 0,.string ⟨#[]⟩] from rfl] at C4
 have h22:=h2 _ _ k6
 dsimp only at h22
 have e2:((nK:Int) != 2)=true:=by rw [bne_iff_ne];omega
 clear k1 k2 k3 k4 k5 k6 k7 k8 hl1 k9 h2 h22
 have HI:=hid hI
 have HN:=hid (And.intro hc hcm)
 clear hI hc hcm hn hp hr hq hd hlL h0
 go_enter Tryz.func7,Tryz.ntmps7
 go_wp2_with fail
 have B:=hid (Below.refl w.heap.size w)
 refine (lives_any w).mono ?_
 rintro e w1 ⟨rfl,hb⟩
 replace HI:=hid (HI.out.go hb)
 replace B:=gb B hb
 clear hb
 go_wp2_with (first
  | (go_at_call 14;refine (C1.out w1 A n c HI.out HN.out.1 HN.out.2).mono ?_;rintro e w2 ⟨A1,n1,c1,E1,e1,rfl,hn9,hc9,hI9,hb⟩;have HIM:=hid hI9;have HNM:=hid (And.intro hn9 hc9);replace HI:=hid (HI.out.go hb);replace B:=gb B hb;clear hI9 hn9 hc9;clear hb)
  | (refine new_row rfl 38 (.tmp 12) (.tmp 38) rfl rfl #[.string ⟨#[]⟩,.int .u32 0,.int .u8 0,.int .u16 0,.int .u32 0,.int .u32 0,.string ⟨#[]⟩,.slice E1 0 e1] rfl rfl (by kernel_rfl) rfl (row8 _ _ _ _ _ _ _ _ _ _) ?_;intro w3 M;replace HI:=hid (HI.out.go M.2.1);replace HIM:=hid (HIM.out.go M.2.1);replace B:=gb B M.2.1;have Re:=hid M.1;clear M)
  | (go_at_call 14;refine (C2.out w3 A1 n1 c1 HIM.out HNM.out.1 HNM.out.2).mono ?_;rintro e w4 ⟨A2,n2,c2,E2,e2,rfl,hn9,hc9,hI9,hb⟩;replace Re:=gg Re hb;replace HI:=hid (HI.out.go hb);replace HIM:=hid (HIM.out.go hb);replace B:=gb B hb;clear hI9 hn9 hc9;clear hb)
  | (refine new_row rfl 38 (.tmp 15) (.tmp 48) rfl rfl #[.string ⟨#[]⟩,.int .u32 i,.int .u8 nK,.int .u16 nM,.int .u32 l1,.int .u32 nS,.string nT,.slice E2 0 e2] rfl rfl (by kernel_rfl) rfl (row8 _ _ _ _ _ _ _ _ _ _) ?_;intro w5 M;replace Re:=gg Re M.2.1;replace HI:=hid (HI.out.go M.2.1);replace HIM:=hid (HIM.out.go M.2.1);replace B:=gb B M.2.1;have Rf:=hid M.1;clear M)
  | (go_at_call 14;refine (C3.out w5 A n c HI.out HN.out.1 HN.out.2).mono ?_;rintro e w6 ⟨A3,n3,c3,E3,e3,rfl,hn9,hc9,hI9,hb⟩;replace Re:=gg Re hb;replace Rf:=gg Rf hb;replace HI:=hid (HI.out.go hb);replace HIM:=hid (HIM.out.go hb);replace B:=gb B hb;clear hI9 hn9 hc9;obtain⟨cf0,cf1,cf2,cf3,cf4,cf5,cf6,cf7⟩:=cl8 Rf.out;clear hb)
  | (refine new_row rfl 38 (.tmp 18) (.tmp 56) rfl rfl #[.string ⟨#[]⟩,.int .u32 i,.int .u8 nK,.int .u16 nM,.int .u32 nL,.int .u32 nS,.string nT,.slice E3 0 e3] rfl rfl (by kernel_rfl) rfl (row8 _ _ _ _ _ _ _ _ _ _) ?_;intro w7 M;clear cf0 cf1 cf2 cf3 cf4 cf5 cf6 cf7;replace Re:=gg Re M.2.1;replace Rf:=gg Rf M.2.1;replace HI:=hid (HI.out.go M.2.1);replace HIM:=hid (HIM.out.go M.2.1);replace B:=gb B M.2.1;have Rg:=hid M.1;obtain⟨cf0,cf1,cf2,cf3,cf4,cf5,cf6,cf7⟩:=cl8 Rf.out;obtain⟨cg0,cg1,cg2,cg3,cg4,cg5,cg6,cg7⟩:=cl8 Rg.out;clear M)
  | (go_at_call 14;refine (C4.out w7 A1 n1 c1 HIM.out HNM.out.1 HNM.out.2).mono ?_;rintro e w8 ⟨A4,n4,c4,E4,e4,rfl,hn9,hc9,hI9,hb⟩;have HIK:=hid hI9;have HNK:=hid (And.intro hn9 hc9);clear cf0 cf1 cf2 cf3 cf4 cf5 cf6 cf7 cg0 cg1 cg2 cg3 cg4 cg5 cg6 cg7;replace Re:=gg Re hb;replace Rf:=gg Rf hb;replace Rg:=gg Rg hb;replace HI:=hid (HI.out.go hb);replace HIM:=hid (HIM.out.go hb);replace B:=gb B hb;clear hI9 hn9 hc9;clear hb)
  | (refine new_row rfl 38 (.tmp 21) (.tmp 87) rfl rfl #[.string ⟨#[]⟩,.int .u32 0,.int .u8 0,.int .u16 0,.int .u32 0,.int .u32 0,.string ⟨#[]⟩,.slice E4 0 e4] rfl rfl (by kernel_rfl) rfl (row8 _ _ _ _ _ _ _ _ _ _) ?_;intro w9 M;replace Re:=gg Re M.2.1;replace Rf:=gg Rf M.2.1;replace Rg:=gg Rg M.2.1;replace HI:=hid (HI.out.go M.2.1);replace HIM:=hid (HIM.out.go M.2.1);replace HIK:=hid (HIK.out.go M.2.1);replace B:=gb B M.2.1;have Rh:=hid M.1;clear M)
  | (go_at_call 15;refine (same_T (w:=w9) HIK.out HI.out).mono ?_;rintro e w10 ⟨rfl,hb⟩;replace Re:=gg Re hb;replace Rf:=gg Rf hb;replace Rg:=gg Rg hb;replace Rh:=gg Rh hb;replace HI:=hid (HI.out.go hb);replace HIM:=hid (HIM.out.go hb);replace HIK:=hid (HIK.out.go hb);replace B:=gb B hb;obtain⟨cf0,cf1,cf2,cf3,cf4,cf5,cf6,cf7⟩:=cl8 Rf.out;clear hb))
 go_ret
 exact⟨rfl,B.out⟩
set_option maxHeartbeats 4000000 in
theorem hard_W {p r d:ByteArray}{q:Nat}(hI:ItA w A n L) (hc:n≤c) (hcm:c≤maxLen) (hn:n≤1048576) (hp:p.size≤1048576) (hr:r.size≤1048576) (hq:q<4294967296) (hd:d.size≤1048576) (h0:dX L (oH p r)=0) (hk:∃ i n,dT L (oU p)={ zTd with i:=i,n:=n }∧n.K=2) (h3:dX (aft L (oH p r)) (oW p q d)≠0):Calls Tryz.prog 7 #[.slice A n c,.string p,.string r,.int .u32 q,.string d] w fun e w'=>e=.returned (.bool true)∧Below w.heap.size w w':=by
 have hlL:L.length≤1048576:=by have:=hI.1;omega
 obtain⟨i,nn,k1,k2,k3,k4,k5,k6,k7,k8,k9⟩:=hard_all h0
 obtain⟨nK,nM,nL,nS,nT⟩:=nn
 dsimp only at k1 k4 k9
 obtain⟨l1,hl1⟩:∃ l,nL+1=l:=⟨_,rfl⟩
 rw [hl1] at k4
 have hsub:IntKind.u32.wrap ((l1:Int)-(nL:Int))=1:=by
  rw [← hl1,show ((nL+1:Nat):Int)-(nL:Int)=((1:Nat):Int) by omega]
  exact w32h (by decide)
 have C1:=hid (fun (w:World) (A:Option Addr) (n c:Nat) (hI:ItA w A n (L)) (hc:n≤c) (hcm:c≤maxLen)=>af0 (o:=oH p r) (L:=L) (L':=aft L (oH p r)) (d:=zTd) (x:=0) hI hc hcm ⟨show (4:Nat)<256 by decide,show (0:Nat)<65536 by decide,show (0:Nat)<4294967296 by decide,show (0:Nat)<4294967296 by decide,hp,hr,show (0:Nat)≤1048576 by decide⟩ h0 rfl (dT_ch oH_t) (by omega) rfl)
 rw [show vOp (oH p r)=.agg #[.int .u8 4,.string p,.string r,.int .u16 0,.int .u32 0,.int .u32 0,.string ⟨#[]⟩] from rfl] at C1
 generalize aft L (oH p r)=M at *
 obtain⟨i9,n9,hk1,hk2⟩:=hk
 have h2:nK=2:=by
  rw [k6] at hk1
  have e9:(⟨nK,nM,nL,nS,nT⟩:In)=n9:=congrArg Td.n hk1
  rw [← e9] at hk2
  exact hk2
 clear hk1 hk2
 obtain⟨t1,t2⟩:=k9 h2
 subst h2
 have C2:=hid (fun (w:World) (A:Option Addr) (n c:Nat) (hI:ItA w A n (M)) (hc:n≤c) (hcm:c≤maxLen)=>af0 (o:=oU r) (L:=M) (L':=M) (d:={ zTd with i:=i,n:=⟨2,nM,l1,nS,nT⟩ }) (x:=0) hI hc hcm ⟨show (11:Nat)<256 by decide,show (0:Nat)<65536 by decide,show (0:Nat)<4294967296 by decide,show (1:Nat)<4294967296 by decide,hr,show (0:Nat)≤1048576 by decide,show (0:Nat)≤1048576 by decide⟩ k3 (aft_tl oU_t) k4 (by omega) rfl)
 rw [show vOp (oU r)=.agg #[.int .u8 11,.string r,.string ⟨#[]⟩,.int .u16 0,.int .u32 0,.int .u32 1,.string ⟨#[]⟩] from rfl] at C2
 have C3:=hid (fun (w:World) (A:Option Addr) (n c:Nat) (hI:ItA w A n (L)) (hc:n≤c) (hcm:c≤maxLen)=>af0 (o:=oU p) (L:=L) (L':=L) (d:={ zTd with i:=i,n:=⟨2,nM,nL,nS,nT⟩ }) (x:=0) hI hc hcm ⟨show (11:Nat)<256 by decide,show (0:Nat)<65536 by decide,show (0:Nat)<4294967296 by decide,show (1:Nat)<4294967296 by decide,hp,show (0:Nat)≤1048576 by decide,show (0:Nat)≤1048576 by decide⟩ k5 (aft_tl oU_t) k6 (by omega) rfl)
 rw [show vOp (oU p)=.agg #[.int .u8 11,.string p,.string ⟨#[]⟩,.int .u16 0,.int .u32 0,.int .u32 1,.string ⟨#[]⟩] from rfl] at C3
 have C4:=hid (fun (w:World) (A:Option Addr) (n c:Nat) (hI:ItA w A n (M)) (hc:n≤c) (hcm:c≤maxLen)=>af0 (o:=oV r) (L:=M) (L':=L) (d:=zTd) (x:=0) hI hc hcm ⟨show (9:Nat)<256 by decide,show (0:Nat)<65536 by decide,show (0:Nat)<4294967296 by decide,show (0:Nat)<4294967296 by decide,hr,show (0:Nat)≤1048576 by decide,show (0:Nat)≤1048576 by decide⟩ k7 k8 (dT_ch oV_t) (by omega) rfl)
 rw [show vOp (oV r)=.agg #[.int .u8 9,.string r,.string ⟨#[]⟩,.int .u16 0,.int .u32 0,.int .u32 0,.string ⟨#[]⟩] from rfl] at C4
 have hbw:=w32h (n:=d.size) (by omega)
 have C5:=hid (fun (w:World) (A:Option Addr) (n c:Nat) (hI:ItA w A n (M)) (hc:n≤c) (hcm:c≤maxLen)=>af0 (o:=oW p q d) (L:=M) (L':=M) (d:=zTd) (x:=dX M (oW p q d)) hI hc hcm ⟨show (6:Nat)<256 by decide,show (0:Nat)<65536 by decide,hq,show (0:Nat)<4294967296 by decide,hp,show (0:Nat)≤1048576 by decide,hd⟩ rfl (aft_no h3) (dT_ch oW_t) (by omega) rfl)
 rw [show vOp (oW p q d)=.agg #[.int .u8 6,.string p,.string ⟨#[]⟩,.int .u16 0,.int .u32 q,.int .u32 0,.string d] from rfl] at C5
 have C6:=hid (fun (w:World) (A:Option Addr) (n c:Nat) (hI:ItA w A n (M)) (hc:n≤c) (hcm:c≤maxLen)=>af (o:=oE r q d.size) (L:=M) (L':=M) (d:=dT M (oE r q d.size)) (x:=dX M (oE r q d.size)) hI hc hcm ⟨show (5:Nat)<256 by decide,show (0:Nat)<65536 by decide,hq,(show d.size<4294967296 by omega),hr,show (0:Nat)≤1048576 by decide,show (0:Nat)≤1048576 by decide⟩ rfl (aft_tl oE_t) rfl (by omega))
 rw [show vOp (oE r q d.size)=.agg #[.int .u8 5,.string r,.string ⟨#[]⟩,.int .u16 0,.int .u32 q,.int .u32 d.size,.string ⟨#[]⟩] from rfl] at C6
 have e3:=ne0 h3
 generalize dX M (oW p q d)=x5 at *
 generalize dX M (oE r q d.size)=x6 at C6
 generalize dT M (oE r q d.size)=d6 at C6
 clear k1 k2 k3 k4 k5 k6 k7 k8 hl1 t1 t2 h3 k9
 have HI:=hid hI
 have HN:=hid (And.intro hc hcm)
 clear hI hc hcm hn hp hr hq hd hlL h0
 go_enter Tryz.func7,Tryz.ntmps7
 go_wp2_with fail
 have B:=hid (Below.refl w.heap.size w)
 refine (lives_any w).mono ?_
 rintro e w1 ⟨rfl,hb⟩
 replace HI:=hid (HI.out.go hb)
 replace B:=gb B hb
 clear hb
 go_wp2_with (first
  | (go_at_call 14;refine (C1.out w1 A n c HI.out HN.out.1 HN.out.2).mono ?_;rintro e w2 ⟨A1,n1,c1,E1,e1,rfl,hn9,hc9,hI9,hb⟩;have HIM:=hid hI9;have HNM:=hid (And.intro hn9 hc9);replace HI:=hid (HI.out.go hb);replace B:=gb B hb;clear hI9 hn9 hc9;clear hb)
  | (refine new_row rfl 38 (.tmp 12) (.tmp 38) rfl rfl #[.string ⟨#[]⟩,.int .u32 0,.int .u8 0,.int .u16 0,.int .u32 0,.int .u32 0,.string ⟨#[]⟩,.slice E1 0 e1] rfl rfl (by kernel_rfl) rfl (row8 _ _ _ _ _ _ _ _ _ _) ?_;intro w3 M;replace HI:=hid (HI.out.go M.2.1);replace HIM:=hid (HIM.out.go M.2.1);replace B:=gb B M.2.1;have Re:=hid M.1;clear M)
  | (go_at_call 14;refine (C2.out w3 A1 n1 c1 HIM.out HNM.out.1 HNM.out.2).mono ?_;rintro e w4 ⟨A2,n2,c2,E2,e2,rfl,hn9,hc9,hI9,hb⟩;replace Re:=gg Re hb;replace HI:=hid (HI.out.go hb);replace HIM:=hid (HIM.out.go hb);replace B:=gb B hb;clear hI9 hn9 hc9;clear hb)
  | (refine new_row rfl 38 (.tmp 15) (.tmp 48) rfl rfl #[.string ⟨#[]⟩,.int .u32 i,.int .u8 2,.int .u16 nM,.int .u32 l1,.int .u32 nS,.string nT,.slice E2 0 e2] rfl rfl (by kernel_rfl) rfl (row8 _ _ _ _ _ _ _ _ _ _) ?_;intro w5 M;replace Re:=gg Re M.2.1;replace HI:=hid (HI.out.go M.2.1);replace HIM:=hid (HIM.out.go M.2.1);replace B:=gb B M.2.1;have Rf:=hid M.1;clear M)
  | (go_at_call 14;refine (C3.out w5 A n c HI.out HN.out.1 HN.out.2).mono ?_;rintro e w6 ⟨A3,n3,c3,E3,e3,rfl,hn9,hc9,hI9,hb⟩;replace Re:=gg Re hb;replace Rf:=gg Rf hb;replace HI:=hid (HI.out.go hb);replace HIM:=hid (HIM.out.go hb);replace B:=gb B hb;clear hI9 hn9 hc9;obtain⟨cf0,cf1,cf2,cf3,cf4,cf5,cf6,cf7⟩:=cl8 Rf.out;clear hb)
  | (refine new_row rfl 38 (.tmp 18) (.tmp 56) rfl rfl #[.string ⟨#[]⟩,.int .u32 i,.int .u8 2,.int .u16 nM,.int .u32 nL,.int .u32 nS,.string nT,.slice E3 0 e3] rfl rfl (by kernel_rfl) rfl (row8 _ _ _ _ _ _ _ _ _ _) ?_;intro w7 M;clear cf0 cf1 cf2 cf3 cf4 cf5 cf6 cf7;replace Re:=gg Re M.2.1;replace Rf:=gg Rf M.2.1;replace HI:=hid (HI.out.go M.2.1);replace HIM:=hid (HIM.out.go M.2.1);replace B:=gb B M.2.1;have Rg:=hid M.1;obtain⟨cf0,cf1,cf2,cf3,cf4,cf5,cf6,cf7⟩:=cl8 Rf.out;obtain⟨cg0,cg1,cg2,cg3,cg4,cg5,cg6,cg7⟩:=cl8 Rg.out;clear M)
  | (go_at_call 14;refine (C4.out w7 A1 n1 c1 HIM.out HNM.out.1 HNM.out.2).mono ?_;rintro e w8 ⟨A4,n4,c4,E4,e4,rfl,hn9,hc9,hI9,hb⟩;have HIK:=hid hI9;have HNK:=hid (And.intro hn9 hc9);clear cf0 cf1 cf2 cf3 cf4 cf5 cf6 cf7 cg0 cg1 cg2 cg3 cg4 cg5 cg6 cg7;replace Re:=gg Re hb;replace Rf:=gg Rf hb;replace Rg:=gg Rg hb;replace HI:=hid (HI.out.go hb);replace HIM:=hid (HIM.out.go hb);replace B:=gb B hb;clear hI9 hn9 hc9;clear hb)
  | (refine new_row rfl 38 (.tmp 21) (.tmp 87) rfl rfl #[.string ⟨#[]⟩,.int .u32 0,.int .u8 0,.int .u16 0,.int .u32 0,.int .u32 0,.string ⟨#[]⟩,.slice E4 0 e4] rfl rfl (by kernel_rfl) rfl (row8 _ _ _ _ _ _ _ _ _ _) ?_;intro w9 M;replace Re:=gg Re M.2.1;replace Rf:=gg Rf M.2.1;replace Rg:=gg Rg M.2.1;replace HI:=hid (HI.out.go M.2.1);replace HIM:=hid (HIM.out.go M.2.1);replace HIK:=hid (HIK.out.go M.2.1);replace B:=gb B M.2.1;have Rh:=hid M.1;clear M)
  | (go_at_call 15;refine (same_T (w:=w9) HIK.out HI.out).mono ?_;rintro e w10 ⟨rfl,hb⟩;replace Re:=gg Re hb;replace Rf:=gg Rf hb;replace Rg:=gg Rg hb;replace Rh:=gg Rh hb;replace HI:=hid (HI.out.go hb);replace HIM:=hid (HIM.out.go hb);replace HIK:=hid (HIK.out.go hb);replace B:=gb B hb;obtain⟨cf0,cf1,cf2,cf3,cf4,cf5,cf6,cf7⟩:=cl8 Rf.out;clear hb)
  | (go_at_call 14;refine (C5.out w10 A1 n1 c1 HIM.out HNM.out.1 HNM.out.2).mono ?_;rintro e w11 ⟨A5,n5,c5,E5,e5,rfl,hn9,hc9,hI9,hb⟩;have HIX:=hid hI9;have HNX:=hid (And.intro hn9 hc9);clear cf0 cf1 cf2 cf3 cf4 cf5 cf6 cf7;replace Re:=gg Re hb;replace Rf:=gg Rf hb;replace Rg:=gg Rg hb;replace Rh:=gg Rh hb;replace HI:=hid (HI.out.go hb);replace HIM:=hid (HIM.out.go hb);replace HIK:=hid (HIK.out.go hb);replace B:=gb B hb;clear hI9 hn9 hc9;clear hb)
  | (refine new_row rfl 38 (.tmp 24) (.tmp 109) rfl rfl #[.string ⟨#[]⟩,.int .u32 0,.int .u8 0,.int .u16 0,.int .u32 0,.int .u32 0,.string ⟨#[]⟩,.slice E5 0 e5] rfl rfl (by kernel_rfl) rfl (row8 _ _ _ _ _ _ _ _ _ _) ?_;intro w12 M;replace Re:=gg Re M.2.1;replace Rf:=gg Rf M.2.1;replace Rg:=gg Rg M.2.1;replace Rh:=gg Rh M.2.1;replace HI:=hid (HI.out.go M.2.1);replace HIM:=hid (HIM.out.go M.2.1);replace HIK:=hid (HIK.out.go M.2.1);replace HIX:=hid (HIX.out.go M.2.1);replace B:=gb B M.2.1;have Rx:=hid M.1;clear M)
  | (go_at_call 14;refine (C6.out w12 A5 n5 c5 HIX.out HNX.out.1 HNX.out.2).mono ?_;rintro e w13 ⟨A6,n6,c6,E6,m6,e6,rfl,hm9,hn9,hc9,hI9,hl9,hb⟩;replace Re:=gg Re hb;replace Rf:=gg Rf hb;replace Rg:=gg Rg hb;replace Rh:=gg Rh hb;replace Rx:=gg Rx hb;replace HI:=hid (HI.out.go hb);replace HIM:=hid (HIM.out.go hb);replace HIK:=hid (HIK.out.go hb);replace HIX:=hid (HIX.out.go hb);replace B:=gb B hb;clear hI9 hn9 hc9;clear hm9 hl9;clear hb)
  | (refine new_row rfl 38 (.tmp 27) (.tmp 121) rfl rfl #[.string d6.s,.int .u32 d6.i,.int .u8 d6.n.K,.int .u16 d6.n.M,.int .u32 d6.n.L,.int .u32 d6.n.S,.string d6.n.T,.slice E6 m6 e6] rfl rfl (by kernel_rfl) rfl (row8 _ _ _ _ _ _ _ _ _ _) ?_;intro w14 M;replace Re:=gg Re M.2.1;replace Rf:=gg Rf M.2.1;replace Rg:=gg Rg M.2.1;replace Rh:=gg Rh M.2.1;replace Rx:=gg Rx M.2.1;replace HI:=hid (HI.out.go M.2.1);replace HIM:=hid (HIM.out.go M.2.1);replace HIK:=hid (HIK.out.go M.2.1);replace HIX:=hid (HIX.out.go M.2.1);replace B:=gb B M.2.1;have Ry:=hid M.1;obtain⟨cy0,cy1,cy2,cy3,cy4,cy5,cy6,cy7⟩:=cl8 Ry.out;clear M))
 go_ret
 exact⟨rfl,B.out⟩
set_option maxHeartbeats 4000000 in
theorem hard_D {p r d:ByteArray}{q:Nat}(hI:ItA w A n L) (hc:n≤c) (hcm:c≤maxLen) (hn:n≤1048576) (hp:p.size≤1048576) (hr:r.size≤1048576) (hq:q<4294967296) (hd:d.size≤1048576) (h0:dX L (oH p r)=0) (hk:∃ i n,dT L (oU p)={ zTd with i:=i,n:=n }∧n.K=2) (h3:dX (aft L (oH p r)) (oW p q d)=0):Calls Tryz.prog 7 #[.slice A n c,.string p,.string r,.int .u32 q,.string d] w fun e w'=>e=.returned (.bool true)∧Below w.heap.size w w':=by
 have hlL:L.length≤1048576:=by have:=hI.1;omega
 obtain⟨i,nn,k1,k2,k3,k4,k5,k6,k7,k8,k9⟩:=hard_all h0
 obtain⟨nK,nM,nL,nS,nT⟩:=nn
 dsimp only at k1 k4 k9
 obtain⟨l1,hl1⟩:∃ l,nL+1=l:=⟨_,rfl⟩
 rw [hl1] at k4
 have hsub:IntKind.u32.wrap ((l1:Int)-(nL:Int))=1:=by
  rw [← hl1,show ((nL+1:Nat):Int)-(nL:Int)=((1:Nat):Int) by omega]
  exact w32h (by decide)
 have C1:=hid (fun (w:World) (A:Option Addr) (n c:Nat) (hI:ItA w A n (L)) (hc:n≤c) (hcm:c≤maxLen)=>af0 (o:=oH p r) (L:=L) (L':=aft L (oH p r)) (d:=zTd) (x:=0) hI hc hcm ⟨show (4:Nat)<256 by decide,show (0:Nat)<65536 by decide,show (0:Nat)<4294967296 by decide,show (0:Nat)<4294967296 by decide,hp,hr,show (0:Nat)≤1048576 by decide⟩ h0 rfl (dT_ch oH_t) (by omega) rfl)
 rw [show vOp (oH p r)=.agg #[.int .u8 4,.string p,.string r,.int .u16 0,.int .u32 0,.int .u32 0,.string ⟨#[]⟩] from rfl] at C1
 generalize aft L (oH p r)=M at *
 obtain⟨i9,n9,hk1,hk2⟩:=hk
 have h2:nK=2:=by
  rw [k6] at hk1
  have e9:(⟨nK,nM,nL,nS,nT⟩:In)=n9:=congrArg Td.n hk1
  rw [← e9] at hk2
  exact hk2
 clear hk1 hk2
 obtain⟨t1,t2⟩:=k9 h2
 subst h2
 have C2:=hid (fun (w:World) (A:Option Addr) (n c:Nat) (hI:ItA w A n (M)) (hc:n≤c) (hcm:c≤maxLen)=>af0 (o:=oU r) (L:=M) (L':=M) (d:={ zTd with i:=i,n:=⟨2,nM,l1,nS,nT⟩ }) (x:=0) hI hc hcm ⟨show (11:Nat)<256 by decide,show (0:Nat)<65536 by decide,show (0:Nat)<4294967296 by decide,show (1:Nat)<4294967296 by decide,hr,show (0:Nat)≤1048576 by decide,show (0:Nat)≤1048576 by decide⟩ k3 (aft_tl oU_t) k4 (by omega) rfl)
 rw [show vOp (oU r)=.agg #[.int .u8 11,.string r,.string ⟨#[]⟩,.int .u16 0,.int .u32 0,.int .u32 1,.string ⟨#[]⟩] from rfl] at C2
 have C3:=hid (fun (w:World) (A:Option Addr) (n c:Nat) (hI:ItA w A n (L)) (hc:n≤c) (hcm:c≤maxLen)=>af0 (o:=oU p) (L:=L) (L':=L) (d:={ zTd with i:=i,n:=⟨2,nM,nL,nS,nT⟩ }) (x:=0) hI hc hcm ⟨show (11:Nat)<256 by decide,show (0:Nat)<65536 by decide,show (0:Nat)<4294967296 by decide,show (1:Nat)<4294967296 by decide,hp,show (0:Nat)≤1048576 by decide,show (0:Nat)≤1048576 by decide⟩ k5 (aft_tl oU_t) k6 (by omega) rfl)
 rw [show vOp (oU p)=.agg #[.int .u8 11,.string p,.string ⟨#[]⟩,.int .u16 0,.int .u32 0,.int .u32 1,.string ⟨#[]⟩] from rfl] at C3
 have C4:=hid (fun (w:World) (A:Option Addr) (n c:Nat) (hI:ItA w A n (M)) (hc:n≤c) (hcm:c≤maxLen)=>af0 (o:=oV r) (L:=M) (L':=L) (d:=zTd) (x:=0) hI hc hcm ⟨show (9:Nat)<256 by decide,show (0:Nat)<65536 by decide,show (0:Nat)<4294967296 by decide,show (0:Nat)<4294967296 by decide,hr,show (0:Nat)≤1048576 by decide,show (0:Nat)≤1048576 by decide⟩ k7 k8 (dT_ch oV_t) (by omega) rfl)
 rw [show vOp (oV r)=.agg #[.int .u8 9,.string r,.string ⟨#[]⟩,.int .u16 0,.int .u32 0,.int .u32 0,.string ⟨#[]⟩] from rfl] at C4
 have hbw:=w32h (n:=d.size) (by omega)
 obtain⟨j1,j2,j3,j4⟩:=write_2 (p2:=r) h3 t1 t2
 have C5:=hid (fun (w:World) (A:Option Addr) (n c:Nat) (hI:ItA w A n (M)) (hc:n≤c) (hcm:c≤maxLen)=>af0 (o:=oW p q d) (L:=M) (L':=aft M (oW p q d)) (d:=zTd) (x:=0) hI hc hcm ⟨show (6:Nat)<256 by decide,show (0:Nat)<65536 by decide,hq,show (0:Nat)<4294967296 by decide,hp,show (0:Nat)≤1048576 by decide,hd⟩ h3 rfl (dT_ch oW_t) (by omega) rfl)
 rw [show vOp (oW p q d)=.agg #[.int .u8 6,.string p,.string ⟨#[]⟩,.int .u16 0,.int .u32 q,.int .u32 0,.string d] from rfl] at C5
 generalize aft M (oW p q d)=X at *
 have C6:=hid (fun (w:World) (A:Option Addr) (n c:Nat) (hI:ItA w A n (X)) (hc:n≤c) (hcm:c≤maxLen)=>af0 (o:=oE r q d.size) (L:=X) (L':=X) (d:={ zTd with s:=d }) (x:=0) hI hc hcm ⟨show (5:Nat)<256 by decide,show (0:Nat)<65536 by decide,hq,(show d.size<4294967296 by omega),hr,show (0:Nat)≤1048576 by decide,show (0:Nat)≤1048576 by decide⟩ j2 (aft_tl oE_t) j3 (by omega) rfl)
 rw [show vOp (oE r q d.size)=.agg #[.int .u8 5,.string r,.string ⟨#[]⟩,.int .u16 0,.int .u32 q,.int .u32 d.size,.string ⟨#[]⟩] from rfl] at C6
 clear j1 j2 j3 j4
 clear k1 k2 k3 k4 k5 k6 k7 k8 hl1 t1 t2 h3 k9
 have HI:=hid hI
 have HN:=hid (And.intro hc hcm)
 clear hI hc hcm hn hp hr hq hd hlL h0
 go_enter Tryz.func7,Tryz.ntmps7
 go_wp2_with fail
 have B:=hid (Below.refl w.heap.size w)
 refine (lives_any w).mono ?_
 rintro e w1 ⟨rfl,hb⟩
 replace HI:=hid (HI.out.go hb)
 replace B:=gb B hb
 clear hb
 go_wp2_with (first
  | (go_at_call 14;refine (C1.out w1 A n c HI.out HN.out.1 HN.out.2).mono ?_;rintro e w2 ⟨A1,n1,c1,E1,e1,rfl,hn9,hc9,hI9,hb⟩;have HIM:=hid hI9;have HNM:=hid (And.intro hn9 hc9);replace HI:=hid (HI.out.go hb);replace B:=gb B hb;clear hI9 hn9 hc9;clear hb)
  | (refine new_row rfl 38 (.tmp 12) (.tmp 38) rfl rfl #[.string ⟨#[]⟩,.int .u32 0,.int .u8 0,.int .u16 0,.int .u32 0,.int .u32 0,.string ⟨#[]⟩,.slice E1 0 e1] rfl rfl (by kernel_rfl) rfl (row8 _ _ _ _ _ _ _ _ _ _) ?_;intro w3 M;replace HI:=hid (HI.out.go M.2.1);replace HIM:=hid (HIM.out.go M.2.1);replace B:=gb B M.2.1;have Re:=hid M.1;clear M)
  | (go_at_call 14;refine (C2.out w3 A1 n1 c1 HIM.out HNM.out.1 HNM.out.2).mono ?_;rintro e w4 ⟨A2,n2,c2,E2,e2,rfl,hn9,hc9,hI9,hb⟩;replace Re:=gg Re hb;replace HI:=hid (HI.out.go hb);replace HIM:=hid (HIM.out.go hb);replace B:=gb B hb;clear hI9 hn9 hc9;clear hb)
  | (refine new_row rfl 38 (.tmp 15) (.tmp 48) rfl rfl #[.string ⟨#[]⟩,.int .u32 i,.int .u8 2,.int .u16 nM,.int .u32 l1,.int .u32 nS,.string nT,.slice E2 0 e2] rfl rfl (by kernel_rfl) rfl (row8 _ _ _ _ _ _ _ _ _ _) ?_;intro w5 M;replace Re:=gg Re M.2.1;replace HI:=hid (HI.out.go M.2.1);replace HIM:=hid (HIM.out.go M.2.1);replace B:=gb B M.2.1;have Rf:=hid M.1;clear M)
  | (go_at_call 14;refine (C3.out w5 A n c HI.out HN.out.1 HN.out.2).mono ?_;rintro e w6 ⟨A3,n3,c3,E3,e3,rfl,hn9,hc9,hI9,hb⟩;replace Re:=gg Re hb;replace Rf:=gg Rf hb;replace HI:=hid (HI.out.go hb);replace HIM:=hid (HIM.out.go hb);replace B:=gb B hb;clear hI9 hn9 hc9;obtain⟨cf0,cf1,cf2,cf3,cf4,cf5,cf6,cf7⟩:=cl8 Rf.out;clear hb)
  | (refine new_row rfl 38 (.tmp 18) (.tmp 56) rfl rfl #[.string ⟨#[]⟩,.int .u32 i,.int .u8 2,.int .u16 nM,.int .u32 nL,.int .u32 nS,.string nT,.slice E3 0 e3] rfl rfl (by kernel_rfl) rfl (row8 _ _ _ _ _ _ _ _ _ _) ?_;intro w7 M;clear cf0 cf1 cf2 cf3 cf4 cf5 cf6 cf7;replace Re:=gg Re M.2.1;replace Rf:=gg Rf M.2.1;replace HI:=hid (HI.out.go M.2.1);replace HIM:=hid (HIM.out.go M.2.1);replace B:=gb B M.2.1;have Rg:=hid M.1;obtain⟨cf0,cf1,cf2,cf3,cf4,cf5,cf6,cf7⟩:=cl8 Rf.out;obtain⟨cg0,cg1,cg2,cg3,cg4,cg5,cg6,cg7⟩:=cl8 Rg.out;clear M)
  | (go_at_call 14;refine (C4.out w7 A1 n1 c1 HIM.out HNM.out.1 HNM.out.2).mono ?_;rintro e w8 ⟨A4,n4,c4,E4,e4,rfl,hn9,hc9,hI9,hb⟩;have HIK:=hid hI9;have HNK:=hid (And.intro hn9 hc9);clear cf0 cf1 cf2 cf3 cf4 cf5 cf6 cf7 cg0 cg1 cg2 cg3 cg4 cg5 cg6 cg7;replace Re:=gg Re hb;replace Rf:=gg Rf hb;replace Rg:=gg Rg hb;replace HI:=hid (HI.out.go hb);replace HIM:=hid (HIM.out.go hb);replace B:=gb B hb;clear hI9 hn9 hc9;clear hb)
  | (refine new_row rfl 38 (.tmp 21) (.tmp 87) rfl rfl #[.string ⟨#[]⟩,.int .u32 0,.int .u8 0,.int .u16 0,.int .u32 0,.int .u32 0,.string ⟨#[]⟩,.slice E4 0 e4] rfl rfl (by kernel_rfl) rfl (row8 _ _ _ _ _ _ _ _ _ _) ?_;intro w9 M;replace Re:=gg Re M.2.1;replace Rf:=gg Rf M.2.1;replace Rg:=gg Rg M.2.1;replace HI:=hid (HI.out.go M.2.1);replace HIM:=hid (HIM.out.go M.2.1);replace HIK:=hid (HIK.out.go M.2.1);replace B:=gb B M.2.1;have Rh:=hid M.1;clear M)
  | (go_at_call 15;refine (same_T (w:=w9) HIK.out HI.out).mono ?_;rintro e w10 ⟨rfl,hb⟩;replace Re:=gg Re hb;replace Rf:=gg Rf hb;replace Rg:=gg Rg hb;replace Rh:=gg Rh hb;replace HI:=hid (HI.out.go hb);replace HIM:=hid (HIM.out.go hb);replace HIK:=hid (HIK.out.go hb);replace B:=gb B hb;obtain⟨cf0,cf1,cf2,cf3,cf4,cf5,cf6,cf7⟩:=cl8 Rf.out;clear hb)
  | (go_at_call 14;refine (C5.out w10 A1 n1 c1 HIM.out HNM.out.1 HNM.out.2).mono ?_;rintro e w11 ⟨A5,n5,c5,E5,e5,rfl,hn9,hc9,hI9,hb⟩;have HIX:=hid hI9;have HNX:=hid (And.intro hn9 hc9);clear cf0 cf1 cf2 cf3 cf4 cf5 cf6 cf7;replace Re:=gg Re hb;replace Rf:=gg Rf hb;replace Rg:=gg Rg hb;replace Rh:=gg Rh hb;replace HI:=hid (HI.out.go hb);replace HIM:=hid (HIM.out.go hb);replace HIK:=hid (HIK.out.go hb);replace B:=gb B hb;clear hI9 hn9 hc9;clear hb)
  | (refine new_row rfl 38 (.tmp 24) (.tmp 109) rfl rfl #[.string ⟨#[]⟩,.int .u32 0,.int .u8 0,.int .u16 0,.int .u32 0,.int .u32 0,.string ⟨#[]⟩,.slice E5 0 e5] rfl rfl (by kernel_rfl) rfl (row8 _ _ _ _ _ _ _ _ _ _) ?_;intro w12 M;replace Re:=gg Re M.2.1;replace Rf:=gg Rf M.2.1;replace Rg:=gg Rg M.2.1;replace Rh:=gg Rh M.2.1;replace HI:=hid (HI.out.go M.2.1);replace HIM:=hid (HIM.out.go M.2.1);replace HIK:=hid (HIK.out.go M.2.1);replace HIX:=hid (HIX.out.go M.2.1);replace B:=gb B M.2.1;have Rx:=hid M.1;clear M)
  | (go_at_call 14;refine (C6.out w12 A5 n5 c5 HIX.out HNX.out.1 HNX.out.2).mono ?_;rintro e w13 ⟨A6,n6,c6,E6,e6,rfl,hn9,hc9,hI9,hb⟩;replace Re:=gg Re hb;replace Rf:=gg Rf hb;replace Rg:=gg Rg hb;replace Rh:=gg Rh hb;replace Rx:=gg Rx hb;replace HI:=hid (HI.out.go hb);replace HIM:=hid (HIM.out.go hb);replace HIK:=hid (HIK.out.go hb);replace HIX:=hid (HIX.out.go hb);replace B:=gb B hb;clear hI9 hn9 hc9;clear hb)
  | (refine new_row rfl 38 (.tmp 27) (.tmp 121) rfl rfl #[.string d,.int .u32 0,.int .u8 0,.int .u16 0,.int .u32 0,.int .u32 0,.string ⟨#[]⟩,.slice E6 0 e6] rfl rfl (by kernel_rfl) rfl (row8 _ _ _ _ _ _ _ _ _ _) ?_;intro w14 M;replace Re:=gg Re M.2.1;replace Rf:=gg Rf M.2.1;replace Rg:=gg Rg M.2.1;replace Rh:=gg Rh M.2.1;replace Rx:=gg Rx M.2.1;replace HI:=hid (HI.out.go M.2.1);replace HIM:=hid (HIM.out.go M.2.1);replace HIK:=hid (HIK.out.go M.2.1);replace HIX:=hid (HIX.out.go M.2.1);replace B:=gb B M.2.1;have Ry:=hid M.1;obtain⟨cy0,cy1,cy2,cy3,cy4,cy5,cy6,cy7⟩:=cl8 Ry.out;clear M))
 go_ret
 exact⟨rfl,B.out⟩
theorem filesHard_walk {p r d:ByteArray}{q:Nat}(hI:ItA w A n L) (hc:n≤c) (hcm:c≤maxLen) (hn:n≤1048576) (hp:p.size≤1048576) (hr:r.size≤1048576) (hq:q<4294967296) (hd:d.size≤1048576):Calls Tryz.prog 7 #[.slice A n c,.string p,.string r,.int .u32 q,.string d] w fun e w'=>e=.returned (.bool true)∧Below w.heap.size w w':=by
 by_cases h0:dX L (oH p r)=0
 ·by_cases hk:∃ i n,dT L (oU p)={ zTd with i:=i,n:=n }∧n.K=2
  ·by_cases h3:dX (aft L (oH p r)) (oW p q d)=0
   ·exact hard_D hI hc hcm hn hp hr hq hd h0 hk h3
   ·exact hard_W hI hc hcm hn hp hr hq hd h0 hk h3
  ·exact hard_B hI hc hcm hn hp hr hq hd h0 (fun i n e h2=>hk ⟨i,n,e,h2⟩)
 ·exact hard_X hI hc hcm hn hp hr hq hd h0
end Go.Proofs.YtopepebcnaikiaaGreatDoor.Fi
