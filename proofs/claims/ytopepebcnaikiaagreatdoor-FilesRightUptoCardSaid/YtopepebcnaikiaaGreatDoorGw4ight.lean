import Derived.Test.YtopepebcnaikiaaGreatDoorGb2
import Derived.Test.YtopepebcnaikiaaGreatDoorGb3
import Derived.Test.YtopepebcnaikiaaGreatDoorGb5
import Derived.Test.YtopepebcnaikiaaGreatDoorGw3ight
import Derived.SliceStrings
import Derived.Deep.CutBlock
import Derived.Deep.CutRange
set_option maxRecDepth 100000
set_option maxHeartbeats 20000000
set_option linter.unusedVariables false
set_option linter.unusedSimpArgs false
set_option maxRecDepth 100000
namespace Go.Proofs.YtopepebcnaikiaaGreatDoor.Fi
open Lib (hid)
open Go.ChangeShapes Go.WideShapes Go.ChangeAt Go.RowKit
open BigFrame
open Ar Rg
open Ino
open It (Itm Ch get und app dif rt rc enc er getV get_any under_any apply_any diff_any MkI MkC)
open Di (ItA wlk rgt rgt_iff numOf Vo vo pts lsX lsL up En NmA Walk_any Up MkE List_any New_any L0 encEn encEn_len)
open Ph (nb spX spB laX laD laN)
open Pk (nB nE tN tR tE number_any take_any)
variable {w w' wr:World}{A:Option Addr}{n c:Nat}{L:List Itm}
variable {w w' wr:World}{A:Option Addr}{n c:Nat}{L:List Itm}
end Go.Proofs.YtopepebcnaikiaaGreatDoor.Fi
namespace Go.Proofs.YtopepebcnaikiaaGreatDoor.Fr
open Lib (hid)
open Go.Joins Go.ChangeShapes Go.WideShapes Go.RowKit Go.Deep
open Ar
section
variable {H:Type}{enc:TypeId×Value→H}{w:World}{base:Nat}{spare:Nat→Bool}{held:Bool}
theorem wf_v {k:IntKind}{b:Nat}{z:Int}(hmin:k.min=0) (hmax:k.max=(b:Int)) (h:(Lit.int k z).wf=true):∃ n:Nat,z=n∧n<b+1:=by
 have h1:k.min≤z∧z≤k.max:=by simpa [Lit.wf] using h
 exact⟨z.toNat,by omega,by omega⟩
theorem o32:Tryz.prog.cellsOf 29=1:=by kernel_rfl
theorem o16:Tryz.prog.cellsOf 28=1:=by kernel_rfl
theorem oSt:Tryz.prog.cellsOf 9=1:=by kernel_rfl
theorem oOK:Tryz.prog.cellsOf 27=1:=by kernel_rfl
theorem oOp:Tryz.prog.cellsOf 31=7:=by kernel_rfl
end
open Go.Joins Go.ChangeShapes Go.WideShapes Go.RowKit Go.Deep
open Ar
def OpL:={o:Fi.Op // o.lim}
def encOp (o:OpL):List Value:=[.int .u8 (o.1.K:Nat),.string o.1.P,.string o.1.T,.int .u16 (o.1.M:Nat),.int .u32 (o.1.O:Nat),.int .u32 (o.1.N:Nat),.string o.1.D]
section
variable {H:Type}{enc:TypeId×Value→H}{P:Program}{w:World}{base:Nat}{spare:Nat→Bool}{held:Bool}
theorem open_lb {α:Type}(en:α→List Value) (k:Nat){t e:TypeId}{fuel:Nat}{v:Value}{x:DataW H×List MemPlace}(ht:P.underlying t=some (.slice e)) (hk:P.cellsOf e=k) (hk0:0<k)
  (hr:∀ n cs y,cs.length=k→DataW.trod enc P w base spare held n e cs=some y→Rows.uptoBulk y.1≤1048576→∃ x:α,cs=en x) (hB:Rows.uptoBulk x.1≤1048576) (hv:v.cells=#[v]) (h:DataW.trod enc P w base spare held fuel t v.cells.toList=some x) :
  (v=.slice none 0 0∧x.1=.nil)∨∃ A n c m D,v=.slice A n c∧n=List.length D∧n≤c∧c≤maxLen∧Ls en k w w.heap.size A D∧∃ E F,x.1=.slice E F∧E.length=n∧E.length+F.length=m:=by
 rw [hv] at h;rcases open_slice ht h with ⟨h1,h2⟩ | ⟨a,len,cap,m,n,D,Pl,hcs,hb,hl,hm,hmm,hx,hi⟩
 ·left;simp at h1;exact⟨h1,by rw [h2]⟩
 ·right;have hlm:len≤m:=by rw [hmm];split<;>omega
  have hBi:∀ i,i<len→Rows.uptoBulk (D i)≤1048576:=fun i hil=>by
   have h1:x.1=.slice ((List.range len).map D) ((List.range (m-len)).map fun j=>D (len+j)):=by rw [hx]
   rw [h1] at hB;simp only [Rows.uptoBulk] at hB;have h2:=bulk_in (d:=D i) (l:=(List.range len).map D) (List.mem_map.2 ⟨i,List.mem_range.2 hil,rfl⟩);omega
  simp at hcs;rw [hk] at hi;obtain⟨L,hL1,hL2⟩:=list_of (α:=α) (p:=fun i x=>∃ b o,(some a:Option Addr)=some ⟨b,o,none⟩∧b<w.heap.size∧w.rangeAt b (o+i*k) (en x)) len fun i hil=>by
   have hspot:a.spot=none:=by
    obtain⟨cs',h1,h2⟩:=hi 0 (by omega);obtain⟨_,hlen,hcell⟩:=World.cells?_some h1;have hc0:=(hcell 0 hk0).trans (List.getElem?_eq_getElem (by omega));rw [add_add,Nat.zero_mul] at hc0;have:=World.cell?_spot hc0;simpa [Addr.add] using this
   obtain⟨cs',h1,h2⟩:=hi i (by omega);obtain⟨_,hlen,hcell⟩:=World.cells?_some h1;obtain⟨x,rfl⟩:=hr _ _ _ hlen h2 (hBi i hil);have hc0:=(hcell 0 hk0).trans (List.getElem?_eq_getElem (by omega));rw [add_add] at hc0;obtain⟨b,o,spot⟩:=a;simp only at hspot;subst hspot;refine⟨x,b,o,rfl,?_,fun j u hu=>?_⟩
   ·have:=World.block_lt_of_cell? w _ hc0;rw [Ar.add_plain] at this;exact this
   ·have hj:j<k:=by rw [← hlen];exact (List.getElem?_eq_some_iff.1 hu).1
    have:=hcell j hj;rw [add_add,Ar.add_plain,← Nat.add_assoc,hu] at this;exact this
  refine⟨some a,len,cap,m,L,hcs,hL1.symm,hl,hm,hL2,(List.range len).map D,(List.range (m-len)).map fun j=>D (len+j),by rw [hx],by simp,?_⟩;simp;omega
end
section
variable {H:Type}{enc:TypeId×Value→H}{w:World}{base:Nat}{spare:Nat→Bool}{held:Bool}
theorem readOp {n:Nat}{l:List Value}{y:DataW H×List MemPlace}(hl:l.length=7) (hf':DataW.trod enc Tryz.prog w base spare held n 31 l=some y) (hB:Rows.uptoBulk y.1≤1048576):∃ o:OpL,l=encOp o:=by
 obtain⟨xs,m,_,hx,_,hxl,hg⟩:=DataW.trod_struct Tryz.underlying31 hf';have g0:DataW.trod enc Tryz.prog w base spare held m 27 ((l.drop 0).take (Tryz.prog.cellsOf 27))=xs[0]?:=hg 0 _ rfl;have g1:DataW.trod enc Tryz.prog w base spare held m 9 ((l.drop 1).take (Tryz.prog.cellsOf 9))=xs[1]?:=hg 1 _ rfl;have g2:DataW.trod enc Tryz.prog w base spare held m 9 ((l.drop 2).take (Tryz.prog.cellsOf 9))=xs[2]?:=hg 2 _ rfl;have g3:DataW.trod enc Tryz.prog w base spare held m 28 ((l.drop 3).take (Tryz.prog.cellsOf 28))=xs[3]?:=hg 3 _ rfl;have g4:DataW.trod enc Tryz.prog w base spare held m 29 ((l.drop 4).take (Tryz.prog.cellsOf 29))=xs[4]?:=hg 4 _ rfl;have g5:DataW.trod enc Tryz.prog w base spare held m 29 ((l.drop 5).take (Tryz.prog.cellsOf 29))=xs[5]?:=hg 5 _ rfl;have g6:DataW.trod enc Tryz.prog w base spare held m 9 ((l.drop 6).take (Tryz.prog.cellsOf 9))=xs[6]?:=hg 6 _ rfl;rw [oOK] at g0;rw [o16] at g3;rw [o32] at g4 g5;rw [oSt] at g1 g2 g6
 match l,hl with
 | [v0,v1,v2,v3,v4,v5,v6],_ =>
  match xs,hxl with
  | [x0,x1,x2,x3,x4,x5,x6],_ =>
   obtain⟨z0,e0,q0,w0⟩:=DataW.trod_int Tryz.underlying27 (g0.trans rfl:_=some x0);obtain⟨s1,e1,q1,_⟩:=DataW.trod_string Tryz.underlying9 (g1.trans rfl:_=some x1);obtain⟨s2,e2,q2,_⟩:=DataW.trod_string Tryz.underlying9 (g2.trans rfl:_=some x2);obtain⟨z3,e3,q3,w3⟩:=DataW.trod_int Tryz.underlying28 (g3.trans rfl:_=some x3);obtain⟨z4,e4,q4,w4⟩:=DataW.trod_int Tryz.underlying29 (g4.trans rfl:_=some x4);obtain⟨z5,e5,q5,w5⟩:=DataW.trod_int Tryz.underlying29 (g5.trans rfl:_=some x5);obtain⟨s6,e6,q6,_⟩:=DataW.trod_string Tryz.underlying9 (g6.trans rfl:_=some x6);obtain⟨k0,rfl,l0⟩:=wf_v (b:=255) rfl rfl w0;obtain⟨k3,rfl,l3⟩:=wf_v (b:=65535) rfl rfl w3;obtain⟨k4,rfl,l4⟩:=wf_v (b:=4294967295) rfl rfl w4;obtain⟨k5,rfl,l5⟩:=wf_v (b:=4294967295) rfl rfl w5;simp at e0 e1 e2 e3 e4 e5 e6;subst e0 e1 e2 e3 e4 e5 e6;have hd2:=congrArg Prod.fst hx;subst q0 q1 q2 q3 q4 q5 q6;have hd3:y.1=.agg [.lit (.int .u8 k0),.lit (.string s1.data.toList),.lit (.string s2.data.toList),.lit (.int .u16 k3),.lit (.int .u32 k4),.lit (.int .u32 k5),.lit (.string s6.data.toList)]:=hd2;rw [hd3] at hB;simp only [Rows.uptoBulk,Rows.uptoBulkAll,Array.length_toList] at hB;have a1:s1.data.size=s1.size:=rfl;have a2:s2.data.size=s2.size:=rfl;have a6:s6.data.size=s6.size:=rfl;exact⟨⟨⟨k0,s1,s2,k3,k4,k5,s6⟩,by show k0<256;omega,by show k3<65536;omega,by show k4<4294967296;omega,by show k5<4294967296;omega,by show s1.size≤1048576;omega,by show s2.size≤1048576;omega,by show s6.size≤1048576;omega⟩,rfl⟩
theorem argOps {v:Value}{d:DataW H}{p:List MemPlace}{ds:List (DataW H)}(hk:Rows.uptoSmall H ds=true) (hd:d∈ds) (h:DataW.Trod enc Tryz.prog w base spare held 23 v d p) (hv:v.cells=#[v]) :
  ∃ A n c D,v=.slice A n c∧n=List.length D∧n≤c∧c≤maxLen∧Ls encOp 7 w w.heap.size A D∧n≤1048576:=by
 have hB:Rows.uptoBulk d≤1048576:=by
  have h1:Rows.uptoBulkAll ds≤1048576:=of_decide_eq_true hk;have:=bulk_in hd;omega
 obtain⟨fuel,hf⟩:=h;rcases open_lb encOp 7 Tryz.underlying23 oOp (by decide) (fun n cs y hl h hb=>readOp hl h hb) hB hv hf with ⟨h1,h2⟩ | ⟨A,n,c,m,D,h1,h2,h3,h4,h5,E,F,h6,h7,_⟩
 ·exact⟨none,0,0,[],h1,rfl,Nat.le_refl _,Nat.zero_le _,Ls.nil,Nat.zero_le _⟩
 ·refine⟨A,n,c,D,h1,h2,h3,h4,h5,?_⟩;have h8:d=.slice E F:=h6;rw [h8] at hB;simp only [Rows.uptoBulk] at hB;have:=bulk_len E;omega
end
end Go.Proofs.YtopepebcnaikiaaGreatDoor.Fr
namespace Go.Proofs.YtopepebcnaikiaaGreatDoor.Fi
open Lib (hid)
open Go.ChangeShapes Go.WideShapes Go.ChangeAt Go.RowKit
open BigFrame
open Ar Rg
open Ino
open It (Itm Ch get und app dif rt rc enc er getV get_any under_any apply_any diff_any MkI MkC)
open Di (ItA wlk rgt rgt_iff numOf Vo vo pts lsX lsL up En NmA Walk_any Up MkE List_any New_any L0 encEn encEn_len)
open Ph (nb spX spB laX laD laN)
open Pk (nB nE tN tR tE number_any take_any)
variable {w w' wr:World}{A:Option Addr}{n c:Nat}{L:List Itm}
theorem do_2 {o:Op}(hI:ItA w A n L) (hc:n≤c) (hcm:c≤maxLen) (ho:o.lim):Calls Tryz.prog 13 #[.slice A n c,vOp o] w fun e w' =>
  ∃ (A1:Option Addr) (m1 c1:Nat) (E1:Option Addr) (m2 e1:Nat) (d:Td),e=.returned (.tuple #[.slice A1 m1 c1,vTd d (.slice E1 m2 e1),.int .i64 (dX L o)])∧(dX L o≠0∨dC L o=[]→m1=0)∧Below w.heap.size w w':=by
 refine (Do_any hI hc hcm o ho).mono ?_;rintro e w' ⟨v,ev,rfl,h1,h2⟩;have hb:=h1.2;obtain⟨A1,c1,hv1,_,_,_⟩:=h1.ls Sc.enc_len;obtain⟨E1,e1,hv2,_,_,_⟩:=h2.ls encEn_len;refine⟨A1,_,c1,E1,_,e1,_,by rw [hv1,hv2],fun h=>?_,hb⟩;rcases h with h | h
 ·rw [if_neg h];rfl
 ·rw [h];split<;>rfl
theorem right_N {ops:List Fr.OpL}{Ao:Option Addr}{no co:Nat}(hI:ItA w A n L) (hc:n≤c) (hcm:c≤maxLen) (hn:n≤1048576) (hO:Ls Fr.encOp 7 w w.heap.size Ao ops) (hno:no=ops.length) (hr:rgt L=false):Calls Tryz.prog 3 #[.slice A n c,.slice Ao no co] w fun e w'=>e=.returned (.bool true)∧Below w.heap.size w w':=by
 have HCK:=hid (fun (w:World) (A:Option Addr) (n c:Nat) (hI:ItA w A n L)=>Di.Check_any c hI);rw [show Di.ckE L=9 from by unfold Di.ckE;rw [hr];rfl] at HCK;have HI:=hid hI;clear hI hc hcm hn hO hno hr
 go_enter Tryz.func3,Tryz.ntmps3
 go_wp2_with fail
 have B:=hid (Below.refl w.heap.size w);refine (lives_any w).mono ?_;rintro e w1 ⟨rfl,hb⟩;replace HI:=hid (HI.out.go hb);replace B:=gb B hb;clear hb
 go_wp2_with (first|(go_at_call 12;refine (HCK.out w1 A n c HI.out).mono ?_;rintro e w2 ⟨rfl,hb⟩;replace HI:=hid (HI.out.go hb);replace B:=gb B hb;clear hb))
 go_ret
 exact⟨rfl,B.out⟩
theorem right_Y {ops:List Fr.OpL}{Ao:Option Addr}{no co:Nat}(hI:ItA w A n L) (hc:n≤c) (hcm:c≤maxLen) (hn:n≤1048576) (hO:Ls Fr.encOp 7 w w.heap.size Ao ops) (hno:no=ops.length) (hr:rgt L=true):Calls Tryz.prog 3 #[.slice A n c,.slice Ao no co] w fun e w'=>e=.returned (.bool true)∧Below w.heap.size w w':=by
 have HCK:=hid (fun (w:World) (A:Option Addr) (n c:Nat) (hI:ItA w A n L)=>Di.Check_any c hI);rw [show Di.ckE L=0 from by unfold Di.ckE;rw [hr];rfl] at HCK;have HI:=hid hI;have HN:=hid (And.intro hc hcm);have HR:=hid hr;have HLL:=hid (show L.length≤1048576 by have:=hI.1;omega);have HO:=hid hO;have HNO:=hid hno;clear hI hc hcm hn hO hno hr
 go_enter Tryz.func3,Tryz.ntmps3
 go_wp2_with fail
 have B:=hid (Below.refl w.heap.size w);refine (lives_any w).mono ?_;rintro e w1 ⟨rfl,hb⟩;replace HI:=hid (HI.out.go hb);replace B:=gb B hb;clear hb
 go_wp2_with (first|(go_at_call 12;refine (HCK.out w1 A n c HI.out).mono ?_;rintro e w2 ⟨rfl,hb⟩;replace HI:=hid (HI.out.go hb);replace B:=gb B hb;clear hb))
 clear HCK
 go_loopw [0,20] (fun lv iv wr=>∃ (k:Nat) (Ak:Option Addr) (nk ck:Nat) (Lk:List Itm),k≤no∧iv=.int .i64 k∧lv=.slice Ak nk ck∧k≤30∧Hid (ItA wr Ak nk Lk)∧Hid (nk≤ck∧ck≤maxLen)∧Hid (rgt Lk=true)∧Hid (Lk.length≤1048576+600*k)∧Hid (Below w.heap.size w wr)) (fun _ iv _=>no-(intOf iv).toNat)
 case atStart=>exact⟨0,A,n,c,L,Nat.zero_le _,by go_num,rfl,by decide,HI.out,HN.out,HR.out,HLL.out,B.out⟩
 case round =>
  obtain⟨k,Ak,nk,ck,Lk,hk,rfl,rfl,hk30,hI,hN,hR,hL,hB⟩:=hrel;clear HI HN HR HLL B;have HI:=hid (Hid.out hI);have HN:=hid (Hid.out hN);have HR:=hid (Hid.out hR);have HL:=hid (Hid.out hL);have B:=hid (Hid.out hB);clear hI hN hR hL hB;by_cases hlt:k<no
  ·obtain⟨x,hx⟩:∃ x,ops[k]?=some x:=⟨_,List.getElem?_eq_getElem (by rw [← HNO.out];exact hlt)⟩;obtain⟨b,o,hAe,hbs,hr⟩:=HO.out k x hx;subst hAe;obtain⟨⟨oK,oP,oT,oM,oO,oN,oD⟩,ho⟩:=x;have hkb:wr.heap[b]?=w.heap[b]?:=B.out.block b hbs;have f0:wr.cell? ⟨b,o+k*7,none⟩=some (.int .u8 (oK:Int)):=(World.cell?_of_block (a:=⟨b,_,none⟩) hkb).trans (hr 0 _ rfl);have f1:wr.cell? ⟨b,o+k*7+1,none⟩=some (.string oP):=(World.cell?_of_block (a:=⟨b,_,none⟩) hkb).trans (hr 1 _ rfl);have f2:wr.cell? ⟨b,o+k*7+2,none⟩=some (.string oT):=(World.cell?_of_block (a:=⟨b,_,none⟩) hkb).trans (hr 2 _ rfl);have f3:wr.cell? ⟨b,o+k*7+3,none⟩=some (.int .u16 (oM:Int)):=(World.cell?_of_block (a:=⟨b,_,none⟩) hkb).trans (hr 3 _ rfl);have f4:wr.cell? ⟨b,o+k*7+4,none⟩=some (.int .u32 (oO:Int)):=(World.cell?_of_block (a:=⟨b,_,none⟩) hkb).trans (hr 4 _ rfl);have f5:wr.cell? ⟨b,o+k*7+5,none⟩=some (.int .u32 (oN:Int)):=(World.cell?_of_block (a:=⟨b,_,none⟩) hkb).trans (hr 5 _ rfl);have f6:wr.cell? ⟨b,o+k*7+6,none⟩=some (.string oD):=(World.cell?_of_block (a:=⟨b,_,none⟩) hkb).trans (hr 6 _ rfl);have HHO:=hid (show Op.lim ⟨oK,oP,oT,oM,oO,oN,oD⟩ from ho);clear hr hx hkb ho;have hal:Below wr.heap.size wr (wr.alloc (.cells #[.int .u8 oK,.string oP,.string oT,.int .u16 oM,.int .u32 oO,.int .u32 oN,.string oD] 31)):=(Below.refl _ _).alloc (Nat.le_refl _) _;have Ro:=hid (Rw.new wr #[.int .u8 oK,.string oP,.string oT,.int .u16 oM,.int .u32 oO,.int .u32 oN,.string oD] 31);replace HI:=hid (HI.out.go hal);replace B:=hid (B.out.trans (hal.mono B.out.size));clear hal;by_cases h30:k=30
   ·subst h30
    go_wp2
    go_ret
    exact⟨rfl,B.out⟩
   ·have e30:((k:Int)==30)=false:=by rw [beq_eq_false_iff_ne];omega
    obtain⟨k1,hk1⟩:∃ k1,k+1=k1:=⟨_,rfl⟩;have HK1:=hid hk1;have HK3:=hid (show k+1≤30 by omega);have HAR:=hid (aft_right HR.out (by have:=HL.out;omega) HHO.out);have HLM:=hid (show (aft Lk ⟨oK,oP,oT,oM,oO,oN,oD⟩).length≤1048576+600*(k+1) by have:=HAR.out.2;have:=HL.out;omega);have HL2:=hid (show (aft Lk ⟨oK,oP,oT,oM,oO,oN,oD⟩).length≤1390000 by have:=HLM.out;omega);clear h30;by_cases hx:dX Lk ⟨oK,oP,oT,oM,oO,oN,oD⟩=0
    ·
     have C2:=hid (fun (w:World) (A:Option Addr) (n c:Nat) (hI:ItA w A n (Lk)) (hc:n≤c) (hcm:c≤maxLen)=>af (o:=⟨oK,oP,oT,oM,oO,oN,oD⟩) (L:=Lk) (L':=aft Lk ⟨oK,oP,oT,oM,oO,oN,oD⟩) (d:=dT Lk ⟨oK,oP,oT,oM,oO,oN,oD⟩) (x:=0) hI hc hcm HHO.out hx rfl rfl HL2.out);rw [show vOp (⟨oK,oP,oT,oM,oO,oN,oD⟩)=.agg #[.int .u8 oK,.string oP,.string oT,.int .u16 oM,.int .u32 oO,.int .u32 oN,.string oD] from rfl] at C2;have C1:=hid (fun (w:World) (A:Option Addr) (n c:Nat) (hI:ItA w A n Lk) (hc:n≤c) (hcm:c≤maxLen)=>do_2 (o:=⟨oK,oP,oT,oM,oO,oN,oD⟩) (L:=Lk) hI hc hcm HHO.out);rw [show vOp ⟨oK,oP,oT,oM,oO,oN,oD⟩=.agg #[.int .u8 oK,.string oP,.string oT,.int .u16 oM,.int .u32 oO,.int .u32 oN,.string oD] from rfl,hx] at C1;have HE:=hid (fun (ht:tells ⟨oK,oP,oT,oM,oO,oN,oD⟩)=>(show (0:Int)≠0∨dC Lk ⟨oK,oP,oT,oM,oO,oN,oD⟩=[] from .inr (dC_tl HR.out ht)));have CK:=hid (fun (w:World) (A:Option Addr) (n c:Nat) (hI:ItA w A n (aft Lk ⟨oK,oP,oT,oM,oO,oN,oD⟩))=>Di.Check_any c hI);rw [show Di.ckE (aft Lk ⟨oK,oP,oT,oM,oO,oN,oD⟩)=0 from by unfold Di.ckE;rw [HAR.out.1];rfl] at CK;generalize aft Lk ⟨oK,oP,oT,oM,oO,oN,oD⟩=M at *;generalize dT Lk ⟨oK,oP,oT,oM,oO,oN,oD⟩=d2 at *;generalize dC Lk ⟨oK,oP,oT,oM,oO,oN,oD⟩=D1 at *;clear hx
     go_wp2_with fail
     generalize wr.alloc (.cells #[.int .u8 oK,.string oP,.string oT,.int .u16 oM,.int .u32 oO,.int .u32 oN,.string oD] 31)=W0 at *;have Go:=hid (Nat.le_refl wr.heap.size);obtain⟨co0,co1,co2,co3,co4,co5,co6⟩:=cl7 Ro.out;refine (C1.out W0 Ak nk ck HI.out HN.out.1 HN.out.2).mono ?_;rintro e w1 ⟨A1,m1,c1,E1,m2,e1,d1,rfl,hm1,hb⟩;have HM1:=hid (fun ht=>hm1 (HE.out ht));clear co0 co1 co2 co3 co4 co5 co6;replace Ro:=gg Ro hb;replace HI:=hid (HI.out.go hb);replace B:=gb B hb;clear hm1;obtain⟨co0,co1,co2,co3,co4,co5,co6⟩:=cl7 Ro.out;clear hb
     go_upto_block 2 with (first|(refine new_row rfl 38 (.tmp 8) (.tmp 32) rfl rfl #[.string d1.s,.int .u32 d1.i,.int .u8 d1.n.K,.int .u16 d1.n.M,.int .u32 d1.n.L,.int .u32 d1.n.S,.string d1.n.T,.slice E1 m2 e1] rfl rfl (by kernel_rfl) rfl (row8 _ _ _ _ _ _ _ _ _ _) ?_;intro w2 M;clear co0 co1 co2 co3 co4 co5 co6;replace Ro:=gg Ro M.2.1;replace HI:=hid (HI.out.go M.2.1);replace B:=gb B M.2.1;have Rt:=hid M.1;obtain⟨co0,co1,co2,co3,co4,co5,co6⟩:=cl7 Ro.out;clear M))
     go_cut [43] from 44 to 50 (fun s43 wx=>Hid (w2=wx))
     case first =>
      by_cases hK:oK=5
      ·have q5:((oK:Int)==5)=true:=by rw [beq_iff_eq];omega
       have hz1:=HM1.out (.inl hK);subst hz1
       go_wp2_with fail
       subst hK
       go_meet
       exact rfl
      by_cases hK:oK=11
      ·have q5:((oK:Int)==5)=false:=by rw [beq_eq_false_iff_ne];omega
       have q11:((oK:Int)==11)=true:=by rw [beq_iff_eq];omega
       have hz1:=HM1.out (.inr (.inl hK));subst hz1
       go_wp2_with fail
       subst hK
       go_meet
       exact rfl
      by_cases hK:oK=12
      ·have q5:((oK:Int)==5)=false:=by rw [beq_eq_false_iff_ne];omega
       have q11:((oK:Int)==11)=false:=by rw [beq_eq_false_iff_ne];omega
       have q12:((oK:Int)==12)=true:=by rw [beq_iff_eq];omega
       have hz1:=HM1.out (.inr (.inr (.inl hK)));subst hz1
       go_wp2_with fail
       subst hK
       go_meet
       exact rfl
      by_cases hK:oK=15
      ·have q5:((oK:Int)==5)=false:=by rw [beq_eq_false_iff_ne];omega
       have q11:((oK:Int)==11)=false:=by rw [beq_eq_false_iff_ne];omega
       have q12:((oK:Int)==12)=false:=by rw [beq_eq_false_iff_ne];omega
       have q15:((oK:Int)==15)=true:=by rw [beq_iff_eq];omega
       have hz1:=HM1.out (.inr (.inr (.inr hK)));subst hz1
       go_wp2_with fail
       subst hK
       go_meet
       exact rfl
      have q5:((oK:Int)==5)=false:=by rw [beq_eq_false_iff_ne];omega
      have q11:((oK:Int)==11)=false:=by rw [beq_eq_false_iff_ne];omega
      have q12:((oK:Int)==12)=false:=by rw [beq_eq_false_iff_ne];omega
      have q15:((oK:Int)==15)=false:=by rw [beq_eq_false_iff_ne];omega
      go_wp2_with fail
      go_meet
      exact rfl
     case rest =>
      have hcw:=Hid.out hcut;subst hcw
      go_wp2_with (first|(refine wpList_load_row rfl 31 (.tmp 6) rfl (wr.heap.size) rfl 31 #[.int .u8 oK,.string oP,.string oT,.int .u16 oM,.int .u32 oO,.int .u32 oN,.string oD] (0,0) _ Ro.out Tryz.underlying31 rfl (by kernel_rfl) ?_)|(go_at_call 14;refine (C2.out w2 Ak nk ck HI.out HN.out.1 HN.out.2).mono ?_;rintro e w3 ⟨A2,n2,c2,E2,m3,e2,rfl,hm9,hn9,hc9,hI9,hl9,hb⟩;have HIM:=hid hI9;have HNM:=hid (And.intro hn9 hc9);clear co0 co1 co2 co3 co4 co5 co6;replace Ro:=gg Ro hb;replace Rt:=gg Rt hb;replace HI:=hid (HI.out.go hb);replace B:=gb B hb;clear hI9 hn9 hc9 hm9 hl9;obtain⟨co0,co1,co2,co3,co4,co5,co6⟩:=cl7 Ro.out;clear hb)|(refine new_row rfl 38 (.tmp 11) (.tmp 56) rfl rfl #[.string d2.s,.int .u32 d2.i,.int .u8 d2.n.K,.int .u16 d2.n.M,.int .u32 d2.n.L,.int .u32 d2.n.S,.string d2.n.T,.slice E2 m3 e2] rfl rfl (by kernel_rfl) rfl (row8 _ _ _ _ _ _ _ _ _ _) ?_;intro w4 M;clear co0 co1 co2 co3 co4 co5 co6;replace Ro:=gg Ro M.2.1;replace Rt:=gg Rt M.2.1;replace HI:=hid (HI.out.go M.2.1);replace HIM:=hid (HIM.out.go M.2.1);replace B:=gb B M.2.1;have Ru:=hid M.1;obtain⟨co0,co1,co2,co3,co4,co5,co6⟩:=cl7 Ro.out;clear M)|(go_at_call 12;refine (CK.out w4 A2 n2 c2 HIM.out).mono ?_;rintro e w5 ⟨rfl,hb⟩;clear co0 co1 co2 co3 co4 co5 co6;replace Ro:=gg Ro hb;replace Rt:=gg Rt hb;replace Ru:=gg Ru hb;replace HI:=hid (HI.out.go hb);replace HIM:=hid (HIM.out.go hb);replace B:=gb B hb;obtain⟨co0,co1,co2,co3,co4,co5,co6⟩:=cl7 Ro.out;clear hb))
      exact⟨⟨k+1,A2,n2,c2,M,hlt,by go_num,rfl,HK3.out,HIM.out,HNM.out,HAR.out.1,HLM.out,B.out⟩,by simp [intOf];omega⟩
    ·
     have C2:=hid (fun (w:World) (A:Option Addr) (n c:Nat) (hI:ItA w A n (Lk)) (hc:n≤c) (hcm:c≤maxLen)=>af (o:=⟨oK,oP,oT,oM,oO,oN,oD⟩) (L:=Lk) (L':=aft Lk ⟨oK,oP,oT,oM,oO,oN,oD⟩) (d:=dT Lk ⟨oK,oP,oT,oM,oO,oN,oD⟩) (x:=dX Lk ⟨oK,oP,oT,oM,oO,oN,oD⟩) hI hc hcm HHO.out rfl rfl rfl HL2.out);rw [show vOp (⟨oK,oP,oT,oM,oO,oN,oD⟩)=.agg #[.int .u8 oK,.string oP,.string oT,.int .u16 oM,.int .u32 oO,.int .u32 oN,.string oD] from rfl] at C2;have C1:=hid (fun (w:World) (A:Option Addr) (n c:Nat) (hI:ItA w A n Lk) (hc:n≤c) (hcm:c≤maxLen)=>do_2 (o:=⟨oK,oP,oT,oM,oO,oN,oD⟩) (L:=Lk) hI hc hcm HHO.out);rw [show vOp ⟨oK,oP,oT,oM,oO,oN,oD⟩=.agg #[.int .u8 oK,.string oP,.string oT,.int .u16 oM,.int .u32 oO,.int .u32 oN,.string oD] from rfl] at C1;have HE:=hid (show dX Lk ⟨oK,oP,oT,oM,oO,oN,oD⟩≠0∨dC Lk ⟨oK,oP,oT,oM,oO,oN,oD⟩=[] from .inl hx);have CK:=hid (fun (w:World) (A:Option Addr) (n c:Nat) (hI:ItA w A n (aft Lk ⟨oK,oP,oT,oM,oO,oN,oD⟩))=>Di.Check_any c hI);rw [show Di.ckE (aft Lk ⟨oK,oP,oT,oM,oO,oN,oD⟩)=0 from by unfold Di.ckE;rw [HAR.out.1];rfl] at CK;have e5:=ne0 hx;generalize aft Lk ⟨oK,oP,oT,oM,oO,oN,oD⟩=M at *;generalize dT Lk ⟨oK,oP,oT,oM,oO,oN,oD⟩=d2 at *;generalize dX Lk ⟨oK,oP,oT,oM,oO,oN,oD⟩=x1 at *;generalize dC Lk ⟨oK,oP,oT,oM,oO,oN,oD⟩=D1 at *;clear hx
     go_wp2_with fail
     generalize wr.alloc (.cells #[.int .u8 oK,.string oP,.string oT,.int .u16 oM,.int .u32 oO,.int .u32 oN,.string oD] 31)=W0 at *;have Go:=hid (Nat.le_refl wr.heap.size);obtain⟨co0,co1,co2,co3,co4,co5,co6⟩:=cl7 Ro.out;refine (C1.out W0 Ak nk ck HI.out HN.out.1 HN.out.2).mono ?_;rintro e w1 ⟨A1,m1,c1,E1,m2,e1,d1,rfl,hm1,hb⟩;have hz1:=hm1 HE.out;subst hz1;clear co0 co1 co2 co3 co4 co5 co6;replace Ro:=gg Ro hb;replace HI:=hid (HI.out.go hb);replace B:=gb B hb;clear hm1;obtain⟨co0,co1,co2,co3,co4,co5,co6⟩:=cl7 Ro.out;clear hb
     go_upto_block 2 with (first|(refine new_row rfl 38 (.tmp 8) (.tmp 32) rfl rfl #[.string d1.s,.int .u32 d1.i,.int .u8 d1.n.K,.int .u16 d1.n.M,.int .u32 d1.n.L,.int .u32 d1.n.S,.string d1.n.T,.slice E1 m2 e1] rfl rfl (by kernel_rfl) rfl (row8 _ _ _ _ _ _ _ _ _ _) ?_;intro w2 M;clear co0 co1 co2 co3 co4 co5 co6;replace Ro:=gg Ro M.2.1;replace HI:=hid (HI.out.go M.2.1);replace B:=gb B M.2.1;have Rt:=hid M.1;obtain⟨co0,co1,co2,co3,co4,co5,co6⟩:=cl7 Ro.out;clear M))
     go_cut [43] from 44 to 50 (fun s43 wx=>Hid (w2=wx))
     case first =>
      by_cases hK:oK=5
      ·have q5:((oK:Int)==5)=true:=by rw [beq_iff_eq];omega
       go_wp2_with fail
       subst hK
       go_meet
       exact rfl
      by_cases hK:oK=11
      ·have q5:((oK:Int)==5)=false:=by rw [beq_eq_false_iff_ne];omega
       have q11:((oK:Int)==11)=true:=by rw [beq_iff_eq];omega
       go_wp2_with fail
       subst hK
       go_meet
       exact rfl
      by_cases hK:oK=12
      ·have q5:((oK:Int)==5)=false:=by rw [beq_eq_false_iff_ne];omega
       have q11:((oK:Int)==11)=false:=by rw [beq_eq_false_iff_ne];omega
       have q12:((oK:Int)==12)=true:=by rw [beq_iff_eq];omega
       go_wp2_with fail
       subst hK
       go_meet
       exact rfl
      by_cases hK:oK=15
      ·have q5:((oK:Int)==5)=false:=by rw [beq_eq_false_iff_ne];omega
       have q11:((oK:Int)==11)=false:=by rw [beq_eq_false_iff_ne];omega
       have q12:((oK:Int)==12)=false:=by rw [beq_eq_false_iff_ne];omega
       have q15:((oK:Int)==15)=true:=by rw [beq_iff_eq];omega
       go_wp2_with fail
       subst hK
       go_meet
       exact rfl
      have q5:((oK:Int)==5)=false:=by rw [beq_eq_false_iff_ne];omega
      have q11:((oK:Int)==11)=false:=by rw [beq_eq_false_iff_ne];omega
      have q12:((oK:Int)==12)=false:=by rw [beq_eq_false_iff_ne];omega
      have q15:((oK:Int)==15)=false:=by rw [beq_eq_false_iff_ne];omega
      go_wp2_with fail
      go_meet
      exact rfl
     case rest =>
      have hcw:=Hid.out hcut;subst hcw
      go_wp2_with (first|(refine wpList_load_row rfl 31 (.tmp 6) rfl (wr.heap.size) rfl 31 #[.int .u8 oK,.string oP,.string oT,.int .u16 oM,.int .u32 oO,.int .u32 oN,.string oD] (0,0) _ Ro.out Tryz.underlying31 rfl (by kernel_rfl) ?_)|(go_at_call 14;refine (C2.out w2 Ak nk ck HI.out HN.out.1 HN.out.2).mono ?_;rintro e w3 ⟨A2,n2,c2,E2,m3,e2,rfl,hm9,hn9,hc9,hI9,hl9,hb⟩;have HIM:=hid hI9;have HNM:=hid (And.intro hn9 hc9);clear co0 co1 co2 co3 co4 co5 co6;replace Ro:=gg Ro hb;replace Rt:=gg Rt hb;replace HI:=hid (HI.out.go hb);replace B:=gb B hb;clear hI9 hn9 hc9 hm9 hl9;obtain⟨co0,co1,co2,co3,co4,co5,co6⟩:=cl7 Ro.out;clear hb)|(refine new_row rfl 38 (.tmp 11) (.tmp 56) rfl rfl #[.string d2.s,.int .u32 d2.i,.int .u8 d2.n.K,.int .u16 d2.n.M,.int .u32 d2.n.L,.int .u32 d2.n.S,.string d2.n.T,.slice E2 m3 e2] rfl rfl (by kernel_rfl) rfl (row8 _ _ _ _ _ _ _ _ _ _) ?_;intro w4 M;clear co0 co1 co2 co3 co4 co5 co6;replace Ro:=gg Ro M.2.1;replace Rt:=gg Rt M.2.1;replace HI:=hid (HI.out.go M.2.1);replace HIM:=hid (HIM.out.go M.2.1);replace B:=gb B M.2.1;have Ru:=hid M.1;obtain⟨co0,co1,co2,co3,co4,co5,co6⟩:=cl7 Ro.out;clear M)|(go_at_call 12;refine (CK.out w4 A2 n2 c2 HIM.out).mono ?_;rintro e w5 ⟨rfl,hb⟩;clear co0 co1 co2 co3 co4 co5 co6;replace Ro:=gg Ro hb;replace Rt:=gg Rt hb;replace Ru:=gg Ru hb;replace HI:=hid (HI.out.go hb);replace HIM:=hid (HIM.out.go hb);replace B:=gb B hb;obtain⟨co0,co1,co2,co3,co4,co5,co6⟩:=cl7 Ro.out;clear hb))
      exact⟨⟨k+1,A2,n2,c2,M,hlt,by go_num,rfl,HK3.out,HIM.out,HNM.out,HAR.out.1,HLM.out,B.out⟩,by simp [intOf];omega⟩
  ·have hke:k=no:=by omega
   subst hke
   go_wp2
   go_ret
   exact⟨rfl,B.out⟩
theorem filesRight_walk {ops:List Fr.OpL}{Ao:Option Addr}{no co:Nat}(hI:ItA w A n L) (hc:n≤c) (hcm:c≤maxLen) (hn:n≤1048576) (hO:Ls Fr.encOp 7 w w.heap.size Ao ops) (hno:no=ops.length):Calls Tryz.prog 3 #[.slice A n c,.slice Ao no co] w fun e w'=>e=.returned (.bool true)∧Below w.heap.size w w':=by
 cases hr:rgt L with
 | true=>exact right_Y hI hc hcm hn hO hno hr
 | false=>exact right_N hI hc hcm hn hO hno hr
end Go.Proofs.YtopepebcnaikiaaGreatDoor.Fi
