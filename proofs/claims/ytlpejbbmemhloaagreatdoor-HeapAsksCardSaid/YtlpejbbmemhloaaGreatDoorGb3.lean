import Derived.Test.YtlpejbbmemhloaaGreatDoorReg
import Derived.Test.YtlpejbbmemhloaaGreatDoorNdN
import Derived.Test.YtlpejbbmemhloaaGreatDoorGb2
import Derived.Maps.Own
import Derived.Maps.OwnSet
import Derived.Maps.Views
import Derived.WalkKit
set_option maxRecDepth 100000
namespace Go.Proofs.YtlpejbbmemhloaaGreatDoor
theorem Gb3a {α:Type}(l:List α)(i:Nat)(x:α):l.toArray.setIfInBounds i x=(l.set i x).toArray:=List.setIfInBounds_toArray ..
theorem Gb3b {α:Type}{a b:α}{l:List α}:(a::l).set 0 b=b::l:=List.set_cons_zero
theorem Gb3c {α:Type}{a b:α}{l:List α}{n:Nat}:(a::l).set (n+1) b=a::l.set n b:=List.set_cons_succ
end Go.Proofs.YtlpejbbmemhloaaGreatDoor
namespace Go.Proofs.YtlpejbbmemhloaaGreatDoor.Hp
open Lib (hid)
set_option linter.unusedVariables false
set_option linter.unusedSimpArgs false
set_option maxRecDepth 100000
open Go.ChangeShapes Go.WideShapes Go.ChangeAt Go.RowKit
open Ar Rg Nd
open BigFrame
open Pk (u8s u8s_length)
open It (below_drewN)
structure Ce where
 num:Nat
 d:ByteArray
 r:Int
def ecC (c:Ce):List Value:=[.int .u32 c.num,.string c.d,.int .i64 c.r]
theorem ecC_len (c:Ce):(ecC c).length=3:=rfl
theorem ecC_one (x:Ce):∀ u∈ecC x,u.oneCell'=true:=by
 intro v hv
 simp [ecC] at hv
 rcases hv with rfl | rfl | rfl<;>rfl
theorem infoC:(Tryz.prog.info? 75).map (·.size)=some 3:=by kernel_rfl
def isN (d:ByteArray):Bool:=(decN d.data.toList).isSome
def ndD (d:ByteArray):Nd:=(decN d.data.toList).getD ⟨0,[],[],[]⟩
theorem isN_some {d:ByteArray}(h:isN d=true):decN d.data.toList=some (ndD d):=by
 unfold isN at h
 unfold ndD
 obtain⟨n,hn⟩:=Option.isSome_iff_exists.1 h
 rw [hn];rfl
theorem isN_none {d:ByteArray}(h:isN d=false):decN d.data.toList=none:=by
 unfold isN at h
 cases hn:decN d.data.toList with
 | none=>rfl
 | some n=>rw [hn] at h;cases h
structure FrO (c:Ce) (o:Ob):Prop where
 num:o.num=c.num
 d:o.d=c.d
 r:o.r=c.r
 n:o.n=ndD c.d
 bl:o.bl=[]
 bv:o.bv=zS
 a:o.a=0
 gn:o.gn=false
def okTo (sz:Nat) (L:List Ce) (i:Nat):Prop:=∀ (j:Nat) (c:Ce),j<i→L[j]?=some c→2≤c.num∧c.num<sz∧isN c.d=true∧∀ b,0<j→L[j-1]?=some b→b.num<c.num
theorem okTo.zero (sz:Nat) (L:List Ce):okTo sz L 0:=fun j c h=>absurd h (Nat.not_lt_zero _)
theorem okTo.snoc {sz i:Nat}{L:List Ce}{c:Ce}(h:okTo sz L i) (hc:L[i]?=some c) (h1:2≤c.num) (h2:c.num<sz) (h3:isN c.d=true) (h4:∀ b,0<i→L[i-1]?=some b→b.num<c.num):okTo sz L (i+1):=fun j x hj hx=>by
 by_cases e:j=i
 ·subst e
  rw [hc] at hx;cases hx
  exact⟨h1,h2,h3,h4⟩
 ·exact h j x (by omega) hx
theorem okTo.ge {sz:Nat}{L:List Ce}{i:Nat}(h:okTo sz L i):∀ j c,j<i→L[j]?=some c→j+2≤c.num
 | 0,c,hj,hc=>(h 0 c hj hc).1
 | j+1,c,hj,hc=>by
  obtain⟨hl,_⟩:=List.getElem?_eq_some_iff.1 hc
  have hb:L[j]?=some (L[j]'(by omega)):=List.getElem?_eq_getElem _
  have h1:=okTo.ge h j _ (by omega) hb
  have h2:=(h (j+1) c hj hc).2.2.2 _ (by omega) hb
  omega
structure TcI (w wr:World) (q sz:Nat) (L:List Ce) (i:Nat) (P:List Nat) (s:Nat→Ob) (v:Value):Prop where
 row:wr.heap[q]?=some (.cells #[.int .u32 sz,v] 68 (0,0))
 grown:w.grownBy wr (some q)
 own:OwP w.heap.size wr v P
 at_:HpAt w.heap.size wr P s
 len:P.length=i
 ob:∀ (j p:Nat) (c:Ce),P[j]?=some p→L[j]?=some c→FrO c (s p)
 ok:okTo sz L i
theorem TcI.go {w wr w':World}{q sz i:Nat}{L:List Ce}{P:List Nat}{s:Nat→Ob}{v:Value}(h:TcI w wr q sz L i P s v) (hb:Below wr.heap.size wr w'):TcI w w' q sz L i P s v :=
 ⟨(hb.block q (row_lt h.row)).trans h.row,grown_trans h.grown (grown_of_below hb _),own_go h.own hb,h.at_.go hb,h.len,h.ob,h.ok⟩
def TcPost (w:World) (q sz:Nat) (L:List Ce) (e:Ending) (w':World):Prop :=
 ∃ (b:Bool) (i:Nat) (P:List Nat) (s:Nat→Ob) (v:Value),e=.returned (.bool b)∧TcI w w' q sz L i P s v∧(b=true→i=L.length)∧(b=true↔okTo sz L L.length)
theorem put_none (a:Act) (v:Value):a.put none v=a:=rfl
theorem not_ok {sz i:Nat}{L:List Ce}{c:Ce}(hc:L[i]?=some c) (h:¬ (2≤c.num∧c.num<sz∧isN c.d=true∧∀ b,0<i→L[i-1]?=some b→b.num<c.num)):¬ okTo sz L L.length:=fun hh =>
 h (hh i c (List.getElem?_eq_some_iff.1 hc).1 hc)
theorem HpAt.grownP {n0:Nat}{w w':World}{P:List Nat}{s:Nat→Ob}{row:Option Nat}(h:HpAt n0 w P s) (hg:w.grownBy w' row) (hr:∀ g,row=some g→∃ cur,w.heap[g]?=some (.cells cur TP (0,0))) (hn:∀ p∈P,(s p).bl=[]∧(s p).bv=zS):HpAt n0 w' P s:=by
 have hk:∀ {b:Nat}{e:TypeId}{k:Nat}{v:Value}{n:Nat}{xs:List Value},TP≠e→w.ownsRow b e k v n xs→w'.ownsRow b e k v n xs:=fun {b e k v n xs} he ho=>World.ownsRow.kept ho hg (by
  rcases ho.2 with ⟨rfl,_⟩ | ⟨g,cap,cur,rfl,_,hgg,_⟩
  ·exact .inl rfl
  ·right
   intro e
   obtain⟨cur',hq⟩:=hr g e.symm
   rw [hgg] at hq
   simp only [Option.some.injEq,Obj.cells.injEq] at hq
   exact he hq.2.1.symm)
 refine⟨h.nd,h.lo,fun p hp=>?_,fun p hp=>⟨hk (by decide) (h.own p hp).1,hk (by decide) (h.own p hp).2.1,hk (by decide) (h.own p hp).2.2⟩,fun p hp=>?_⟩
 ·rw [hg.block p (h.lt hp) (fun e=>by
   obtain⟨cur,hq⟩:=hr p e.symm
   rw [h.row p hp] at hq
   simp only [Option.some.injEq,Obj.cells.injEq] at hq
   exact absurd hq.2.1 (by decide))]
  exact h.row p hp
 ·obtain⟨e1,e2⟩:=hn p hp
  rw [e1,e2]
  exact World.ownsRow_nil _ _ _ _
theorem OwN.grownP {n0:Nat}{w w':World}{vI vK vV:Value}{n:Nd}{row:Option Nat}(h:OwN n0 w vI vK vV n) (hg:w.grownBy w' row) (hr:∀ g,row=some g→∃ cur,w.heap[g]?=some (.cells cur TP (0,0))):OwN n0 w' vI vK vV n:=by
 have hk:∀ {b:Nat}{e:TypeId}{k:Nat}{v:Value}{n:Nat}{xs:List Value},TP≠e→w.ownsRow b e k v n xs→w'.ownsRow b e k v n xs:=fun {b e k v n xs} he ho=>World.ownsRow.kept ho hg (by
  rcases ho.2 with ⟨rfl,_⟩ | ⟨g,cap,cur,rfl,_,hgg,_⟩
  ·exact .inl rfl
  ·right
   intro e
   obtain⟨cur',hq⟩:=hr g e.symm
   rw [hgg] at hq
   simp only [Option.some.injEq,Obj.cells.injEq] at hq
   exact he hq.2.1.symm)
 exact⟨hk (by decide) h.1,hk (by decide) h.2.1,hk (by decide) h.2.2⟩
def tcO (c:Ce) (vI vK vV:Value):Ob:=⟨c.num,c.d,c.r,ndD c.d,vI,vK,vV,[],zS,0,false⟩
theorem tcO_fr (c:Ce) (vI vK vV:Value):FrO c (tcO c vI vK vV):=⟨rfl,rfl,rfl,rfl,rfl,rfl,rfl,rfl⟩
theorem OwP.row {n0:Nat}{w:World}{v:Value}{D:List Nat}(h:OwP n0 w v D):∀ g,v.ownBlock=some g→n0≤g∧∃ cur,w.heap[g]?=some (.cells cur TP (0,0)):=by
 intro g hg
 rcases h.2 with ⟨rfl,_⟩ | ⟨g',cap,cur,rfl,hb,hgg,_⟩
 ·simp [Value.ownBlock] at hg
 ·simp only [Value.ownBlock,Option.some.injEq] at hg
  subst hg
  exact⟨hb,cur,hgg⟩
theorem OwP.cell {n0 q i:Nat}{w:World}{v u:Value}{D:List Nat}{cs:Array Value}{t:TypeId}{f:Nat×Nat}(h:OwP n0 w v D) (hq:w.heap[q]?=some (.cells cs t f)) (ht:t≠TP):OwP n0 (w.setCell ⟨q,i,none⟩ u) v D :=
 World.ownsRow.kept h (grown_cell w q i u) (by
  cases hv:v.ownBlock with
  | none=>exact .inl rfl
  | some g =>
   right
   intro e
   obtain⟨_,cur,hg⟩:=h.row g hv
   rw [Option.some.inj e,hq] at hg
   simp only [Option.some.injEq,Obj.cells.injEq] at hg
   exact ht hg.2.1)
theorem TcI.next {w w7 w8 X:World}{q sz i p n6 c6:Nat}{A6:Option Addr}{L:List Ce}{P:List Nat}{s:Nat→Ob}{c:Ce}{vI vK vV v8:Value}(h:TcI w w7 q sz L i P s (.slice A6 n6 c6)) (hc:L[i]?=some c) (h23:2≤c.num∧c.num<sz) (hdc:isN c.d=true) (hpr:∀ b,0<i→L[i-1]?=some b→b.num<c.num)
  (hp:w7.heap[p]?=some (.cells (ecO (tcO c vI vK vV)).toArray T (0,0))) (hpn:p ∉ P) (hpw:w.heap.size≤p) (hON:OwN w.heap.size w7 vI vK vV (ndD c.d)) (hX:X.heap.size=w.heap.size) (hM8:MkP X w8 v8 (P++[p])) (hG8:w7.grownBy w8 (Value.slice A6 n6 c6).ownBlock) (hql:q<w.heap.size) :
  TcI w (w8.setCell ⟨q,1,none⟩ v8) q sz L (i+1) (P++[p]) (upd s p (tcO c vI vK vV)) v8:=by
 have hr:=h.own.row
 have hil:i<L.length:=(List.getElem?_eq_some_iff.1 hc).1
 have hbl:∀ p∈P,(s p).bl=[]∧(s p).bv=zS:=fun p hp=>by
  obtain⟨j,hj⟩:=List.mem_iff_getElem?.1 hp
  have hjl:j<P.length:=(List.getElem?_eq_some_iff.1 hj).1
  have:=h.ob j p _ hj (List.getElem?_eq_getElem (show j<L.length by rw [h.len] at hjl;omega))
  exact⟨this.bl,this.bv⟩
 have hne:∀ {g:Nat}{cs:Array Value}{t:TypeId}{f:Nat×Nat},w7.heap[g]?=some (.cells cs t f)→t≠TP→w8.heap[g]?=some (.cells cs t f):=fun {g cs t f} hg ht=>(hG8.block g (row_lt hg) (fun e=>by
  obtain⟨_,cur,hg'⟩:=hr g e.symm
  rw [hg] at hg'
  simp only [Option.some.injEq,Obj.cells.injEq] at hg'
  exact ht hg'.2.1)).trans hg
 have hq8:=hne h.row (by decide)
 have at8:=h.at_.grownP hG8 (fun g hg=>(hr g hg).2) hbl
 have hown8:OwP w.heap.size w8 v8 (P++[p]):=by have:=hM8.1;rw [hX] at this;exact this
 have more8:=at8.more (P':=P++[p]) (o:=tcO c vI vK vV) hpw hpn (List.perm_append_singleton p P) (hne hp (by decide)) (hON.grownP hG8 (fun g hg=>(hr g hg).2)) (World.ownsRow_nil _ _ _ _)
 refine⟨row_set (cs:=[.int .u32 sz,.slice A6 n6 c6]) (i:=1) hq8,?_,hown8.cell hq8 (by decide),more8.beside hq8 (by decide) (grown_cell _ _ _ _),by rw [List.length_append,h.len];rfl,fun j x d hx hd=>?_,h.ok.snoc hc h23.1 h23.2 hdc hpr⟩
 ·refine grown_trans ⟨hG8.os.trans h.grown.os,hG8.tape.trans h.grown.tape,hG8.output.trans h.grown.output,Nat.le_trans h.grown.size hG8.size,fun k hk hkn=>?_⟩ (grown_cell _ _ _ _)
  rw [hG8.block k (Nat.lt_of_lt_of_le hk h.grown.size) (fun e=>by have:=(hr k e.symm).1;omega)]
  exact h.grown.block k hk hkn
 ·by_cases e:j<P.length
  ·rw [List.getElem?_append_left e] at hx
   have hxp:x≠p:=fun e=>hpn (by rw [← e];exact List.mem_of_getElem? hx)
   rw [upd_other hxp]
   exact h.ob j x d hx hd
  ·rw [List.getElem?_append_right (by omega)] at hx
   have hj:j=P.length:=by
    have:=(List.getElem?_eq_some_iff.1 hx).1
    simp at this;omega
   subst hj
   rw [Nat.sub_self] at hx
   simp only [List.getElem?_cons_zero,Option.some.injEq] at hx
   subst hx
   rw [upd_same]
   rw [h.len,hc] at hd
   cases hd
   exact tcO_fr _ _ _ _
theorem row_built (c:Ce) (vI vK vV:Value):(ecO (tcO c vI vK vV)).toArray=#[.int .u32 c.num,.string c.d,.int .i64 c.r,.int .u8 (ndD c.d).kd,vI,vK,vV,.slice none 0 0,.int .i64 0,.int .u8 0,.int .u8 0,.int .u8 0,.int .u8 0,.int .u8 0,.int .u8 0,.int .u8 0,.int .u8 0,.int .u8 0,.int .u8 0,.int .u8 0,.int .u8 0,.int .u8 0,.int .u8 0,.int .u8 0,.int .u8 0,.int .u8 0,.int .u8 0,.int .u8 0,.int .u8 0,.int .u8 0,.int .u8 0,.int .u8 0,.int .u8 0,.int .u8 0,.int .u8 0,.int .u8 0,.int .u8 0,.int .u8 0,.int .u8 0,.int .u8 0,.int .u8 0,.bool false]:=rfl
set_option maxHeartbeats 8000000 in
theorem takeCells_any {q sz:Nat}{w:World}(L:List Ce) (A:Option Addr) (n cap B:Nat) (hn:n=L.length) (hm:n≤4398046511104) (hD:Ls ecC 3 w B A L) (hB:B≤q) (hq:w.heap[q]?=some (.cells #[.int .u32 sz,.slice none 0 0] 68 (0,0)))
  (hdz:∀ c∈L,c.d.size≤9223372036854775807) :
  Calls Tryz.prog 62 #[.pointer (some ⟨q,0,none⟩),.slice A n cap] w (TcPost w q sz L):=by
 have HN:=hid hn
 have HD:=hid hD
 have HQ:=hid hq
 have HDZ:=hid hdz
 have hql:q<w.heap.size:=row_lt hq
 clear hn hD hq hdz
 go_enter Tryz.func62,Tryz.ntmps62
 go_wp2_with fail
 go_loopw [11] (fun v wr=>∃ (i:Nat) (P:List Nat) (s:Nat→Ob) (pv:Value),i≤n∧v=.int .i64 i∧Hid (TcI w wr q sz L i P s pv)) (fun v _=>n-(intOf v).toNat)
 case atStart=>exact⟨0,[],fun _=>⟨0,⟨#[]⟩,0,⟨0,[],[],[]⟩,zS,zS,zS,[],zS,0,false⟩,zS,Nat.zero_le _,by go_num,⟨HQ.out,grown_refl _ _,World.ownsRow_nil _ _ _ _,HpAt.nil _ _ _,rfl,fun j p c h=>(by simp at h),okTo.zero _ _⟩⟩
 case round =>
  obtain⟨i,P,s,pv,hi,rfl,hI⟩:=hrel
  have HII:=hid (Hid.out hI)
  clear hI
  by_cases hlt:i<n
  ·obtain⟨c,hx⟩:∃ c,L[i]?=some c:=⟨_,List.getElem?_eq_getElem (by rw [← HN.out];exact hlt)⟩
   have HX:=hid hx
   have HCD:=hid (HDZ.out c (List.mem_of_getElem? hx))
   obtain⟨b,o,hAe,hb,hr⟩:=HD.out i c hx
   have hbq:b≠q:=by omega
   have hkeep:∀ off v,w.cell? ⟨b,off,none⟩=some v→wr.cell? ⟨b,off,none⟩=some v:=fun off v h=>(World.cell?_of_block (a:=⟨b,off,none⟩) (HII.out.grown.block b (cell_lt h) (fun e=>hbq (Option.some.inj e)))).trans h
   have HKEEP:=hid hkeep
   have HRG:=hid (show wr.rangeAt b (o+i*3) (ecC c) from fun j v hv=>hkeep _ _ (hr j v hv))
   have hbs:b<wr.heap.size:=cell_lt (hkeep _ _ (hr 0 _ rfl))
   have hz0:w.heap.size≤wr.heap.size:=HII.out.grown.size
   clear hr hx hkeep
   subst hAe
   obtain⟨A6,n6,c6,rfl⟩:∃ A n c,pv=Value.slice A n c:=(by obtain⟨A,c,h,_⟩:=HII.out.own.ls;exact⟨A,_,c,h⟩)
   by_cases h2:c.num<2
   ·have d1:decide ((c.num:Int)<2)=true:=by rw [decide_eq_true_iff];omega
    have HNO:=hid (not_ok (sz:=sz) HX.out (fun hh=>by have:=hh.1;omega))
    clear h2
    go_wp2_with (first
     | (refine wpList_load_at rfl 75 (.tmp 14) rfl b (o+i*3) rfl (ecC c) _ HRG.out Tryz.underlying75 rfl infoC ?_)
     | (refine wpList_fresh rfl 75 (.tmp 6) (.tmp 15) rfl (ecC c).toArray _ _ rfl rfl infoC rfl (all_of_one (ecC_one c)) ?_;intro W1 hb1 hr1 hz1;have HB1:=hid hb1;have HR1:=hid hr1;have c0:W1.cell? ⟨wr.heap.size,0,none⟩=some (.int .u32 c.num):=cell_of_row _ _ 0 _ _ _ hr1;have g0:W1.cell? ⟨q,0,none⟩=some (.int .u32 sz):=cell_of_row _ _ 0 _ _ _ ((hb1.block q (row_lt HII.out.row)).trans HII.out.row);have l0:q<W1.heap.size:=cell_lt g0;have l1:wr.heap.size<W1.heap.size:=cell_lt c0;clear hr1 hz1 hb1))
    rw [put_none]
    go_big_quiet (fail)
    have HB2:=hid (below_drewN HB1.out nq)
    generalize World.drewN _ _=W2 at *
    go_wp2
    go_ret
    exact⟨false,i,P,s,_,rfl,HII.out.go HB2.out,(by intro h;cases h),by simp;exact HNO.out⟩
   have d1:decide ((c.num:Int)<2)=false:=by rw [decide_eq_false_iff_not];omega
   by_cases h3:sz≤c.num
   ·have d2:decide (sz≤c.num)=true:=decide_eq_true h3
    have d2':decide ((sz:Int)≤(c.num:Int))=true:=by rw [decide_eq_true_iff];omega
    have HNO:=hid (not_ok (sz:=sz) HX.out (fun hh=>by have:=hh.2.1;omega))
    clear h2 h3
    go_wp2_with (first
     | (refine wpList_load_at rfl 75 (.tmp 14) rfl b (o+i*3) rfl (ecC c) _ HRG.out Tryz.underlying75 rfl infoC ?_)
     | (refine wpList_fresh rfl 75 (.tmp 6) (.tmp 15) rfl (ecC c).toArray _ _ rfl rfl infoC rfl (all_of_one (ecC_one c)) ?_;intro W1 hb1 hr1 hz1;have HB1:=hid hb1;have HR1:=hid hr1;have c0:W1.cell? ⟨wr.heap.size,0,none⟩=some (.int .u32 c.num):=cell_of_row _ _ 0 _ _ _ hr1;have g0:W1.cell? ⟨q,0,none⟩=some (.int .u32 sz):=cell_of_row _ _ 0 _ _ _ ((hb1.block q (row_lt HII.out.row)).trans HII.out.row);have l0:q<W1.heap.size:=cell_lt g0;have l1:wr.heap.size<W1.heap.size:=cell_lt c0;clear hr1 hz1 hb1))
    rw [put_none]
    go_big_quiet (fail)
    have HB2:=hid (below_drewN HB1.out nq)
    generalize World.drewN _ _=W2 at *
    go_wp2
    go_ret
    exact⟨false,i,P,s,_,rfl,HII.out.go HB2.out,(by intro h;cases h),by simp;exact HNO.out⟩
   have d2:decide (sz≤c.num)=false:=decide_eq_false h3
   have d2':decide ((sz:Int)≤(c.num:Int))=false:=by rw [decide_eq_false_iff_not];omega
   rcases Nat.eq_zero_or_pos i with h0 | h0
   ·have d3:decide ((0:Int)<(i:Int))=false:=by rw [decide_eq_false_iff_not];omega
    have d3':decide (0<i)=false:=by rw [decide_eq_false_iff_not];omega
    have HPR:=hid (show ∀ b,0<i→L[i-1]?=some b→b.num<c.num from fun b hb=>by omega)
    have H23:=hid (show 2≤c.num∧c.num<sz by omega)
    clear h0 h2 h3
    go_wp2_with (first
     | (refine wpList_load_at rfl 75 (.tmp 14) rfl b (o+i*3) rfl (ecC c) _ HRG.out Tryz.underlying75 rfl infoC ?_)
     | (refine wpList_fresh rfl 75 (.tmp 6) (.tmp 15) rfl (ecC c).toArray _ _ rfl rfl infoC rfl (all_of_one (ecC_one c)) ?_;intro W1 hb1 hr1 hz1;have HB1:=hid hb1;have HR1:=hid hr1;have c0:W1.cell? ⟨wr.heap.size,0,none⟩=some (.int .u32 c.num):=cell_of_row _ _ 0 _ _ _ hr1;have g0:W1.cell? ⟨q,0,none⟩=some (.int .u32 sz):=cell_of_row _ _ 0 _ _ _ ((hb1.block q (row_lt HII.out.row)).trans HII.out.row);have l0:q<W1.heap.size:=cell_lt g0;have l1:wr.heap.size<W1.heap.size:=cell_lt c0;clear hr1 hz1 hb1))
    rw [put_none]
    go_big_quiet (fail)
    have HB2:=hid (below_drewN HB1.out nq)
    have HR2:=hid (show (World.drewN W1 nq).heap[wr.heap.size]?=some (.cells (ecC c).toArray 75 (0,0)) from HR1.out)
    clear HR1 HB1 c0 g0 l0 l1
    generalize World.drewN W1 nq=W2 at *
    have c1:W2.cell? ⟨wr.heap.size,1,none⟩=some (.string c.d):=cell_of_row _ _ 1 _ _ _ HR2.out
    have l1:wr.heap.size<W2.heap.size:=cell_lt c1
    cases hdec:isN c.d
    ·have HDE:=hid (fun W=>decode_no c.d HCD.out (isN_none hdec) W)
     have HNO:=hid (not_ok (sz:=sz) HX.out (fun hh=>by have:=hh.2.2.1;rw [hdec] at this;cases this))
     clear hdec
     go_wp2_with (first
      | (go_at_call 90;(with_reducible refine (HDE.out _).mono ?_);rintro e w3 ⟨cs,rfl,ho3,hat3⟩;have HO3:=hid ho3;have HB3:=hid (HB2.out.trans (ho3.bel.mono HB2.out.size));have hsz4:=info4 hat3.size;have hz4:zN.size=cs.size:=hat3.size.symm;have ho4:=ho3.one.2;have HR3:=hid ((ho3.bel.block _ (row_lt HR2.out)).trans HR2.out);clear ho3 hat3)
      | (refine wpList_fresh rfl 31 (.tmp 7) (.tmp 47) rfl cs _ _ rfl rfl hsz4 hz4 ho4 ?_;intro w4 hb4 hr4 hz4b;have HB4:=hid (HB3.out.trans (hb4.mono HB3.out.size));have HR4:=hid ((hb4.block _ (row_lt HR3.out)).trans HR3.out);have HN4:=hid hr4;have HO4:=hid (HO3.out.go hb4);have HZ4:=hid hz4b;have hz34:w3.heap.size<w4.heap.size:=row_lt hr4;clear hb4 hr4 hz4b))
     go_ret
     exact⟨false,i,P,s,_,rfl,HII.out.go HB4.out,(by intro h;cases h),by simp;exact HNO.out⟩
    ·have HDE:=hid (fun W=>decode_yes c.d HCD.out (isN_some hdec) (decN_small (isN_some hdec)).2 W)
     have HDC:=hid hdec
     clear hdec
     go_wp2_with (first
      | (go_at_call 90;(with_reducible refine (HDE.out _).mono ?_);rintro e w3 ⟨cs,rfl,ho3,hat3⟩;have HO3:=hid ho3;have HB3:=hid (HB2.out.trans (ho3.bel.mono HB2.out.size));have hsz4:=info4 hat3.size;have hz4:zN.size=cs.size:=hat3.size.symm;have ho4:=ho3.one.2;have HR3:=hid ((ho3.bel.block _ (row_lt HR2.out)).trans HR2.out);clear ho3 hat3)
      | (refine wpList_fresh rfl 31 (.tmp 7) (.tmp 47) rfl cs _ _ rfl rfl hsz4 hz4 ho4 ?_;intro w4 hb4 hr4 hz4b;have HB4:=hid (HB3.out.trans (hb4.mono HB3.out.size));have HR4:=hid ((hb4.block _ (row_lt HR3.out)).trans HR3.out);have HN4:=hid hr4;have HO4:=hid (HO3.out.go hb4);have HZ4:=hid hz4b;have hz34:w3.heap.size<w4.heap.size:=row_lt hr4;clear hb4 hr4 hz4b))
     obtain⟨vI,vK,vV,hcs,_,_,_⟩:=HO4.out
     subst hcs
     have HON:=hid (show OwN w.heap.size w4 vI vK vV (ndD c.d) from OwN.of HO4.out (by have:=HII.out.grown.size;have:=HB2.out.size;omega))
     have hkeep:∀ wx:World,wx.heap[q]?=some (.cells #[.int .u32 sz,.slice A6 n6 c6] 68 (0,0))→wx.heap[wr.heap.size]?=some (.cells (ecC c).toArray 75 (0,0))→wx.heap[w3.heap.size]?=some (.cells #[.int .u8 (ndD c.d).kd,vI,vK,vV] 31 (0,0))→wx.cell? ⟨q,1,none⟩=some (.slice A6 n6 c6)∧wx.rangeAt wr.heap.size 0 (ecC c)∧wx.rangeAt w3.heap.size 0 [.int .u8 (ndD c.d).kd,vI,vK,vV]:=fun wx h1 h2 h3=>⟨cell_of_row _ _ 1 _ _ _ h1,rangeAt_row h2 (fun j v hv=>by rw [Nat.zero_add,List.getElem?_toArray];exact hv),rangeAt_row h3 (fun j v hv=>by rw [Nat.zero_add];simpa using hv)⟩
     have HKP:=hid hkeep
     have HI5:=hid (HII.out.go (HB4.out.trans (show Below wr.heap.size w4 w4.drew from (Below.refl _ _).drew)))
     have HR5:=hid (show w4.drew.heap[wr.heap.size]?=some (.cells (ecC c).toArray 75 (0,0)) from HR4.out)
     have HN5:=hid (show w4.drew.heap[w3.heap.size]?=some (.cells #[.int .u8 (ndD c.d).kd,vI,vK,vV] 31 (0,0)) from HN4.out)
     have HON5:=hid (HON.out.go (Below.refl _ _).drew)
     have HZ5:=hid (show w3.heap.size<w4.drew.heap.size∧wr.heap.size<w4.drew.heap.size from⟨hz34,row_lt HR4.out⟩)
     clear HR2 HR3 HR4 HN4 HO3 HO4 HB2 HB3 HB4 HDE hkeep HON HII HZ4 hsz4 hz4 ho4 c1 l1 hz34
     refine wp_region_T (fun w':World=>w'.cell? ⟨q,1,none⟩=some (.slice A6 n6 c6)∧w'.rangeAt wr.heap.size 0 (ecC c)∧w'.rangeAt w3.heap.size 0 [.int .u8 (ndD c.d).kd,vI,vK,vV]) 11 (by kernel_rfl) (by kernel_rfl) ?_
     generalize w4.drew=w5 at *
     have hS:=HKP.out w5 HI5.out.row HR5.out HN5.out
     refine take_T 0 51 (.pointer (some ⟨q,0,none⟩)) rfl (by rfl) (by kernel_rfl) (by decide) (by kernel_rfl) (by kernel_rfl) (by kernel_rfl) (fun _ _ _ h=>h) (Or.inl ⟨by rfl,fun w' hSw=>by obtain⟨s0,s1,s2⟩:=hSw;go_simp⟩) hS ?_
     simp only [Gb3a,Gb3b,Gb3c]
     refine take_T 1 52 (.pointer (some ⟨q,0,none⟩)) rfl (by rfl) (by kernel_rfl) (by decide) (by kernel_rfl) (by kernel_rfl) (by kernel_rfl) (fun _ _ _ h=>h) (Or.inl ⟨by rfl,fun w' hSw=>by obtain⟨s0,s1,s2⟩:=hSw;go_simp⟩) hS ?_
     simp only [Gb3a,Gb3b,Gb3c]
     refine take_T 2 53 (.pointer (some ⟨q,0,none⟩)) rfl (by rfl) (by kernel_rfl) (by decide) (by kernel_rfl) (by kernel_rfl) (by kernel_rfl) (fun _ _ _ h=>h) (Or.inl ⟨by rfl,fun w' hSw=>by obtain⟨s0,s1,s2⟩:=hSw;go_simp⟩) hS ?_
     simp only [Gb3a,Gb3b,Gb3c]
     refine take_T 3 54 (.pointer (some ⟨q,1,none⟩)) rfl (by rfl) (by kernel_rfl) (by decide) (by kernel_rfl) (by kernel_rfl) (by kernel_rfl) (fun _ _ _ h=>h) (Or.inl ⟨by rfl,fun w' hSw=>by obtain⟨s0,s1,s2⟩:=hSw;go_simp⟩) hS ?_
     simp only [Gb3a,Gb3b,Gb3c]
     refine take_T 4 55 (.slice A6 n6 c6) rfl (by rfl) (by kernel_rfl) (by decide) (by kernel_rfl) (by kernel_rfl) (by kernel_rfl) (fun _ _ _ h=>h) (Or.inl ⟨by rfl,fun w' hSw=>by obtain⟨s0,s1,s2⟩:=hSw;go_simp⟩) hS ?_
     simp only [Gb3a,Gb3b,Gb3c]
     refine take_T 5 56 (.agg (ecC c).toArray) rfl (by rfl) (by kernel_rfl) (by decide) (by kernel_rfl) (by kernel_rfl) (by kernel_rfl) (fun _ _ _ h=>h) (yieldsIf_load_mid (by rfl) 75 (.tmp 6) rfl wr.heap.size 0 rfl (ecC c) _ (fun w' hSw=>hSw.2.1) Tryz.underlying75 rfl infoC) hS ?_
     simp only [Gb3a,Gb3b,Gb3c]
     refine take_T 6 57 (.agg #[.int .u8 (ndD c.d).kd,vI,vK,vV]) rfl (by rfl) (by kernel_rfl) (by decide) (by kernel_rfl) (by kernel_rfl) (by kernel_rfl) (fun _ _ _ h=>h) (yieldsIf_load_mid (by rfl) 31 (.tmp 7) rfl w3.heap.size 0 rfl [.int .u8 (ndD c.d).kd,vI,vK,vV] _ (fun w' hSw=>hSw.2.2) Tryz.underlying31 rfl (by kernel_rfl)) hS ?_
     simp only [Gb3a,Gb3b,Gb3c]
     refine take_T 7 58 (.agg #[.int .u32 c.num,.string c.d,.int .i64 c.r,.int .u8 (ndD c.d).kd,vI,vK,vV,.slice none 0 0,.int .i64 0,.int .u8 0,.int .u8 0,.int .u8 0,.int .u8 0,.int .u8 0,.int .u8 0,.int .u8 0,.int .u8 0,.int .u8 0,.int .u8 0,.int .u8 0,.int .u8 0,.int .u8 0,.int .u8 0,.int .u8 0,.int .u8 0,.int .u8 0,.int .u8 0,.int .u8 0,.int .u8 0,.int .u8 0,.int .u8 0,.int .u8 0,.int .u8 0,.int .u8 0,.int .u8 0,.int .u8 0,.int .u8 0,.int .u8 0,.int .u8 0,.int .u8 0,.int .u8 0,.bool false]) rfl (by rfl) (by kernel_rfl) (by decide) (by kernel_rfl) (by kernel_rfl) (by kernel_rfl) (fun _ _ _ h=>h) (Or.inl ⟨by rfl,fun w' hSw=>by obtain⟨s0,s1,s2⟩:=hSw;(unfold ecC;go_simp)⟩) hS ?_
     simp only [Gb3a,Gb3b,Gb3c]
     refine only_T 8 rfl (by kernel_rfl) (by decide) (by rfl) (fun K hK=>?_)
     go_simp
     rw [← row_built]
     have hal:Below w5.heap.size w5 (w5.alloc (.cells (ecO (tcO c vI vK vV)).toArray 82)):=(Below.refl _ _).alloc (Nat.le_refl _) _
     have HI6:=hid (HI5.out.go hal)
     have HR6:=hid ((hal.block _ (row_lt HR5.out)).trans HR5.out)
     have HN6:=hid ((hal.block _ (row_lt HN5.out)).trans HN5.out)
     have HNEW:=hid (heap_alloc_new w5 (.cells (ecO (tcO c vI vK vV)).toArray 82))
     have HON6:=hid (HON5.out.go hal)
     have HNP:=hid (show w5.heap.size ∉ P from fun h=>Nat.lt_irrefl _ (HI5.out.at_.lt h))
     have HPW:=hid (show w.heap.size≤w5.heap.size from HI5.out.grown.size)
     have hS2:=HKP.out _ HI6.out.row HR6.out HN6.out
     clear hal hS
     refine hK.out _ _ hS2 ?_
     clear hK K
     try simp only [Act.put,Gb3a,Gb3b,Gb3c]
     generalize w5.alloc (.cells (ecO (tcO c vI vK vV)).toArray 82)=w6 at *
     generalize w5.heap.size=pb at *
     have hS:=hS2
     clear hS2
     refine only_T 9 rfl (by kernel_rfl) (by decide) (by rfl) (fun K hK=>?_)
     go_simp
     have hal:Below w6.heap.size w6 (w6.alloc (.cells #[.pointer (some ⟨pb,0,none⟩)] 71)):=(Below.refl _ _).alloc (Nat.le_refl _) _
     have HI7:=hid (HI6.out.go hal)
     have HR7:=hid ((hal.block _ (row_lt HR6.out)).trans HR6.out)
     have HN7:=hid ((hal.block _ (row_lt HN6.out)).trans HN6.out)
     have HNEW7:=hid ((hal.block _ (row_lt HNEW.out)).trans HNEW.out)
     have HON7:=hid (HON6.out.go hal)
     have HNB:=hid (show (w6.alloc (.cells #[.pointer (some ⟨pb,0,none⟩)] 71)).heap[w6.heap.size]?=some (.cells (enP pb).toArray TP (0,0)) from heap_alloc_new w6 _)
     have hS2:=HKP.out _ HI7.out.row HR7.out HN7.out
     clear hal hS
     refine hK.out _ _ hS2 ?_
     clear hK K
     try simp only [Act.put,Gb3a,Gb3b,Gb3c]
     have hS:=hS2
     clear hS2
     generalize w6.alloc (.cells #[.pointer (some ⟨pb,0,none⟩)] 71)=w7 at *
     obtain⟨X,hXs,hMX⟩:=HI7.out.own.mk (HI7.out.grown.size)
     have HXX:=hid hXs
     have HMX:=hid hMX
     have HPL:=hid HI7.out.len
     clear hXs hMX
     refine only_T 10 rfl (by kernel_rfl) (by decide) (by rfl) (fun K hK=>?_)
     refine op_catP HMX.out pb w6.heap.size 1 HNB.out (by have:=HPL.out;omega) _ _ rfl rfl rfl ?_
     intro v8 w8 hM8 hG8 hat8
     obtain⟨A8,n8,c8,rfl⟩:∃ A n c,v8=.slice A n c:=(by obtain⟨A,c,h,_⟩:=hM8.ls enP_len;exact⟨A,_,c,h⟩)
     have HFIN:=hid (HI7.out.next HX.out H23.out HDC.out HPR.out HNEW7.out HNP.out HPW.out HON7.out HXX.out hM8 hG8 hql)
     have hoff:∀ {g:Nat}{cs:Array Value}{t:TypeId}{f:Nat×Nat},w7.heap[g]?=some (.cells cs t f)→t≠TP→w8.heap[g]?=some (.cells cs t f):=fun {g cs t f} hg ht=>(hG8.block g (row_lt hg) (fun e=>Mk.off HMX.out hg ht e.symm)).trans hg
     have HQ8:=hid (hoff HI7.out.row (by decide))
     have hS2:=HKP.out w8 HQ8.out (hoff HR7.out (by decide)) (hoff HN7.out (by decide))
     clear hoff hM8 hG8 hat8 hS
     refine hK.out _ _ hS2 ?_
     clear hK K hS2
     try simp only [Act.put,Gb3a,Gb3b,Gb3c]
     refine done_T (by kernel_rfl) ?_
     simp only [List.drop_succ_cons,List.drop_zero]
     have hcq:w8.cell? ⟨q,1,none⟩=some (.slice A6 n6 c6):=cell_of_row _ _ 1 _ _ _ HQ8.out
     have hfq:w8.frozen? ⟨q,1,none⟩=false:=frozen_of_row _ _ _ _ _ HQ8.out
     have hlq:q<w8.heap.size:=row_lt HQ8.out
     go_wp2
     exact⟨⟨i+1,_,_,_,by omega,by go_num,HFIN.out⟩,by simp [intOf]<;>omega⟩
   ·obtain⟨k,hk⟩:∃ k,i=k+1:=⟨i-1,by omega⟩
    obtain⟨c2,hc2⟩:∃ c2,L[k]?=some c2:=⟨_,List.getElem?_eq_getElem (by rw [← HN.out];omega)⟩
    have HC2:=hid hc2
    have HKI:=hid hk
    have d3:decide ((0:Int)<(i:Int))=true:=by rw [decide_eq_true_iff];omega
    have d3':decide (0<i)=true:=by rw [decide_eq_true_iff];omega
    have m6:(0:Int)≤(k:Int):=by omega
    have m7:(k:Int)<(n:Int):=by omega
    have HP0:=hid (show wr.cell? ⟨b,o+k*3,none⟩=some (.int .u32 c2.num) by
     obtain⟨b',o',hAe,_,hr⟩:=HD.out k c2 hc2
     cases hAe
     exact HKEEP.out _ _ (hr 0 _ rfl))
    have HM1:=hid (show IntKind.i64.wrap ((i:Int)-1)=(k:Int) by rw [IntWalk.i64_in _ (by omega)];omega)
    by_cases h4:c.num≤c2.num
    ·have d4:decide (c.num≤c2.num)=true:=decide_eq_true h4
     have d4':decide ((c.num:Int)≤(c2.num:Int))=true:=by rw [decide_eq_true_iff];omega
     have HNO:=hid (not_ok (sz:=sz) HX.out (fun hh=>by have:=hh.2.2.2 c2 (by omega) (by rw [show i-1=k by omega];exact hc2);omega))
     have e1:=HM1.out
     clear h0 h2 h3 h4 hk hc2
     go_wp2_with (first
      | (refine wpList_load_at rfl 75 (.tmp 14) rfl b (o+i*3) rfl (ecC c) _ HRG.out Tryz.underlying75 rfl infoC ?_)
      | (refine wpList_fresh rfl 75 (.tmp 6) (.tmp 15) rfl (ecC c).toArray _ _ rfl rfl infoC rfl (all_of_one (ecC_one c)) ?_;intro W1 hb1 hr1 hz1;have HB1:=hid hb1;have HR1:=hid hr1;have c0:W1.cell? ⟨wr.heap.size,0,none⟩=some (.int .u32 c.num):=cell_of_row _ _ 0 _ _ _ hr1;have g0:W1.cell? ⟨q,0,none⟩=some (.int .u32 sz):=cell_of_row _ _ 0 _ _ _ ((hb1.block q (row_lt HII.out.row)).trans HII.out.row);have l0:q<W1.heap.size:=cell_lt g0;have l1:wr.heap.size<W1.heap.size:=cell_lt c0;have p0:W1.cell? ⟨b,o+k*3,none⟩=some (.int .u32 c2.num):=(World.cell?_of_block (a:=⟨b,_,none⟩) (hb1.block b hbs)).trans HP0.out;have l2:b<W1.heap.size:=Nat.lt_of_lt_of_le hbs hb1.size;clear hr1 hz1 hb1))
     rw [put_none]
     go_big_quiet (fail)
     have HB2:=hid (below_drewN HB1.out nq)
     generalize World.drewN _ _=W2 at *
     go_wp2
     go_ret
     exact⟨false,i,P,s,_,rfl,HII.out.go HB2.out,(by intro h;cases h),by simp;exact HNO.out⟩
    ·have d4:decide (c.num≤c2.num)=false:=decide_eq_false h4
     have d4':decide ((c.num:Int)≤(c2.num:Int))=false:=by rw [decide_eq_false_iff_not];omega
     have HPR:=hid (show ∀ b,0<i→L[i-1]?=some b→b.num<c.num from fun b hb hlb=>by rw [show i-1=k by omega,HC2.out] at hlb;cases hlb;omega)
     have H23:=hid (show 2≤c.num∧c.num<sz by omega)
     have e1:=HM1.out
     clear h0 h2 h3 h4 hk hc2
     go_wp2_with (first
      | (refine wpList_load_at rfl 75 (.tmp 14) rfl b (o+i*3) rfl (ecC c) _ HRG.out Tryz.underlying75 rfl infoC ?_)
      | (refine wpList_fresh rfl 75 (.tmp 6) (.tmp 15) rfl (ecC c).toArray _ _ rfl rfl infoC rfl (all_of_one (ecC_one c)) ?_;intro W1 hb1 hr1 hz1;have HB1:=hid hb1;have HR1:=hid hr1;have c0:W1.cell? ⟨wr.heap.size,0,none⟩=some (.int .u32 c.num):=cell_of_row _ _ 0 _ _ _ hr1;have g0:W1.cell? ⟨q,0,none⟩=some (.int .u32 sz):=cell_of_row _ _ 0 _ _ _ ((hb1.block q (row_lt HII.out.row)).trans HII.out.row);have l0:q<W1.heap.size:=cell_lt g0;have l1:wr.heap.size<W1.heap.size:=cell_lt c0;have p0:W1.cell? ⟨b,o+k*3,none⟩=some (.int .u32 c2.num):=(World.cell?_of_block (a:=⟨b,_,none⟩) (hb1.block b hbs)).trans HP0.out;have l2:b<W1.heap.size:=Nat.lt_of_lt_of_le hbs hb1.size;clear hr1 hz1 hb1))
     rw [put_none]
     go_big_quiet (fail)
     have HB2:=hid (below_drewN HB1.out nq)
     have HR2:=hid (show (World.drewN W1 nq).heap[wr.heap.size]?=some (.cells (ecC c).toArray 75 (0,0)) from HR1.out)
     clear HR1 HB1 c0 g0 l0 l1
     generalize World.drewN W1 nq=W2 at *
     have c1:W2.cell? ⟨wr.heap.size,1,none⟩=some (.string c.d):=cell_of_row _ _ 1 _ _ _ HR2.out
     have l1:wr.heap.size<W2.heap.size:=cell_lt c1
     cases hdec:isN c.d
     ·have HDE:=hid (fun W=>decode_no c.d HCD.out (isN_none hdec) W)
      have HNO:=hid (not_ok (sz:=sz) HX.out (fun hh=>by have:=hh.2.2.1;rw [hdec] at this;cases this))
      clear hdec
      go_wp2_with (first
       | (go_at_call 90;(with_reducible refine (HDE.out _).mono ?_);rintro e w3 ⟨cs,rfl,ho3,hat3⟩;have HO3:=hid ho3;have HB3:=hid (HB2.out.trans (ho3.bel.mono HB2.out.size));have hsz4:=info4 hat3.size;have hz4:zN.size=cs.size:=hat3.size.symm;have ho4:=ho3.one.2;have HR3:=hid ((ho3.bel.block _ (row_lt HR2.out)).trans HR2.out);clear ho3 hat3)
       | (refine wpList_fresh rfl 31 (.tmp 7) (.tmp 47) rfl cs _ _ rfl rfl hsz4 hz4 ho4 ?_;intro w4 hb4 hr4 hz4b;have HB4:=hid (HB3.out.trans (hb4.mono HB3.out.size));have HR4:=hid ((hb4.block _ (row_lt HR3.out)).trans HR3.out);have HN4:=hid hr4;have HO4:=hid (HO3.out.go hb4);have HZ4:=hid hz4b;have hz34:w3.heap.size<w4.heap.size:=row_lt hr4;clear hb4 hr4 hz4b))
      go_ret
      exact⟨false,i,P,s,_,rfl,HII.out.go HB4.out,(by intro h;cases h),by simp;exact HNO.out⟩
     ·have HDE:=hid (fun W=>decode_yes c.d HCD.out (isN_some hdec) (decN_small (isN_some hdec)).2 W)
      have HDC:=hid hdec
      clear hdec
      go_wp2_with (first
       | (go_at_call 90;(with_reducible refine (HDE.out _).mono ?_);rintro e w3 ⟨cs,rfl,ho3,hat3⟩;have HO3:=hid ho3;have HB3:=hid (HB2.out.trans (ho3.bel.mono HB2.out.size));have hsz4:=info4 hat3.size;have hz4:zN.size=cs.size:=hat3.size.symm;have ho4:=ho3.one.2;have HR3:=hid ((ho3.bel.block _ (row_lt HR2.out)).trans HR2.out);clear ho3 hat3)
       | (refine wpList_fresh rfl 31 (.tmp 7) (.tmp 47) rfl cs _ _ rfl rfl hsz4 hz4 ho4 ?_;intro w4 hb4 hr4 hz4b;have HB4:=hid (HB3.out.trans (hb4.mono HB3.out.size));have HR4:=hid ((hb4.block _ (row_lt HR3.out)).trans HR3.out);have HN4:=hid hr4;have HO4:=hid (HO3.out.go hb4);have HZ4:=hid hz4b;have hz34:w3.heap.size<w4.heap.size:=row_lt hr4;clear hb4 hr4 hz4b))
      obtain⟨vI,vK,vV,hcs,_,_,_⟩:=HO4.out
      subst hcs
      have HON:=hid (show OwN w.heap.size w4 vI vK vV (ndD c.d) from OwN.of HO4.out (by have:=HII.out.grown.size;have:=HB2.out.size;omega))
      have hkeep:∀ wx:World,wx.heap[q]?=some (.cells #[.int .u32 sz,.slice A6 n6 c6] 68 (0,0))→wx.heap[wr.heap.size]?=some (.cells (ecC c).toArray 75 (0,0))→wx.heap[w3.heap.size]?=some (.cells #[.int .u8 (ndD c.d).kd,vI,vK,vV] 31 (0,0))→wx.cell? ⟨q,1,none⟩=some (.slice A6 n6 c6)∧wx.rangeAt wr.heap.size 0 (ecC c)∧wx.rangeAt w3.heap.size 0 [.int .u8 (ndD c.d).kd,vI,vK,vV]:=fun wx h1 h2 h3=>⟨cell_of_row _ _ 1 _ _ _ h1,rangeAt_row h2 (fun j v hv=>by rw [Nat.zero_add,List.getElem?_toArray];exact hv),rangeAt_row h3 (fun j v hv=>by rw [Nat.zero_add];simpa using hv)⟩
      have HKP:=hid hkeep
      have HI5:=hid (HII.out.go (HB4.out.trans (show Below wr.heap.size w4 w4.drew from (Below.refl _ _).drew)))
      have HR5:=hid (show w4.drew.heap[wr.heap.size]?=some (.cells (ecC c).toArray 75 (0,0)) from HR4.out)
      have HN5:=hid (show w4.drew.heap[w3.heap.size]?=some (.cells #[.int .u8 (ndD c.d).kd,vI,vK,vV] 31 (0,0)) from HN4.out)
      have HON5:=hid (HON.out.go (Below.refl _ _).drew)
      have HZ5:=hid (show w3.heap.size<w4.drew.heap.size∧wr.heap.size<w4.drew.heap.size from⟨hz34,row_lt HR4.out⟩)
      clear HR2 HR3 HR4 HN4 HO3 HO4 HB2 HB3 HB4 HDE hkeep HON HII HZ4 hsz4 hz4 ho4 c1 l1 hz34
      refine wp_region_T (fun w':World=>w'.cell? ⟨q,1,none⟩=some (.slice A6 n6 c6)∧w'.rangeAt wr.heap.size 0 (ecC c)∧w'.rangeAt w3.heap.size 0 [.int .u8 (ndD c.d).kd,vI,vK,vV]) 11 (by kernel_rfl) (by kernel_rfl) ?_
      generalize w4.drew=w5 at *
      have hS:=HKP.out w5 HI5.out.row HR5.out HN5.out
      refine take_T 0 51 (.pointer (some ⟨q,0,none⟩)) rfl (by rfl) (by kernel_rfl) (by decide) (by kernel_rfl) (by kernel_rfl) (by kernel_rfl) (fun _ _ _ h=>h) (Or.inl ⟨by rfl,fun w' hSw=>by obtain⟨s0,s1,s2⟩:=hSw;go_simp⟩) hS ?_
      simp only [Gb3a,Gb3b,Gb3c]
      refine take_T 1 52 (.pointer (some ⟨q,0,none⟩)) rfl (by rfl) (by kernel_rfl) (by decide) (by kernel_rfl) (by kernel_rfl) (by kernel_rfl) (fun _ _ _ h=>h) (Or.inl ⟨by rfl,fun w' hSw=>by obtain⟨s0,s1,s2⟩:=hSw;go_simp⟩) hS ?_
      simp only [Gb3a,Gb3b,Gb3c]
      refine take_T 2 53 (.pointer (some ⟨q,0,none⟩)) rfl (by rfl) (by kernel_rfl) (by decide) (by kernel_rfl) (by kernel_rfl) (by kernel_rfl) (fun _ _ _ h=>h) (Or.inl ⟨by rfl,fun w' hSw=>by obtain⟨s0,s1,s2⟩:=hSw;go_simp⟩) hS ?_
      simp only [Gb3a,Gb3b,Gb3c]
      refine take_T 3 54 (.pointer (some ⟨q,1,none⟩)) rfl (by rfl) (by kernel_rfl) (by decide) (by kernel_rfl) (by kernel_rfl) (by kernel_rfl) (fun _ _ _ h=>h) (Or.inl ⟨by rfl,fun w' hSw=>by obtain⟨s0,s1,s2⟩:=hSw;go_simp⟩) hS ?_
      simp only [Gb3a,Gb3b,Gb3c]
      refine take_T 4 55 (.slice A6 n6 c6) rfl (by rfl) (by kernel_rfl) (by decide) (by kernel_rfl) (by kernel_rfl) (by kernel_rfl) (fun _ _ _ h=>h) (Or.inl ⟨by rfl,fun w' hSw=>by obtain⟨s0,s1,s2⟩:=hSw;go_simp⟩) hS ?_
      simp only [Gb3a,Gb3b,Gb3c]
      refine take_T 5 56 (.agg (ecC c).toArray) rfl (by rfl) (by kernel_rfl) (by decide) (by kernel_rfl) (by kernel_rfl) (by kernel_rfl) (fun _ _ _ h=>h) (yieldsIf_load_mid (by rfl) 75 (.tmp 6) rfl wr.heap.size 0 rfl (ecC c) _ (fun w' hSw=>hSw.2.1) Tryz.underlying75 rfl infoC) hS ?_
      simp only [Gb3a,Gb3b,Gb3c]
      refine take_T 6 57 (.agg #[.int .u8 (ndD c.d).kd,vI,vK,vV]) rfl (by rfl) (by kernel_rfl) (by decide) (by kernel_rfl) (by kernel_rfl) (by kernel_rfl) (fun _ _ _ h=>h) (yieldsIf_load_mid (by rfl) 31 (.tmp 7) rfl w3.heap.size 0 rfl [.int .u8 (ndD c.d).kd,vI,vK,vV] _ (fun w' hSw=>hSw.2.2) Tryz.underlying31 rfl (by kernel_rfl)) hS ?_
      simp only [Gb3a,Gb3b,Gb3c]
      refine take_T 7 58 (.agg #[.int .u32 c.num,.string c.d,.int .i64 c.r,.int .u8 (ndD c.d).kd,vI,vK,vV,.slice none 0 0,.int .i64 0,.int .u8 0,.int .u8 0,.int .u8 0,.int .u8 0,.int .u8 0,.int .u8 0,.int .u8 0,.int .u8 0,.int .u8 0,.int .u8 0,.int .u8 0,.int .u8 0,.int .u8 0,.int .u8 0,.int .u8 0,.int .u8 0,.int .u8 0,.int .u8 0,.int .u8 0,.int .u8 0,.int .u8 0,.int .u8 0,.int .u8 0,.int .u8 0,.int .u8 0,.int .u8 0,.int .u8 0,.int .u8 0,.int .u8 0,.int .u8 0,.int .u8 0,.int .u8 0,.bool false]) rfl (by rfl) (by kernel_rfl) (by decide) (by kernel_rfl) (by kernel_rfl) (by kernel_rfl) (fun _ _ _ h=>h) (Or.inl ⟨by rfl,fun w' hSw=>by obtain⟨s0,s1,s2⟩:=hSw;(unfold ecC;go_simp)⟩) hS ?_
      simp only [Gb3a,Gb3b,Gb3c]
      refine only_T 8 rfl (by kernel_rfl) (by decide) (by rfl) (fun K hK=>?_)
      go_simp
      rw [← row_built]
      have hal:Below w5.heap.size w5 (w5.alloc (.cells (ecO (tcO c vI vK vV)).toArray 82)):=(Below.refl _ _).alloc (Nat.le_refl _) _
      have HI6:=hid (HI5.out.go hal)
      have HR6:=hid ((hal.block _ (row_lt HR5.out)).trans HR5.out)
      have HN6:=hid ((hal.block _ (row_lt HN5.out)).trans HN5.out)
      have HNEW:=hid (heap_alloc_new w5 (.cells (ecO (tcO c vI vK vV)).toArray 82))
      have HON6:=hid (HON5.out.go hal)
      have HNP:=hid (show w5.heap.size ∉ P from fun h=>Nat.lt_irrefl _ (HI5.out.at_.lt h))
      have HPW:=hid (show w.heap.size≤w5.heap.size from HI5.out.grown.size)
      have hS2:=HKP.out _ HI6.out.row HR6.out HN6.out
      clear hal hS
      refine hK.out _ _ hS2 ?_
      clear hK K
      try simp only [Act.put,Gb3a,Gb3b,Gb3c]
      generalize w5.alloc (.cells (ecO (tcO c vI vK vV)).toArray 82)=w6 at *
      generalize w5.heap.size=pb at *
      have hS:=hS2
      clear hS2
      refine only_T 9 rfl (by kernel_rfl) (by decide) (by rfl) (fun K hK=>?_)
      go_simp
      have hal:Below w6.heap.size w6 (w6.alloc (.cells #[.pointer (some ⟨pb,0,none⟩)] 71)):=(Below.refl _ _).alloc (Nat.le_refl _) _
      have HI7:=hid (HI6.out.go hal)
      have HR7:=hid ((hal.block _ (row_lt HR6.out)).trans HR6.out)
      have HN7:=hid ((hal.block _ (row_lt HN6.out)).trans HN6.out)
      have HNEW7:=hid ((hal.block _ (row_lt HNEW.out)).trans HNEW.out)
      have HON7:=hid (HON6.out.go hal)
      have HNB:=hid (show (w6.alloc (.cells #[.pointer (some ⟨pb,0,none⟩)] 71)).heap[w6.heap.size]?=some (.cells (enP pb).toArray TP (0,0)) from heap_alloc_new w6 _)
      have hS2:=HKP.out _ HI7.out.row HR7.out HN7.out
      clear hal hS
      refine hK.out _ _ hS2 ?_
      clear hK K
      try simp only [Act.put,Gb3a,Gb3b,Gb3c]
      have hS:=hS2
      clear hS2
      generalize w6.alloc (.cells #[.pointer (some ⟨pb,0,none⟩)] 71)=w7 at *
      obtain⟨X,hXs,hMX⟩:=HI7.out.own.mk (HI7.out.grown.size)
      have HXX:=hid hXs
      have HMX:=hid hMX
      have HPL:=hid HI7.out.len
      clear hXs hMX
      refine only_T 10 rfl (by kernel_rfl) (by decide) (by rfl) (fun K hK=>?_)
      refine op_catP HMX.out pb w6.heap.size 1 HNB.out (by have:=HPL.out;omega) _ _ rfl rfl rfl ?_
      intro v8 w8 hM8 hG8 hat8
      obtain⟨A8,n8,c8,rfl⟩:∃ A n c,v8=.slice A n c:=(by obtain⟨A,c,h,_⟩:=hM8.ls enP_len;exact⟨A,_,c,h⟩)
      have HFIN:=hid (HI7.out.next HX.out H23.out HDC.out HPR.out HNEW7.out HNP.out HPW.out HON7.out HXX.out hM8 hG8 hql)
      have hoff:∀ {g:Nat}{cs:Array Value}{t:TypeId}{f:Nat×Nat},w7.heap[g]?=some (.cells cs t f)→t≠TP→w8.heap[g]?=some (.cells cs t f):=fun {g cs t f} hg ht=>(hG8.block g (row_lt hg) (fun e=>Mk.off HMX.out hg ht e.symm)).trans hg
      have HQ8:=hid (hoff HI7.out.row (by decide))
      have hS2:=HKP.out w8 HQ8.out (hoff HR7.out (by decide)) (hoff HN7.out (by decide))
      clear hoff hM8 hG8 hat8 hS
      refine hK.out _ _ hS2 ?_
      clear hK K hS2
      try simp only [Act.put,Gb3a,Gb3b,Gb3c]
      refine done_T (by kernel_rfl) ?_
      simp only [List.drop_succ_cons,List.drop_zero]
      have hcq:w8.cell? ⟨q,1,none⟩=some (.slice A6 n6 c6):=cell_of_row _ _ 1 _ _ _ HQ8.out
      have hfq:w8.frozen? ⟨q,1,none⟩=false:=frozen_of_row _ _ _ _ _ HQ8.out
      have hlq:q<w8.heap.size:=row_lt HQ8.out
      go_wp2
      exact⟨⟨i+1,_,_,_,by omega,by go_num,HFIN.out⟩,by simp [intOf]<;>omega⟩
  ·have hin:i=n:=by omega
   have HIN:=hid (hin.trans HN.out)
   clear hin
   go_wp2
   go_ret
   exact⟨true,i,P,s,pv,rfl,HII.out,fun _=>HIN.out,by simp;rw [← HIN.out];exact HII.out.ok⟩
def toF (s:Nat→Ob) (P:List Nat) (p:Nat):List Nat:=psF s P (nmN (s p).n)
def gdF (s:Nat→Ob) (P:List Nat) (p:Nat):Bool:=goodF s P (nmN (s p).n)
theorem good_all {s:Nat→Ob}{P:List Nat}{D:List Kd}(h:goodF s P D=true):allF s P D=true:=by
 unfold goodF at h
 unfold allF
 rw [List.all_eq_true] at h ⊢
 intro k hk
 have:=h k hk
 unfold okF at this
 cases hf:fndP s P k.n with
 | none=>rw [hf] at this;cases this
 | some p=>rfl
theorem psF_congr {s t:Nat→Ob}{P:List Nat}(h:∀ p,(t p).num=(s p).num) (D:List Kd):psF t P D=psF s P D:=by
 unfold psF
 congr 1
 funext k
 exact fndP_congr h _
theorem goodF_congr {s t:Nat→Ob}{P:List Nat}(h:∀ p,(t p).num=(s p).num) (hd:∀ p,(t p).d=(s p).d) (D:List Kd):goodF t P D=goodF s P D:=by
 unfold goodF
 congr 1
 funext k
 unfold okF
 rw [fndP_congr h]
 cases fndP s P k.n with
 | none=>rfl
 | some p=>simp only [hd]
theorem psF_len (s:Nat→Ob) (P:List Nat) (D:List Kd):(psF s P D).length≤D.length:=List.length_filterMap_le _ _
theorem nmN_le {n:Nd}(h1:n.K.length≤255) (h2:n.V.length≤255):(nmN n).length≤255:=by
 unfold nmN
 split
 ·rw [List.length_map];exact h1
 ·split
  ·rw [List.length_map];exact Nat.le_trans (List.length_filter_le _ _) h2
  ·exact Nat.zero_le _
structure Sm (o o':Ob):Prop where
 num:o'.num=o.num
 d:o'.d=o.d
 r:o'.r=o.r
 n:o'.n=o.n
 vI:o'.vI=o.vI
 vK:o'.vK=o.vK
 vV:o'.vV=o.vV
 gn:o'.gn=o.gn
theorem Sm.refl (o:Ob):Sm o o:=⟨rfl,rfl,rfl,rfl,rfl,rfl,rfl,rfl⟩
structure LdI (n0:Nat) (w0 wr:World) (P:List Nat) (s:Nat→Ob) (i:Nat) (t:Nat→Ob):Prop where
 at_:HpAt n0 wr P t
 off:Off n0 w0 wr
 sm:∀ p,Sm (s p) (t p)
 a:∀ p,(t p).a=(s p).a+((P.take i).flatMap (toF s P)).count p
 bl:∀ j p,j<i→P[j]?=some p→(t p).bl=toF s P p
 good:∀ j p,j<i→P[j]?=some p→gdF s P p=true
theorem flat_le {P:List Nat}{f:Nat→List Nat}{k:Nat}(h:∀ p∈P,(f p).length≤k):(P.flatMap f).length≤P.length*k:=by
 induction P with
 | nil=>simp
 | cons x P ih =>
  rw [List.flatMap_cons,List.length_append,List.length_cons,Nat.succ_mul]
  have:=h x List.mem_cons_self
  have:=ih fun p hp=>h p (List.mem_cons_of_mem _ hp)
  omega
def LdPost (n0:Nat) (w:World) (P:List Nat) (s:Nat→Ob) (e:Ending) (w':World):Prop :=
 ∃ (b:Bool) (t:Nat→Ob),e=.returned (.bool b)∧HpAt n0 w' P t∧Off n0 w w'∧(b=true↔∀ p∈P,gdF s P p=true)∧(b=true→∀ p,Sm (s p) (t p)∧(t p).a=(s p).a+(P.flatMap (toF s P)).count p∧(p∈P→(t p).bl=toF s P p))
theorem LdI.next {n0 i p:Nat}{w0 wr w2:World}{P E:List Nat}{s t u:Nat→Ob}{v:Value}(h:LdI n0 w0 wr P s i t) (hp:P[i]?=some p) (hg:gdF s P p=true) (hH:HpAt n0 w2 P u) (ho:Off n0 wr w2) (hu:u=fun x=>(t x).ask (E.count x)) (hE:E=toF s P p) (hO:OwP n0 w2 v E) :
  LdI n0 w0 (w2.setCell ⟨p,7,none⟩ v) P s (i+1) (upd u p ((u p).be E v)):=by
 have hpP:=List.mem_of_getElem? hp
 obtain⟨hil,hpe⟩:=List.getElem?_eq_some_iff.1 hp
 obtain⟨h1,h2⟩:=hH.put hpP (grown_cell w2 p 7 v) ((hH.at_ hpP).setB E v) (hH.own p hpP) hO
 have hsu:∀ x,Sm (s x) (u x)∧(u x).a=(t x).a+E.count x∧(u x).bl=(t x).bl:=fun x=>by
  rw [hu]
  exact⟨⟨(h.sm x).num,(h.sm x).d,(h.sm x).r,(h.sm x).n,(h.sm x).vI,(h.sm x).vK,(h.sm x).vV,(h.sm x).gn⟩,rfl,rfl⟩
 refine⟨h1,(h.off.trans ho).trans h2,fun x=>?_,fun x=>?_,fun j x hj hx=>?_,fun j x hj hx=>?_⟩
 ·by_cases e:x=p
  ·subst e;rw [upd_same]
   exact⟨(hsu x).1.num,(hsu x).1.d,(hsu x).1.r,(hsu x).1.n,(hsu x).1.vI,(hsu x).1.vK,(hsu x).1.vV,(hsu x).1.gn⟩
  ·rw [upd_other e];exact (hsu x).1
 ·have hc:((P.take (i+1)).flatMap (toF s P)).count x=((P.take i).flatMap (toF s P)).count x+E.count x:=by
   rw [take_snoc hp,List.flatMap_append,List.count_append,hE]
   simp
  have:(upd u p ((u p).be E v) x).a=(u x).a:=by
   by_cases e:x=p
   ·subst e;rw [upd_same];rfl
   ·rw [upd_other e]
  rw [this,(hsu x).2.1,h.a x,hc,Nat.add_assoc]
 ·by_cases e:x=p
  ·subst e;rw [upd_same];exact hE
  ·rw [upd_other e,(hsu x).2.2]
   by_cases e2:j=i
   ·subst e2;rw [hp] at hx;cases hx;exact absurd rfl e
   ·exact h.bl j x (by omega) hx
 ·by_cases e2:j=i
  ·subst e2;rw [hp] at hx;cases hx;exact hg
  ·exact h.good j x (by omega) hx
set_option maxHeartbeats 4000000 in
theorem takeLeads_any {tK tS:TypeId}{n0 q:Nat}{w:World}{P:List Nat}{s:Nat→Ob}(h:Wk n0 w q P s) (hk:Kc tK tS n0 w) (hn:n0≤w.heap.size) (hl:P.length≤65536) (ha:∀ p∈P,(s p).a=0) (hd:∀ p∈P,(s p).d.size≤140737488351232)
  (hf:∀ p∈P,Wd (s p).n∧(s p).n.I.length≤255∧(s p).n.K.length≤255∧(s p).n.V.length≤255) :
  Calls Tryz.prog 63 #[.pointer (some ⟨q,0,none⟩)] w (LdPost n0 w P s):=by
 have HW:=hid h
 obtain⟨⟨cs,t,v,hrow,ht,hv,hO⟩,hH,hU,hm⟩:=h
 obtain⟨A,c,rfl,_,_,hL⟩:=hO.ls
 have hq:q<w.heap.size:=row_lt hrow
 have hc0:w.cell? ⟨q,1,none⟩=some (.slice A P.length c):=(cell_of_row _ _ 1 _ _ _ hrow).trans hv
 obtain⟨n,hnl⟩:∃ n,P.length=n:=⟨_,rfl⟩
 rw [hnl] at hc0 hl
 have HO:=hid hO
 have HN:=hid hnl
 have HK:=hid hk
 have HD:=hid hd
 have HF:=hid hf
 have HAA:=hid ha
 clear hO hv hL hnl hH hU hrow hk hd hf ha hm
 go_enter Tryz.func63,Tryz.ntmps63
 go_wp2_with fail
 go_loopw [12] (fun v wr=>∃ (i:Nat) (t:Nat→Ob),i≤n∧v=.int .i64 i∧Hid (LdI n0 w wr P s i t)) (fun v _=>n-(intOf v).toNat)
 case atStart=>exact⟨0,s,Nat.zero_le _,by go_num,⟨HW.out.2.1,Off.refl _ _,fun p=>Sm.refl _,fun p=>by simp,fun j p hj=>absurd hj (Nat.not_lt_zero _),fun j p hj=>absurd hj (Nat.not_lt_zero _)⟩⟩
 case round =>
  obtain⟨i,t,hi,rfl,hI⟩:=hrel
  have HII:=hid (Hid.out hI)
  clear hI
  by_cases hlt:i<n
  ·obtain⟨p,hp⟩:∃ p,P[i]?=some p:=⟨_,List.getElem?_eq_getElem (by rw [HN.out];exact hlt)⟩
   have HP:=hid hp
   have hpP:=List.mem_of_getElem? hp
   have hL:=own_ls enP_len (by have:=HII.out.off.own (by decide) HO.out;rw [HN.out] at this;rw [HN.out];exact this)
   obtain⟨b,o,hAe,hbs,hr⟩:=hL i p hp
   have hcp:wr.cell? ⟨b,o+i,none⟩=some (.pointer (some ⟨p,0,none⟩)):=by have:=hr 0 _ rfl;rwa [Nat.mul_one] at this
   have hAt:=HII.out.at_.at_ hpP
   have hlp:p<wr.heap.size:=hAt.lt
   have HRN:=hid (show wr.rangeAt p 3 [.int .u8 (t p).n.kd,(t p).vI,(t p).vK,(t p).vV] from fun j v hv=>by
    match j,hv with
    | 0,hv=>exact hAt.cell (i:=3) hv
    | 1,hv=>exact hAt.cell (i:=4) hv
    | 2,hv=>exact hAt.cell (i:=5) hv
    | 3,hv=>exact hAt.cell (i:=6) hv
    | j+4,hv=>simp at hv)
   have HWR:=hid (HW.out.off HII.out.off HII.out.at_ (fun x=>(HII.out.sm x).num))
   have HKR:=hid (HK.out.off HII.out.off)
   have hz0:w.heap.size≤wr.heap.size:=HII.out.off.size
   have hsn:=(HII.out.sm p).n
   have hnode:Wd (t p).n∧(t p).n.I.length≤255∧(t p).n.K.length≤255∧(t p).n.V.length≤255:=by rw [hsn];exact HF.out p hpP
   have hacnt:∀ x∈P,(t x).a≤1099511627000:=fun x hx=>by
    rw [HII.out.a x,HAA.out x hx]
    have h1:=List.count_le_length (a:=x) (l:=(P.take i).flatMap (toF s P))
    have h2:((P.take i).flatMap (toF s P)).length≤(P.take i).length*255:=flat_le fun y hy=>Nat.le_trans (psF_len _ _ _) (nmN_le (HF.out y (List.mem_of_mem_take hy)).2.2.1 (HF.out y (List.mem_of_mem_take hy)).2.2.2)
    have h3:(P.take i).length≤i:=List.length_take_le _ _
    omega
   have HBEL:=hid (below_any HWR.out HKR.out (Nat.le_trans hn hz0) (fun x hx=>by rw [(HII.out.sm x).d];exact HD.out x hx) hacnt (t p).n hnode.1 hnode.2.2.1 hnode.2.2.2 #[.int .u8 (t p).n.kd,(t p).vI,(t p).vK,(t p).vV] ((HII.out.at_.own p hpP).nd.at_ (by omega) (by omega) (by omega)))
   clear hp hL hr hAt hsn hnode hacnt
   subst hAe
   go_wp2_with (refine wpList_load_at rfl 31 (.tmp 20) rfl p 3 rfl [.int .u8 (t p).n.kd,(t p).vI,(t p).vK,(t p).vV] _ HRN.out Tryz.underlying31 rfl (by kernel_rfl) ?_)
   refine HBEL.out.mono ?_
   rintro e w2 ⟨E,u,v2,z,rfl,hH2,ho2,hu,⟨A2,n2,c2,rfl⟩,hz⟩
   have HH2:=hid hH2
   have HO2:=hid ho2
   have HU2:=hid hu
   have hgt:goodF t P (nmN (t p).n)=gdF s P p:=by
    unfold gdF
    rw [goodF_congr (fun x=>(HII.out.sm x).num) (fun x=>(HII.out.sm x).d),(HII.out.sm p).n]
   have hpt:psF t P (nmN (t p).n)=toF s P p:=by
    unfold toF
    rw [psF_congr (fun x=>(HII.out.sm x).num),(HII.out.sm p).n]
   have HNOT:=hid (show gdF s P p=false→¬ ∀ x∈P,gdF s P x=true from fun h0 hh=>by rw [hh p hpP] at h0;cases h0)
   have hlp2:p<w2.heap.size:=Nat.lt_of_lt_of_le hlp ho2.size
   clear hH2 ho2 hu HBEL
   rcases hz with ⟨rfl,hall⟩ | ⟨_,hz,hE,hO3⟩
   ·have HNG:=hid (HNOT.out (by
     rw [← hgt]
     cases hg:goodF t P (nmN (t p).n)
     ·rfl
     ·rw [good_all hg] at hall;cases hall))
    clear hall hgt hpt
    go_wp2_with fail
    go_ret
    exact⟨false,u,rfl,HH2.out,HII.out.off.trans HO2.out,by simp;simpa using HNG.out,(by intro h;cases h)⟩
   ·rw [hgt] at hz
    rw [hpt] at hE
    have HE:=hid hE
    have HO3:=hid (show OwP n0 w2 (.slice A2 n2 c2) E from World.ownsRow.mono hO3 (Nat.le_trans hn hz0))
    clear hE hO3 hgt hpt
    cases hg:gdF s P p
    ·rw [hg] at hz
     have hz9:z=9:=hz
     have HNG:=hid (HNOT.out hg)
     clear hz hg
     subst hz9
     go_wp2_with fail
     go_ret
     exact⟨false,u,rfl,HH2.out,HII.out.off.trans HO2.out,by simp;simpa using HNG.out,(by intro h;cases h)⟩
    ·rw [hg] at hz
     have hz9:z=0:=hz
     have HLN:=hid (HII.out.next HP.out hg HH2.out HO2.out HU2.out HE.out HO3.out)
     have hc7:w2.cell? ⟨p,7,none⟩=some (u p).bv:=(HH2.out.at_ hpP).cell (i:=7) rfl
     have hf7:w2.frozen? ⟨p,7,none⟩=false:=(HH2.out.at_ hpP).frozen 7
     clear hz hg
     subst hz9
     generalize (u p).bv=bv at *
     go_wp2_with fail
     exact⟨⟨i+1,_,by omega,by go_num,HLN.out⟩,by simp [intOf]<;>omega⟩
  ·have hin:i=n:=by omega
   have HT:=hid (show P.take i=P by rw [hin,← HN.out,List.take_length])
   have HIN:=hid hin
   clear hin
   go_wp2
   go_ret
   have h:=HII.out
   refine⟨true,t,rfl,h.at_,h.off,by
    simp only [true_iff]
    intro x hx
    obtain⟨j,hj⟩:=List.mem_iff_getElem?.1 hx
    exact h.good j x (by have:=(List.getElem?_eq_some_iff.1 hj).1;rw [HIN.out,← HN.out];exact this) hj,fun _ x=>⟨h.sm x,by have:=h.a x;rwa [HT.out] at this,fun hx=>?_⟩⟩
   obtain⟨j,hj⟩:=List.mem_iff_getElem?.1 hx
   exact h.bl j x (by have:=(List.getElem?_eq_some_iff.1 hj).1;rw [HIN.out,← HN.out];exact this) hj
def ceO (o:Ob):Ce:=⟨o.num,o.d,o.r⟩
def nms (d:ByteArray):List Nat:=(nmN (ndD d)).map (·.n)
def ldL (L:List Ce) (n:Nat):Nat:=(L.flatMap fun c=>nms c.d).count n
def okLd (L:List Ce):Prop:=∀ c∈L,∀ k∈nmN (ndD c.d),∃ x∈L,x.num=k.n∧hsD x.d=k.hs
def okRf (L:List Ce):Prop:=∀ c∈L,(ldL L c.num:Int)≤c.r∧c.r≤16777216
structure okH (sz:Nat) (L:List Ce):Prop where
 lo:16≤sz
 hi:sz≤65536
 cs:okTo sz L L.length
 ld:okLd L
 rf:okRf L
theorem okTo.len {sz:Nat}{L:List Ce}(h:okTo sz L L.length) (hs:sz≤65536):L.length≤65536:=by
 rcases Nat.eq_zero_or_pos L.length with h0 | h0
 ·omega
 ·have hl:L[L.length-1]?=some (L[L.length-1]'(by omega)):=List.getElem?_eq_getElem _
  have h1:=h.ge _ _ (by omega) hl
  have h2:=(h _ _ (by omega) hl).2.1
  omega
theorem okTo.rise {sz:Nat}{L:List Ce}(h:okTo sz L L.length):∀ (j i:Nat) (x y:Ce),i<j→L[i]?=some x→L[j]?=some y→x.num<y.num
 | 0,i,x,y,hij,_,_=>by omega
 | j+1,i,x,y,hij,hx,hy=>by
  obtain⟨hl,_⟩:=List.getElem?_eq_some_iff.1 hy
  have hb:L[j]?=some (L[j]'(by omega)):=List.getElem?_eq_getElem _
  have h2:=(h (j+1) y hl hy).2.2.2 _ (by omega) hb
  by_cases e:i=j
  ·subst e
   rw [hb] at hx;cases hx
   exact h2
  ·have:=okTo.rise h j i x _ (by omega) hx hb
   omega
theorem up_of {sz:Nat}{P:List Nat}{s:Nat→Ob}(h:okTo sz (P.map fun p=>ceO (s p)) (P.map fun p=>ceO (s p)).length):Up s P:=by
 unfold Up
 rw [List.pairwise_iff_getElem]
 intro i j hi hj hij
 exact h.rise j i (ceO (s P[i])) (ceO (s P[j])) hij (by rw [List.getElem?_map,List.getElem?_eq_getElem hi];rfl) (by rw [List.getElem?_map,List.getElem?_eq_getElem hj];rfl)
theorem HpAt.mono {n0 m0:Nat}{w:World}{P:List Nat}{s:Nat→Ob}(h:HpAt n0 w P s) (hm:m0≤n0):HpAt m0 w P s :=
 ⟨h.nd,fun p hp=>Nat.le_trans hm (h.lo p hp),h.row,fun p hp=>⟨World.ownsRow.mono (h.own p hp).1 hm,World.ownsRow.mono (h.own p hp).2.1 hm,World.ownsRow.mono (h.own p hp).2.2 hm⟩,fun p hp=>World.ownsRow.mono (h.bel p hp) hm⟩
theorem gd_iff {P:List Nat}{s:Nat→Ob}(hu:Up s P) (hn:∀ p∈P,(s p).n=ndD (s p).d):(∀ p∈P,gdF s P p=true)↔okLd (P.map fun p=>ceO (s p)):=by
 constructor
 ·intro h c hc k hk
  obtain⟨p,hp,rfl⟩:=List.mem_map.1 hc
  have h1:=h p hp
  unfold gdF goodF at h1
  rw [hn p hp,List.all_eq_true] at h1
  have h2:=h1 k hk
  unfold okF at h2
  cases hf:fndP s P k.n with
  | none=>rw [hf] at h2;cases h2
  | some q =>
   rw [hf] at h2
   obtain⟨hq,hqn⟩:=fndP_some hf
   exact⟨ceO (s q),List.mem_map.2 ⟨q,hq,rfl⟩,hqn,of_decide_eq_true h2⟩
 ·intro h p hp
  unfold gdF goodF
  rw [hn p hp,List.all_eq_true]
  intro k hk
  obtain⟨x,hx,h1,h2⟩:=h _ (List.mem_map.2 ⟨p,hp,rfl⟩) k hk
  obtain⟨q,hq,rfl⟩:=List.mem_map.1 hx
  unfold okF
  rw [fndP_yes hu hq h1]
  exact decide_eq_true h2
theorem to_num {P:List Nat}{s:Nat→Ob}(hn:∀ p∈P,(s p).n=ndD (s p).d){p:Nat}(hp:p∈P) (hg:gdF s P p=true):(toF s P p).map (fun q=>(s q).num)=nms (s p).d:=by
 unfold gdF at hg
 unfold toF nms
 rw [hn p hp] at hg ⊢
 generalize nmN (ndD (s p).d)=D at *
 induction D with
 | nil=>rfl
 | cons k D ih =>
  have h1:=good_all hg
  unfold allF at h1
  rw [List.all_cons,Bool.and_eq_true] at h1
  obtain⟨q,hq⟩:=Option.isSome_iff_exists.1 h1.1
  unfold goodF at hg
  rw [List.all_cons,Bool.and_eq_true] at hg
  unfold psF
  rw [List.filterMap_cons,hq,List.map_cons,List.map_cons,(fndP_some hq).2]
  exact congrArg _ (ih hg.2)
theorem count_map_inj {l:List Nat}{f:Nat→Nat}{p:Nat}(h:∀ q∈l,f q=f p→q=p):(l.map f).count (f p)=l.count p:=by
 induction l with
 | nil=>rfl
 | cons x l ih =>
  rw [List.map_cons,List.count_cons,List.count_cons,ih fun q hq=>h q (List.mem_cons_of_mem _ hq)]
  congr 1
  by_cases e:x=p
  ·subst e;simp
  ·have:¬ f x=f p:=fun e2=>e (h x List.mem_cons_self e2)
   simp [e,this]
theorem flat_mem {P Q:List Nat}{s:Nat→Ob}:∀ q∈Q.flatMap (toF s P),q∈P:=by
 intro q hq
 obtain⟨r,_,h⟩:=List.mem_flatMap.1 hq
 exact psF_mem q h
theorem cnt_ld {P:List Nat}{s:Nat→Ob}(hu:Up s P) (hn:∀ p∈P,(s p).n=ndD (s p).d) (hg:∀ p∈P,gdF s P p=true){p:Nat}(hp:p∈P):(P.flatMap (toF s P)).count p=ldL (P.map fun p=>ceO (s p)) (s p).num:=by
 have h1:∀ Q:List Nat,(∀ q∈Q,q∈P)→(Q.flatMap (toF s P)).map (fun q=>(s q).num)=(Q.map fun p=>ceO (s p)).flatMap fun c=>nms c.d:=by
  intro Q
  induction Q with
  | nil=>intro _;rfl
  | cons x Q ih =>
   intro hQ
   rw [List.flatMap_cons,List.map_append,List.map_cons,List.flatMap_cons,ih fun q hq=>hQ q (List.mem_cons_of_mem _ hq),to_num hn (hQ x List.mem_cons_self) (hg x (hQ x List.mem_cons_self))]
   rfl
 unfold ldL
 rw [← h1 P fun q h=>h,count_map_inj (f:=fun q=>(s q).num) fun q hq e=>up_inj hu (flat_mem q hq) hp e]
structure Tk (n0:Nat) (w:World) (v:Value) (P:List Nat) (s:Nat→Ob) (L:List Ce):Prop where
 own:OwP n0 w v P
 at_:HpAt n0 w P s
 up:Up s P
 len:P.length≤65536
 lst:L=P.map fun p=>ceO (s p)
 isn:∀ p∈P,isN (s p).d=true
 n:∀ p∈P,(s p).n=ndD (s p).d
 gn:∀ p∈P,(s p).gn=false
 bl:∀ p∈P,(s p).bl=toF s P p
 a:∀ p∈P,(s p).a=(P.flatMap (toF s P)).count p
 good:∀ p∈P,gdF s P p=true
 rf:∀ p∈P,((s p).a:Int)≤(s p).r∧(s p).r≤16777216
theorem Tk.go {n0:Nat}{w w':World}{v:Value}{P:List Nat}{s:Nat→Ob}{L:List Ce}(h:Tk n0 w v P s L) (hb:Below w.heap.size w w'):Tk n0 w' v P s L :=
 ⟨own_go h.own hb,h.at_.go hb,h.up,h.len,h.lst,h.isn,h.n,h.gn,h.bl,h.a,h.good,h.rf⟩
theorem Tk.cell {n0 q i:Nat}{w:World}{v u:Value}{P:List Nat}{s:Nat→Ob}{L:List Ce}{cs:Array Value}{ty:TypeId}{f:Nat×Nat}(h:Tk n0 w v P s L) (hq:w.heap[q]?=some (.cells cs ty f)) (ht:ty≠T∧ty≠TP∧ty≠63∧ty≠45∧ty≠121):Tk n0 (w.setCell ⟨q,i,none⟩ u) v P s L :=
 ⟨h.own.cell hq ht.2.1,h.at_.beside hq ht (grown_cell _ _ _ _),h.up,h.len,h.lst,h.isn,h.n,h.gn,h.bl,h.a,h.good,h.rf⟩
def TkPost (w:World) (sz:Nat) (L:List Ce) (e:Ending) (w':World):Prop :=
 Below w.heap.size w w'∧((okH sz L∧∃ A n c P s,e=.returned (.tuple #[.agg #[.int .u32 sz,.slice A n c],.int .i64 0])∧Tk w.heap.size w' (.slice A n c) P s L)∨(¬ okH sz L∧e=.returned (.tuple #[.agg #[.int .u32 0,zS],.int .i64 7])))
theorem isN_size {d:ByteArray}(h:isN d=true):d.size≤512:=by
 have h1:=isN_some h
 unfold decN at h1
 cases ho:openL d.data.toList with
 | none=>rw [ho] at h1;cases h1
 | some l =>
  have:=(seal_open ho).2.2.1
  simpa using this
theorem results_row2 {P:Program}{fn:Func}{p u:Tmp}{ty:TypeId}(h:fn.results=#[.cell p ty,.tmp u]) (tmps:Array Value) (w:World) (g:Nat) (t:TypeId) (cs:Array Value) (fr:Nat×Nat) (d:TypeDesc)
  (hp:tmps.getD p undef=.pointer (some ⟨g,0,none⟩)) (hg:w.heap[g]?=some (.cells cs t fr))
  (hu:P.underlying ty=some d) (hd:(match d with | .struct _ | .array _ _=>true | _=>false)=true) (hi:(P.info? ty).map (·.size)=some cs.size) (r:Value) (hr:tmps.getD u undef=r) :
  (results fn tmps).run P w=.ok (.tuple #[.agg cs,r]) w:=by
 rw [results_cell_tmp h,hp,hr]
 simp [asAddr,run_loadVar_row w g t ty cs fr d hg hu hd hi,Result.andThen]
theorem three_new (w:World) (c1 c2 c3:Array Value) (t1 t2 t3:TypeId):(((w.alloc (.cells c1 t1)).alloc (.cells c2 t2)).alloc (.cells c3 t3)).heap[w.heap.size+1]?=some (.cells c2 t2 (0,0))∧(((w.alloc (.cells c1 t1)).alloc (.cells c2 t2)).alloc (.cells c3 t3)).heap[w.heap.size+1+1]?=some (.cells c3 t3 (0,0)) ∧
  Below w.heap.size w (((w.alloc (.cells c1 t1)).alloc (.cells c2 t2)).alloc (.cells c3 t3))∧(((w.alloc (.cells c1 t1)).alloc (.cells c2 t2)).alloc (.cells c3 t3)).heap.size=w.heap.size+3:=by
 obtain⟨_,h2,h3,h4⟩:=two_new w c1 c2 t1 t2
 have hb:Below (w.heap.size+2) ((w.alloc (.cells c1 t1)).alloc (.cells c2 t2)) (((w.alloc (.cells c1 t1)).alloc (.cells c2 t2)).alloc (.cells c3 t3)):=(Below.refl _ _).alloc (by omega) _
 refine⟨(hb.block _ (by omega)).trans h2,?_,h3.alloc (by omega) _,by simp⟩
 have:=heap_alloc_new ((w.alloc (.cells c1 t1)).alloc (.cells c2 t2)) (.cells c3 t3)
 rw [h4] at this
 exact this
theorem lst_of {P:List Nat}{s:Nat→Ob}{L:List Ce}(hl:P.length=L.length) (ho:∀ (j p:Nat) (c:Ce),P[j]?=some p→L[j]?=some c→FrO c (s p)):L=P.map fun p=>ceO (s p):=by
 apply List.ext_getElem?
 intro j
 rw [List.getElem?_map]
 by_cases hj:j<P.length
 ·have h1:P[j]?=some (P[j]):=List.getElem?_eq_getElem hj
  have h2:L[j]?=some (L[j]'(by omega)):=List.getElem?_eq_getElem _
  have:=ho j _ _ h1 h2
  rw [h1,h2]
  show some _=some (ceO _)
  unfold ceO
  rw [this.num,this.d,this.r]
 ·rw [List.getElem?_eq_none (by omega),List.getElem?_eq_none (by omega)];rfl
theorem lst_sm {P:List Nat}{s t:Nat→Ob}(h:∀ p,Sm (s p) (t p)):(P.map fun p=>ceO (t p))=P.map fun p=>ceO (s p):=by
 apply List.map_congr_left
 intro p _
 unfold ceO
 rw [(h p).num,(h p).d,(h p).r]
theorem toF_sm {P:List Nat}{s t:Nat→Ob}(h:∀ p,Sm (s p) (t p)):toF t P=toF s P:=by
 funext p
 unfold toF
 rw [psF_congr (fun x=>(h x).num),(h p).n]
theorem gdF_sm {P:List Nat}{s t:Nat→Ob}(h:∀ p,Sm (s p) (t p)) (p:Nat):gdF t P p=gdF s P p:=by
 unfold gdF
 rw [goodF_congr (fun x=>(h x).num) (fun x=>(h x).d),(h p).n]
set_option maxHeartbeats 8000000 in
theorem takenUp_any {tK tS:TypeId}{w:World}(hk:Kc tK tS w.heap.size w) (sz:Nat) (L:List Ce) (A:Option Addr) (n cap:Nat) (hn:n=L.length) (hm:n≤4398046511104) (hD:Ls ecC 3 w w.heap.size A L) (hdz:∀ c∈L,c.d.size≤9223372036854775807) :
  Calls Tryz.prog 33 #[.agg #[.int .u32 sz,.slice A n cap]] w (TkPost w sz L):=by
 have HF:=hid (three_new w #[.int .u32 sz,.slice A n cap] #[.int .u32 0,.slice none 0 0] #[.int .u32 sz,.slice none 0 0] 25 68 68)
 have HN:=hid hn
 have HD:=hid hD
 have HDZ:=hid hdz
 have HK:=hid hk
 clear hn hD hdz hk
 by_cases h1:sz<16
 ·have d1:decide ((sz:Int)<16)=true:=by rw [decide_eq_true_iff];omega
  have HNO:=hid (show ¬ okH sz L from fun h=>by have:=h.lo;omega)
  clear h1
  go_enter Tryz.func33,Tryz.ntmps33
  go_wp2_with fail
  refine bodyPost_ret (v:=.tuple #[.agg #[.int .u32 0,.slice none 0 0],.int .i64 7]) (results_row2 rfl _ _ (w.heap.size+1) 68 #[.int .u32 0,.slice none 0 0] (0,0) _ rfl HF.out.1 Tryz.underlying68 rfl (by kernel_rfl) _ rfl) rfl ?_
  exact⟨HF.out.2.2.1,.inr ⟨HNO.out,rfl⟩⟩
 have d1:decide ((sz:Int)<16)=false:=by rw [decide_eq_false_iff_not];omega
 by_cases h2:65536<sz
 ·have d2:decide ((65536:Int)<(sz:Int))=true:=by rw [decide_eq_true_iff];omega
  have HNO:=hid (show ¬ okH sz L from fun h=>by have:=h.hi;omega)
  clear h1 h2
  go_enter Tryz.func33,Tryz.ntmps33
  go_wp2_with fail
  refine bodyPost_ret (v:=.tuple #[.agg #[.int .u32 0,.slice none 0 0],.int .i64 7]) (results_row2 rfl _ _ (w.heap.size+1) 68 #[.int .u32 0,.slice none 0 0] (0,0) _ rfl HF.out.1 Tryz.underlying68 rfl (by kernel_rfl) _ rfl) rfl ?_
  exact⟨HF.out.2.2.1,.inr ⟨HNO.out,rfl⟩⟩
 have d2:decide ((65536:Int)<(sz:Int))=false:=by rw [decide_eq_false_iff_not];omega
 have HSZ:=hid (show 16≤sz∧sz≤65536 by omega)
 clear h1 h2
 go_enter Tryz.func33,Tryz.ntmps33
 go_wp2_with fail
 generalize ((w.alloc (.cells #[.int .u32 (sz:Int),.slice A n cap] 25)).alloc (.cells #[.int .u32 0,.slice none 0 0] 68)).alloc (.cells #[.int .u32 (sz:Int),.slice none 0 0] 68)=W3 at *
 have HR2:=hid HF.out.1
 have HR3:=hid HF.out.2.1
 have HB3:=hid HF.out.2.2.1
 have hz3:W3.heap.size=w.heap.size+3:=HF.out.2.2.2
 have HTC:=hid (takeCells_any L A n cap w.heap.size HN.out hm (HD.out.below HB3.out) (by omega) HR3.out HDZ.out)
 have hz3':w.heap.size≤W3.heap.size:=by omega
 clear HF hz3
 refine HTC.out.mono ?_
 rintro e w4 ⟨b,i,P,s,v,rfl,hT,hb1,hb2⟩
 have HT:=hid hT
 have HR4:=hid (row_other hT.grown HR2.out (by omega))
 have HB4:=hid (HB3.out.trans ⟨hT.grown.os,hT.grown.tape,hT.grown.output,hT.grown.size,fun k hk=>hT.grown.block k (by omega) (fun e=>by have:=Option.some.inj e;omega)⟩)
 have hz4:W3.heap.size≤w4.heap.size:=hT.grown.size
 clear hT HTC HR2 HR3
 cases b
 ·have HNO:=hid (show ¬ okH sz L from fun h=>by have:=hb2.2 h.cs;cases this)
  clear hb1 hb2
  have k0:w4.cell? ⟨w.heap.size+1,0,none⟩=some (.int .u32 0):=cell_of_row _ _ 0 _ _ _ HR4.out
  have k1:w4.cell? ⟨w.heap.size+1,1,none⟩=some (.slice none 0 0):=cell_of_row _ _ 1 _ _ _ HR4.out
  have f0:=frozen_of_row w4 (w.heap.size+1) 0 _ _ HR4.out
  have f1:=frozen_of_row w4 (w.heap.size+1) 1 _ _ HR4.out
  have l0:=row_lt HR4.out
  go_wp2_with fail
  refine bodyPost_ret (v:=.tuple #[.agg #[.int .u32 0,.slice none 0 0],.int .i64 7]) (results_row2 rfl _ _ (w.heap.size+1) 68 #[.int .u32 0,.slice none 0 0] (0,0) _ rfl (row_set (cs:=[.int .u32 0,.slice none 0 0]) (i:=1) (u:=.slice none 0 0) (row_set (cs:=[.int .u32 0,.slice none 0 0]) (i:=0) (u:=.int .u32 0) HR4.out)) Tryz.underlying68 rfl (by kernel_rfl) _ rfl) rfl ?_
  exact⟨HB4.out.trans (below_of_grown (grown_trans (grown_cell _ _ _ _) (grown_cell _ _ _ _)) HB4.out.size (Nat.le_succ _)),.inr ⟨HNO.out,rfl⟩⟩
 have HCS:=hid (hb2.1 rfl)
 have hil:i=L.length:=hb1 rfl
 clear hb1 hb2
 have HPL:=hid (HT.out.len.trans hil)
 have HLST:=hid (lst_of HPL.out HT.out.ob)
 have HUP:=hid (up_of (sz:=sz) (by rw [← HLST.out];exact HCS.out))
 have HLE:=hid (show P.length≤65536 by rw [HPL.out];exact HCS.out.len HSZ.out.2)
 have HOB:=hid (show ∀ p∈P,∃ c∈L,FrO c (s p)∧isN (s p).d=true from fun p hp=>by
  obtain⟨j,hj⟩:=List.mem_iff_getElem?.1 hp
  have hjl:j<L.length:=by rw [← HPL.out];exact (List.getElem?_eq_some_iff.1 hj).1
  have hl:L[j]?=some (L[j]'hjl):=List.getElem?_eq_getElem _
  have hf:=HT.out.ob j p _ hj hl
  exact⟨_,List.mem_of_getElem? hl,hf,by rw [hf.d];exact (HCS.out j _ hjl hl).2.2.1⟩)
 have HNN:=hid (show ∀ p∈P,(s p).n=ndD (s p).d from fun p hp=>by obtain⟨c,_,hf,_⟩:=HOB.out p hp;rw [hf.n,hf.d])
 obtain⟨A6,n6,c6,rfl⟩:∃ A n c,v=Value.slice A n c:=(by obtain⟨A,c,h,_⟩:=HT.out.own.ls;exact⟨A,_,c,h⟩)
 have HO4:=hid (show OwP w.heap.size w4 (.slice A6 n6 c6) P from World.ownsRow.mono HT.out.own hz3')
 have HH4:=hid (HT.out.at_.mono hz3')
 have HW4:=hid (show Wk w.heap.size w4 (w.heap.size+1+1) P s from⟨⟨_,_,_,HT.out.row,by decide,rfl,HO4.out⟩,HH4.out,HUP.out,by have:=HLE.out;omega⟩)
 have HTL:=hid (takeLeads_any HW4.out (HK.out.below HB4.out) HB4.out.size HLE.out (fun p hp=>by obtain⟨c,_,hf,_⟩:=HOB.out p hp;exact hf.a) (fun p hp=>by obtain⟨c,_,hf,h⟩:=HOB.out p hp;have:=isN_size h;omega) (fun p hp=>by obtain⟨c,_,hf,h⟩:=HOB.out p hp;rw [HNN.out p hp];exact decN_small (isN_some h)))
 clear hil
 go_wp2_with fail
 refine HTL.out.mono ?_
 rintro e w5 ⟨b,t,rfl,hH5,ho5,hiff,hyes⟩
 have HH5:=hid hH5
 have HF5:=hid ho5
 have HR5:=hid (ho5.row HR4.out (by decide))
 have HQ5:=hid (ho5.row HT.out.row (by decide))
 have HB5:=hid (HB4.out.trans (ho5.below HB4.out.size))
 clear hH5 ho5 HTL HR4
 cases b
 ·have HNO:=hid (show ¬ okH sz L from fun h=>by
   have:=hiff.2 ((gd_iff HUP.out HNN.out).2 (by rw [← HLST.out];exact h.ld))
   cases this)
  clear hiff hyes
  have k0:w5.cell? ⟨w.heap.size+1,0,none⟩=some (.int .u32 0):=cell_of_row _ _ 0 _ _ _ HR5.out
  have k1:w5.cell? ⟨w.heap.size+1,1,none⟩=some (.slice none 0 0):=cell_of_row _ _ 1 _ _ _ HR5.out
  have f0:=frozen_of_row w5 (w.heap.size+1) 0 _ _ HR5.out
  have f1:=frozen_of_row w5 (w.heap.size+1) 1 _ _ HR5.out
  have l0:=row_lt HR5.out
  go_wp2_with fail
  refine bodyPost_ret (v:=.tuple #[.agg #[.int .u32 0,.slice none 0 0],.int .i64 7]) (results_row2 rfl _ _ (w.heap.size+1) 68 #[.int .u32 0,.slice none 0 0] (0,0) _ rfl (row_set (cs:=[.int .u32 0,.slice none 0 0]) (i:=1) (u:=.slice none 0 0) (row_set (cs:=[.int .u32 0,.slice none 0 0]) (i:=0) (u:=.int .u32 0) HR5.out)) Tryz.underlying68 rfl (by kernel_rfl) _ rfl) rfl ?_
  exact⟨HB5.out.trans (below_of_grown (grown_trans (grown_cell _ _ _ _) (grown_cell _ _ _ _)) HB5.out.size (Nat.le_succ _)),.inr ⟨HNO.out,rfl⟩⟩
 have HGD:=hid (hiff.1 rfl)
 have HY:=hid (hyes rfl)
 clear hiff hyes
 have hc1:w5.cell? ⟨w.heap.size+1+1,1,none⟩=some (.slice A6 n6 c6):=cell_of_row _ _ 1 _ _ _ HQ5.out
 have HO5:=hid (show OwP w.heap.size w5 (.slice A6 n6 c6) P from HF5.out.own (by decide) HO4.out)
 have HN6:=hid (show n6=P.length by obtain⟨A',c',h,_⟩:=HO5.out.ls;simp only [Value.slice.injEq] at h;exact h.2.1)
 have hn6:n6≤65536:=by rw [HN6.out];exact HLE.out
 have hq5:w.heap.size+1+1<w5.heap.size:=row_lt HQ5.out
 have HSM:=hid (fun p=>(HY.out p).1)
 have HA:=hid (show ∀ p∈P,(t p).a=(P.flatMap (toF t P)).count p from fun p hp=>by
  obtain⟨c,_,hf,_⟩:=HOB.out p hp
  rw [(HY.out p).2.1,hf.a,toF_sm HSM.out,Nat.zero_add])
 have HLT:=hid (HLST.out.trans (lst_sm HSM.out).symm)
 have HUT:=hid (show Up t P by have:=HUP.out;unfold Up at this ⊢;simp only [(HSM.out _).num];exact this)
 have HNT:=hid (show ∀ p∈P,(t p).n=ndD (t p).d from fun p hp=>by rw [(HSM.out p).n,(HSM.out p).d];exact HNN.out p hp)
 have HGT:=hid (show ∀ p∈P,gdF t P p=true from fun p hp=>by rw [gdF_sm HSM.out];exact HGD.out p hp)
 have HLD:=hid (show ∀ p∈P,(t p).a=ldL L (t p).num from fun p hp=>by rw [HA.out p hp,cnt_ld HUT.out HNT.out HGT.out hp,← HLT.out])
 have HAL:=hid (show ∀ p∈P,(t p).a≤1099511627776 from fun p hp=>by
  rw [HA.out p hp]
  have h1:=List.count_le_length (a:=p) (l:=P.flatMap (toF t P))
  have h2:(P.flatMap (toF t P)).length≤P.length*255:=flat_le fun y hy=>Nat.le_trans (psF_len _ _ _) (by
   obtain⟨c,_,hf,h⟩:=HOB.out y hy
   have:=decN_small (isN_some h)
   rw [HNT.out y hy,(HSM.out y).d]
   exact nmN_le this.2.2.1 this.2.2.2)
  have h3:=HLE.out
  omega)
 go_wp2_with fail
 have HI:=hid HSM.out
 clear HK HN HT HW4 HH4 HO4 HF5 HB4 HB3
 go_loopw [32] (fun v wr=>∃ i:Nat,i≤n6∧v=.int .i64 i∧Hid (Below w5.heap.size w5 wr)∧Hid (∀ j p,j<i→P[j]?=some p→rtR (t p)=true)) (fun v _=>n6-(intOf v).toNat)
 case atStart=>exact⟨0,Nat.zero_le _,by go_num,Below.refl _ _,fun j p hj=>absurd hj (Nat.not_lt_zero _)⟩
 case round =>
  obtain⟨i,hi,rfl,hB,hG⟩:=hrel
  have HBR:=hid (Hid.out hB)
  have HG:=hid (Hid.out hG)
  clear hB hG
  have hq6:w.heap.size+1+1<wr.heap.size:=Nat.lt_of_lt_of_le hq5 HBR.out.size
  by_cases hlt:i<n6
  ·obtain⟨p,hp⟩:∃ p,P[i]?=some p:=⟨_,List.getElem?_eq_getElem (by rw [← HN6.out];exact hlt)⟩
   have hpP:=List.mem_of_getElem? hp
   have hL:=own_ls enP_len (own_go HO5.out HBR.out)
   obtain⟨b,o,hAe,hbs,hr⟩:=hL i p hp
   have hcp:wr.cell? ⟨b,o+i,none⟩=some (.pointer (some ⟨p,0,none⟩)):=by have:=hr 0 _ rfl;rwa [Nat.mul_one] at this
   have HRR:=hid (rightRefs_any ((HH5.out.go HBR.out).at_ hpP) (HAL.out p hpP))
   have HP:=hid hp
   have HPP:=hid hpP
   clear hL hr hp
   subst hAe
   cases hq:rtR (t p)
   ·have HNO:=hid (show ¬ okH sz L from fun h=>by
     have hm:ceO (t p)∈L:=by rw [HLT.out];exact List.mem_map.2 ⟨p,hpP,rfl⟩
     have h1:=h.rf _ hm
     have h2:=HLD.out p hpP
     unfold rtR at hq
     rw [Bool.and_eq_false_iff,decide_eq_false_iff_not,decide_eq_false_iff_not] at hq
     change (ldL L (t p).num:Int)≤(t p).r∧(t p).r≤16777216 at h1
     rw [h2] at hq
     omega)
    have HRF:=hid (show Calls Tryz.prog 64 #[.pointer (some ⟨p,0,none⟩)] wr fun e w'=>e=.returned (.bool false)∧Below wr.heap.size wr w' by have:=HRR.out;rw [hq] at this;exact this)
    clear hq HRR hpP
    go_wp2_with (go_at_call 64;refine HRF.out.mono ?_;rintro e w6 ⟨rfl,hb6⟩;have HB6:=hid (HBR.out.trans (hb6.mono HBR.out.size));have HR6:=hid ((HB6.out.block _ (row_lt HR5.out)).trans HR5.out);have k0:w6.cell? ⟨w.heap.size+1,0,none⟩=some (.int .u32 0):=cell_of_row _ _ 0 _ _ _ HR6.out;have k1:w6.cell? ⟨w.heap.size+1,1,none⟩=some (.slice none 0 0):=cell_of_row _ _ 1 _ _ _ HR6.out;have f0:=frozen_of_row w6 (w.heap.size+1) 0 _ _ HR6.out;have f1:=frozen_of_row w6 (w.heap.size+1) 1 _ _ HR6.out;have l0:=row_lt HR6.out;clear hb6)
    refine bodyPost_ret (v:=.tuple #[.agg #[.int .u32 0,.slice none 0 0],.int .i64 7]) (results_row2 rfl _ _ (w.heap.size+1) 68 #[.int .u32 0,.slice none 0 0] (0,0) _ rfl (row_set (cs:=[.int .u32 0,.slice none 0 0]) (i:=1) (u:=.slice none 0 0) (row_set (cs:=[.int .u32 0,.slice none 0 0]) (i:=0) (u:=.int .u32 0) HR6.out)) Tryz.underlying68 rfl (by kernel_rfl) _ rfl) rfl ?_
    have HB7:=HB5.out.trans (HB6.out.mono HB5.out.size)
    exact⟨HB7.trans (below_of_grown (grown_trans (grown_cell _ _ _ _) (grown_cell _ _ _ _)) HB7.size (Nat.le_succ _)),.inr ⟨HNO.out,rfl⟩⟩
   ·have HRF:=hid (show Calls Tryz.prog 64 #[.pointer (some ⟨p,0,none⟩)] wr fun e w'=>e=.returned (.bool true)∧Below wr.heap.size wr w' by have:=HRR.out;rw [hq] at this;exact this)
    have HGN:=hid (show ∀ j p,j<i+1→P[j]?=some p→rtR (t p)=true from fun j x hj hx=>by
     by_cases e:j=i
     ·subst e;rw [HP.out] at hx;cases hx;exact hq
     ·exact HG.out j x (by omega) hx)
    clear hq HRR hpP
    go_wp2_with (go_at_call 64;refine HRF.out.mono ?_;rintro e w6 ⟨rfl,hb6⟩;have HB6:=hid (HBR.out.trans (hb6.mono HBR.out.size));clear hb6)
    exact⟨⟨i+1,by omega,by go_num,HB6.out,HGN.out⟩,by simp [intOf]<;>omega⟩
  ·have hin:i=n6:=by omega
   have HALL:=hid (show ∀ p∈P,((t p).a:Int)≤(t p).r∧(t p).r≤16777216 from fun p hp=>by
    obtain⟨j,hj⟩:=List.mem_iff_getElem?.1 hp
    have:=HG.out j p (by have:=(List.getElem?_eq_some_iff.1 hj).1;rw [hin,HN6.out];exact this) hj
    unfold rtR at this
    simpa using this)
   have HOK:=hid (show okH sz L from⟨HSZ.out.1,HSZ.out.2,HCS.out,by rw [HLT.out];exact (gd_iff HUT.out HNT.out).1 HGT.out,fun c hc=>by
    rw [HLT.out] at hc
    obtain⟨p,hp,rfl⟩:=List.mem_map.1 hc
    have h1:=HALL.out p hp
    rw [HLD.out p hp] at h1
    exact h1⟩)
   have HTK:=hid (show Tk w.heap.size w5 (.slice A6 n6 c6) P t L from⟨HO5.out,HH5.out,HUT.out,HLE.out,HLT.out,fun p hp=>by obtain⟨c,_,hf,h⟩:=HOB.out p hp;rw [(HSM.out p).d];exact h,HNT.out,fun p hp=>by obtain⟨c,_,hf,h⟩:=HOB.out p hp;rw [(HSM.out p).gn];exact hf.gn,fun p hp=>by rw [(HY.out p).2.2 hp,toF_sm HSM.out],HA.out,HGT.out,HALL.out⟩)
   have HR6:=hid ((HBR.out.block _ (row_lt HR5.out)).trans HR5.out)
   have HQ6:=hid ((HBR.out.block _ (row_lt HQ5.out)).trans HQ5.out)
   have k0:wr.cell? ⟨w.heap.size+1,0,none⟩=some (.int .u32 0):=cell_of_row _ _ 0 _ _ _ HR6.out
   have k1:wr.cell? ⟨w.heap.size+1,1,none⟩=some (.slice none 0 0):=cell_of_row _ _ 1 _ _ _ HR6.out
   have f0:=frozen_of_row wr (w.heap.size+1) 0 _ _ HR6.out
   have f1:=frozen_of_row wr (w.heap.size+1) 1 _ _ HR6.out
   have l0:=row_lt HR6.out
   have q0:wr.cell? ⟨w.heap.size+1+1,0,none⟩=some (.int .u32 sz):=cell_of_row _ _ 0 _ _ _ HQ6.out
   have q1:wr.cell? ⟨w.heap.size+1+1,1,none⟩=some (.slice A6 n6 c6):=cell_of_row _ _ 1 _ _ _ HQ6.out
   clear hin hc1
   go_wp2_with fail
   have HR7:=row_set (cs:=[.int .u32 0,.slice none 0 0]) (i:=0) (u:=.int .u32 sz) HR6.out
   have HR8:=row_set (cs:=[.int .u32 sz,.slice none 0 0]) (i:=1) (u:=.slice A6 n6 c6) HR7
   refine bodyPost_ret (v:=.tuple #[.agg #[.int .u32 sz,.slice A6 n6 c6],.int .i64 0]) (results_row2 rfl _ _ (w.heap.size+1) 68 #[.int .u32 sz,.slice A6 n6 c6] (0,0) _ rfl HR8 Tryz.underlying68 rfl (by kernel_rfl) _ rfl) rfl ?_
   have HB7:=HB5.out.trans (HBR.out.mono HB5.out.size)
   exact⟨HB7.trans (below_of_grown (grown_trans (grown_cell _ _ _ _) (grown_cell _ _ _ _)) HB7.size (Nat.le_succ _)),.inl ⟨HOK.out,A6,n6,c6,P,t,rfl,((HTK.out.go HBR.out).cell HR6.out (by decide)).cell HR7 (by decide)⟩⟩
theorem sum_upd {P:List Nat}{c:Nat}{f g:Nat→Nat}(hn:P.Nodup) (hc:c∈P) (h:∀ p,p∈P→p≠c→g p=f p):(P.map g).sum+f c=(P.map f).sum+g c:=by
 induction P with
 | nil=>cases hc
 | cons x P ih =>
  rw [List.nodup_cons] at hn
  simp only [List.map_cons,List.sum_cons]
  by_cases e:x=c
  ·subst e
   have:P.map g=P.map f:=List.map_congr_left fun p hp=>h p (List.mem_cons_of_mem _ hp) (fun e=>hn.1 (e▸hp))
   rw [this]
   omega
  ·have hc':c∈P:=by
    rcases List.mem_cons.1 hc with h1 | h1
    ·exact absurd h1.symm e
    ·exact h1
   have h1:=ih hn.2 hc' fun p hp=>h p (List.mem_cons_of_mem _ hp)
   have h2:=h x List.mem_cons_self e
   omega
theorem sum_same {P:List Nat}{f g:Nat→Nat}(h:∀ p,p∈P→g p=f p):(P.map g).sum=(P.map f).sum:=by rw [List.map_congr_left h]
theorem sum_le {P:List Nat}{f:Nat→Nat}{p:Nat}(hp:p∈P):f p≤(P.map f).sum:=by
 induction P with
 | nil=>cases hp
 | cons x P ih =>
  simp only [List.map_cons,List.sum_cons]
  rcases List.mem_cons.1 hp with rfl | hp
  ·omega
  ·have:=ih hp;omega
theorem sum_count {P:List Nat}{b:Nat→List Nat}(x:Nat):(P.flatMap b).count x=(P.map fun p=>(b p).count x).sum:=by
 induction P with
 | nil=>rfl
 | cons y P ih=>rw [List.flatMap_cons,List.count_append,ih,List.map_cons,List.sum_cons]
def lds (P:List Nat) (bl:Nat→List Nat) (gn:Nat→Bool) (x:Nat):Nat:=(P.map fun p=>if gn p then 0 else (bl p).count x).sum
structure Inv (P:List Nat) (bl:Nat→List Nat) (hd:Nat→Nat) (r:Nat→Int) (gn:Nat→Bool) (k:List Nat):Prop where
 live:∀ x∈P,gn x=false→r x=hd x+lds P bl gn x+k.count x
 dead:∀ x∈P,gn x=true→lds P bl gn x=0∧k.count x=0
 wait:∀ x∈k,x∈P
def updF {α:Type}(f:Nat→α) (p:Nat) (v:α):Nat→α:=fun q=>if q=p then v else f q
theorem updF_same {α:Type}(f:Nat→α) (p:Nat) (v:α):updF f p v p=v:=by unfold updF;rw [if_pos rfl]
theorem updF_other {α:Type}{f:Nat→α}{p q:Nat}{v:α}(h:q≠p):updF f p v q=f q:=by unfold updF;rw [if_neg h]
theorem lds_gone {P:List Nat}{bl:Nat→List Nat}{gn:Nat→Bool}{c:Nat}(hn:P.Nodup) (hc:c∈P) (hg:gn c=false) (x:Nat):lds P bl (updF gn c true) x+(bl c).count x=lds P bl gn x:=by
 have:=sum_upd (f:=fun p=>if gn p then 0 else (bl p).count x) (g:=fun p=>if updF gn c true p then 0 else (bl p).count x) hn hc (fun p _ hp=>by simp only [updF_other hp])
 simp only [updF_same,if_true,hg] at this
 unfold lds
 simpa using this
theorem Inv.alive {P:List Nat}{bl:Nat→List Nat}{hd:Nat→Nat}{r:Nat→Int}{gn:Nat→Bool}{k:List Nat}{c:Nat}(h:Inv P bl hd r gn (k++[c])):c∈P∧gn c=false∧r c=hd c+lds P bl gn c+k.count c+1:=by
 have hP:c∈P:=h.wait c (by simp)
 have hg:gn c=false:=by
  cases e:gn c
  ·rfl
  ·have:=(h.dead c hP e).2
   rw [List.count_append,List.count_cons_self] at this
   omega
 refine⟨hP,hg,?_⟩
 have:=h.live c hP hg
 rw [List.count_append,List.count_cons_self,List.count_nil] at this
 rw [this]
 push_cast
 omega
theorem count_snoc_ne {k:List Nat}{c x:Nat}(h:x≠c):(k++[c]).count x=k.count x:=by
 rw [List.count_append,List.count_cons_of_ne (Ne.symm h),List.count_nil,Nat.add_zero]
theorem Inv.less {P:List Nat}{bl:Nat→List Nat}{hd:Nat→Nat}{r:Nat→Int}{gn:Nat→Bool}{k:List Nat}{c:Nat}(h:Inv P bl hd r gn (k++[c])):Inv P bl hd (updF r c (r c-1)) gn k:=by
 obtain⟨hP,hg,hr⟩:=h.alive
 refine⟨fun x hx hgx=>?_,fun x hx hgx=>?_,fun x hx=>h.wait x (by simp [hx])⟩
 ·by_cases e:x=c
  ·subst e;rw [updF_same];omega
  ·rw [updF_other e]
   have:=h.live x hx hgx
   rwa [count_snoc_ne e] at this
 ·have:=h.dead x hx hgx
  have e:x≠c:=fun e=>by rw [e,hg] at hgx;cases hgx
  rwa [count_snoc_ne e] at this
theorem Inv.gone {P:List Nat}{bl:Nat→List Nat}{hd:Nat→Nat}{r:Nat→Int}{gn:Nat→Bool}{k:List Nat}{c:Nat}(hn:P.Nodup) (hb:∀ p∈P,∀ q∈bl p,q∈P) (h:Inv P bl hd r gn (k++[c])) (h0:r c-1=0) :
  Inv P bl hd (updF r c 0) (updF gn c true) (k++bl c):=by
 obtain⟨hP,hg,hr⟩:=h.alive
 have hz:hd c=0∧lds P bl gn c=0∧k.count c=0:=by omega
 refine⟨fun x hx hgx=>?_,fun x hx hgx=>?_,fun x hx=>?_⟩
 ·have e:x≠c:=fun e=>by rw [e,updF_same] at hgx;cases hgx
  rw [updF_other e] at hgx ⊢
  have h1:=h.live x hx hgx
  rw [count_snoc_ne e] at h1
  have h2:=lds_gone (bl:=bl) hn hP hg x
  rw [List.count_append]
  omega
 ·have h2:=lds_gone (bl:=bl) hn hP hg x
  rw [List.count_append]
  by_cases e:x=c
  ·subst e;omega
  ·rw [updF_other e] at hgx
   have h1:=h.dead x hx hgx
   rw [count_snoc_ne e] at h1
   omega
 ·rcases List.mem_append.1 hx with h1 | h1
  ·exact h.wait x (by simp [h1])
  ·exact hb c hP x h1
def tot (P:List Nat) (r:Nat→Int):Nat:=(P.map fun p=>(r p).toNat).sum
theorem tot_less {P:List Nat}{r:Nat→Int}{c:Nat}{v:Int}(hn:P.Nodup) (hc:c∈P) (h:1≤r c) (hv:v=r c-1):tot P (updF r c v)<tot P r:=by
 have:=sum_upd (f:=fun p=>(r p).toNat) (g:=fun p=>(updF r c v p).toNat) hn hc (fun p _ hp=>by simp only [updF_other hp])
 simp only [updF_same] at this
 unfold tot
 omega
theorem Inv.nil_live {P:List Nat}{bl:Nat→List Nat}{hd:Nat→Nat}{r:Nat→Int}{gn:Nat→Bool}(h:Inv P bl hd r gn []){x:Nat}(hx:x∈P) (hg:gn x=false):r x=hd x+lds P bl gn x:=by
 have:=h.live x hx hg
 simpa using this
inductive Lets (bl:Nat→List Nat):(Nat→Int)→(Nat→Bool)→List Nat→(Nat→Int)→(Nat→Bool)→Prop
 | nil (r:Nat→Int) (g:Nat→Bool):Lets bl r g [] r g
 | less {r r':Nat→Int}{g g':Nat→Bool}{k:List Nat}{c:Nat}(h:¬ r c-1=0) (hh:Lets bl (updF r c (r c-1)) g k r' g'):Lets bl r g (k++[c]) r' g'
 | gone {r r':Nat→Int}{g g':Nat→Bool}{k:List Nat}{c:Nat}(h:r c-1=0) (hh:Lets bl (updF r c 0) (updF g c true) (k++bl c) r' g'):Lets bl r g (k++[c]) r' g'
theorem count_len {P k:List Nat}(hn:P.Nodup) (h:∀ x∈k,x∈P):(P.map fun x=>k.count x).sum=k.length:=by
 induction k with
 | nil =>
  clear hn h
  induction P with
  | nil=>rfl
  | cons x P ih=>rw [List.map_cons,List.sum_cons,ih];rfl
 | cons y k ih =>
  have hy:=h y List.mem_cons_self
  have h1:=ih fun x hx=>h x (List.mem_cons_of_mem _ hx)
  have h2:=sum_upd (f:=fun x=>k.count x) (g:=fun x=>(y::k).count x) hn hy (fun p _ hp=>by simp [Ne.symm hp])
  simp only [List.count_cons_self] at h2
  rw [List.length_cons]
  omega
theorem sum_mono {P:List Nat}{f g:Nat→Nat}(h:∀ p∈P,f p≤g p):(P.map f).sum≤(P.map g).sum:=by
 induction P with
 | nil=>simp
 | cons x P ih =>
  simp only [List.map_cons,List.sum_cons]
  have:=h x List.mem_cons_self
  have:=ih fun p hp=>h p (List.mem_cons_of_mem _ hp)
  omega
theorem Inv.len {P:List Nat}{bl:Nat→List Nat}{hd:Nat→Nat}{r:Nat→Int}{gn:Nat→Bool}{k:List Nat}(hn:P.Nodup) (h:Inv P bl hd r gn k):k.length≤tot P r:=by
 rw [← count_len hn h.wait]
 unfold tot
 refine sum_mono fun p hp=>?_
 cases e:gn p
 ·have:=h.live p hp e
  omega
 ·have:=(h.dead p hp e).2
  omega
theorem tot_le {P:List Nat}{r:Nat→Int}{m:Nat}(h:∀ p∈P,r p≤m):tot P r≤P.length*m:=by
 unfold tot
 induction P with
 | nil=>simp
 | cons x P ih =>
  simp only [List.map_cons,List.sum_cons,List.length_cons,Nat.succ_mul]
  have:=h x List.mem_cons_self
  have:=ih fun p hp=>h p (List.mem_cons_of_mem _ hp)
  omega
theorem Lets.le {bl:Nat→List Nat}{r r':Nat→Int}{g g':Nat→Bool}{k:List Nat}(h:Lets bl r g k r' g'):∀ x,r' x≤r x:=by
 induction h with
 | nil r g=>intro x;exact Int.le_refl _
 | less h hh ih =>
  rename_i r r' g g' k c
  intro x
  have:=ih x
  by_cases e:x=c
  ·subst e;rw [updF_same] at this;omega
  ·rwa [updF_other e] at this
 | gone h hh ih =>
  rename_i r r' g g' k c
  intro x
  have:=ih x
  by_cases e:x=c
  ·subst e;rw [updF_same] at this;omega
  ·rwa [updF_other e] at this
theorem Lets.keep {bl:Nat→List Nat}{r r':Nat→Int}{g g':Nat→Bool}{k:List Nat}(h:Lets bl r g k r' g'):∀ x,g' x=false→g x=false∧(r' x=0→r x=0):=by
 induction h with
 | nil r g=>intro x hx;exact⟨hx,fun h=>h⟩
 | less h hh ih =>
  rename_i r r' g g' k c
  intro x hx
  obtain⟨h1,h2⟩:=ih x hx
  refine⟨h1,fun h0=>?_⟩
  have:=h2 h0
  by_cases e:x=c
  ·subst e;rw [updF_same] at this;exact absurd this h
  ·rwa [updF_other e] at this
 | gone h hh ih =>
  rename_i r r' g g' k c
  intro x hx
  obtain⟨h1,h2⟩:=ih x hx
  by_cases e:x=c
  ·subst e;rw [updF_same] at h1;cases h1
  ·rw [updF_other e] at h1
   refine⟨h1,fun h0=>?_⟩
   have:=h2 h0
   rwa [updF_other e] at this
inductive Swp (bl:Nat→List Nat):List Nat→(Nat→Int)→(Nat→Bool)→(Nat→Int)→(Nat→Bool)→Prop
 | nil (r:Nat→Int) (g:Nat→Bool):Swp bl [] r g r g
 | skip {r r':Nat→Int}{g g':Nat→Bool}{k:List Nat}{c:Nat}(h:¬ (r c=0∧g c=false)) (hh:Swp bl k r g r' g'):Swp bl (c::k) r g r' g'
 | take {r r1 r':Nat→Int}{g g1 g':Nat→Bool}{k:List Nat}{c:Nat}(h:r c=0) (hg:g c=false) (hl:Lets bl r (updF g c true) (bl c) r1 g1) (hh:Swp bl k r1 g1 r' g'):Swp bl (c::k) r g r' g'
theorem Inv.sweep {P:List Nat}{bl:Nat→List Nat}{hd:Nat→Nat}{r:Nat→Int}{gn:Nat→Bool}{c:Nat}(hn:P.Nodup) (hb:∀ p∈P,∀ q∈bl p,q∈P) (h:Inv P bl hd r gn []) (hc:c∈P) (hg:gn c=false) (h0:r c=0):Inv P bl hd r (updF gn c true) (bl c):=by
 have hr:=h.nil_live hc hg
 have hz:hd c=0∧lds P bl gn c=0:=by omega
 refine⟨fun x hx hgx=>?_,fun x hx hgx=>?_,fun x hx=>hb c hc x hx⟩
 ·have e:x≠c:=fun e=>by rw [e,updF_same] at hgx;cases hgx
  rw [updF_other e] at hgx
  have h1:=h.nil_live hx hgx
  have h2:=lds_gone (bl:=bl) hn hc hg x
  omega
 ·have h2:=lds_gone (bl:=bl) hn hc hg x
  by_cases e:x=c
  ·subst e;omega
  ·rw [updF_other e] at hgx
   have h1:=(h.dead x hx hgx).1
   omega
def rO (s:Nat→Ob):Nat→Int:=fun p=>(s p).r
def gO (s:Nat→Ob):Nat→Bool:=fun p=>(s p).gn
def bO (s:Nat→Ob):Nat→List Nat:=fun p=>(s p).bl
structure Sg (o o':Ob):Prop where
 num:o'.num=o.num
 d:o'.d=o.d
 n:o'.n=o.n
 vI:o'.vI=o.vI
 vK:o'.vK=o.vK
 vV:o'.vV=o.vV
 bl:o'.bl=o.bl
 bv:o'.bv=o.bv
 a:o'.a=o.a
theorem Sg.refl (o:Ob):Sg o o:=⟨rfl,rfl,rfl,rfl,rfl,rfl,rfl,rfl,rfl⟩
theorem Sg.rf {o o':Ob}(h:Sg o o') (r:Int):Sg o (o'.rf r):=⟨h.num,h.d,h.n,h.vI,h.vK,h.vV,h.bl,h.bv,h.a⟩
theorem Sg.go {o o':Ob}(h:Sg o o') (q:Bool):Sg o (o'.go q):=⟨h.num,h.d,h.n,h.vI,h.vK,h.vV,h.bl,h.bv,h.a⟩
theorem rO_upd (s:Nat→Ob) (p:Nat) (o:Ob):rO (upd s p o)=updF (rO s) p o.r:=by
 funext q
 unfold rO
 by_cases e:q=p
 ·subst e;rw [upd_same,updF_same]
 ·rw [upd_other e,updF_other e]
theorem gO_upd (s:Nat→Ob) (p:Nat) (o:Ob):gO (upd s p o)=updF (gO s) p o.gn:=by
 funext q
 unfold gO
 by_cases e:q=p
 ·subst e;rw [upd_same,updF_same]
 ·rw [upd_other e,updF_other e]
theorem updF_id {α:Type}(f:Nat→α) (p:Nat):updF f p (f p)=f:=by
 funext q
 by_cases e:q=p
 ·subst e;rw [updF_same]
 ·rw [updF_other e]
def totW (P:List Nat) (w:World):Nat:=(P.map fun p=>match w.cell? ⟨p,2,none⟩ with | some (.int _ r)=>r.toNat | _=>0).sum
theorem totW_at {n0:Nat}{w:World}{P:List Nat}{s:Nat→Ob}(h:HpAt n0 w P s):totW P w=tot P (rO s):=by
 unfold totW tot
 refine sum_same fun p hp=>?_
 rw [(h.at_ hp).cell (i:=2) (v:=.int .i64 (s p).r) rfl]
 rfl
theorem OwP.take {b n c:Nat}{w:World}{A:Option Addr}{D:List Nat}(h:OwP b w (.slice A n c) D){m:Nat}(hm:m≤n):OwP b w (.slice A m c) (D.take m):=by
 obtain⟨A',c',e1,h1,h2,h3⟩:=h.ls
 simp only [Value.slice.injEq] at e1
 obtain⟨rfl,rfl,rfl⟩:=e1
 have hl:(D.take m).length=m:=List.length_take_of_le hm
 refine⟨by rw [flat_len enP_len,hl],?_⟩
 rcases h.2 with ⟨e,h0⟩ | ⟨g,cap,cur,e,hb,hg,hnc,hc,hcs,ht⟩
 ·simp only [Value.slice.injEq] at e
  obtain⟨rfl,h5,rfl⟩:=e
  have hm0:m=0:=by omega
  subst hm0
  exact .inl ⟨rfl,by simp⟩
 ·cases e
  refine .inr ⟨g,c,cur,by rw [hl],hb,hg,by omega,hc,hcs,?_⟩
  rw [hl,Nat.mul_one]
  have h4:(D.take m).flatMap enP=(D.flatMap enP).take m:=by
   clear ht h hl hm h1 hnc h3
   induction D generalizing m with
   | nil=>simp
   | cons x D ih =>
    cases m with
    | zero=>rfl
    | succ m=>rw [List.take_succ_cons,List.flatMap_cons,List.flatMap_cons,ih];rfl
  rw [h4,← ht,Nat.mul_one,List.take_take,Nat.min_eq_left hm]
theorem catP_info:∃ i,Tryz.prog.info? TP=some i∧i.zero=some (.pointer none)∧i.size=1∧i.bytes=8:=by
 obtain⟨i0,hi,hz0,hz1,hz2⟩:=info_parts infP
 exact⟨i0,hi,hz0,hz1,hz2⟩
structure LgI (n0:Nat) (w wr:World) (P:List Nat) (hd:Nat→Nat) (k0:List Nat) (s t:Nat→Ob) (k:List Nat) (v:Value):Prop where
 at_:HpAt n0 wr P t
 off:Off n0 w wr
 rg:∀ p,Sg (s p) (t p)
 inv:Inv P (bO s) hd (rO t) (gO t) k
 go:∀ r' g',Lets (bO s) (rO t) (gO t) k r' g'→Lets (bO s) (rO s) (gO s) k0 r' g'
 own:OwP w.heap.size wr v k
def LgPost (n0:Nat) (w:World) (P:List Nat) (hd:Nat→Nat) (k0:List Nat) (s:Nat→Ob) (e:Ending) (w':World):Prop :=
 e=.returned (.tuple #[])∧∃ t,HpAt n0 w' P t∧Off n0 w w'∧(∀ p,Sg (s p) (t p))∧Lets (bO s) (rO s) (gO s) k0 (rO t) (gO t)∧Inv P (bO s) hd (rO t) (gO t) []
theorem LgI.ref {n0 c:Nat}{w wr:World}{P:List Nat}{hd:Nat→Nat}{k0 K:List Nat}{s t:Nat→Ob}{v:Value}(h:LgI n0 w wr P hd k0 s t (K++[c]) v):c∈P∧(t c).gn=false∧1≤(t c).r∧(t c).r≤tot P (rO t):=by
 obtain⟨h1,h2,h3⟩:=h.inv.alive
 refine⟨h1,h2,?_,?_⟩
 ·change (t c).r=_ at h3
  omega
 ·have:=sum_le (f:=fun p=>(rO t p).toNat) h1
  unfold tot
  change ((t c).r).toNat≤_ at this
  omega
theorem LgI.less {n0 c:Nat}{w wr:World}{P:List Nat}{hd:Nat→Nat}{k0 K:List Nat}{s t:Nat→Ob}{v v':Value}(h:LgI n0 w wr P hd k0 s t (K++[c]) v) (h0:¬ (t c).r-1=0) (ho:OwP w.heap.size wr v' K) :
  LgI n0 w (wr.setCell ⟨c,2,none⟩ (.int .i64 ((t c).r-1))) P hd k0 s (upd t c ((t c).rf ((t c).r-1))) K v':=by
 have hc:=h.ref.1
 have hA:=h.at_.at_ hc
 obtain⟨h1,h2⟩:=h.at_.put hc (grown_cell wr c 2 (.int .i64 ((t c).r-1))) (hA.setR ((t c).r-1)) (h.at_.own c hc) (h.at_.bel c hc)
 have hg:gO (upd t c ((t c).rf ((t c).r-1)))=gO t:=by rw [gO_upd];exact updF_id (gO t) c
 refine⟨h1,h.off.trans h2,fun p=>?_,?_,fun r' g' hh=>?_,ho.cell hA (by decide)⟩
 ·by_cases e:p=c
  ·subst e;rw [upd_same];exact (h.rg p).rf _
  ·rw [upd_other e];exact h.rg p
 ·rw [rO_upd,hg];exact h.inv.less
 ·refine h.go r' g' (Lets.less h0 ?_)
  rw [rO_upd,hg] at hh;exact hh
theorem LgI.gone {n0 c:Nat}{w wr w4 X:World}{P:List Nat}{hd:Nat→Nat}{k0 K:List Nat}{s t:Nat→Ob}{v v' v4:Value}(h:LgI n0 w wr P hd k0 s t (K++[c]) v) (hcl:∀ p∈P,∀ q∈bO s p,q∈P) (h0:(t c).r-1=0) (hX:X.heap.size=w.heap.size)
  (hm:MkP X w4 v4 (K++(t c).bl)) (hr:∀ g,v'.ownBlock=some g→w.heap.size≤g) (hg:((wr.setCell ⟨c,2,none⟩ (.int .i64 ((t c).r-1))).setCell ⟨c,41,none⟩ (.bool true)).grownBy w4 v'.ownBlock) (h0H:HpAt n0 w P s) :
  LgI n0 w w4 P hd k0 s (upd t c (((t c).rf ((t c).r-1)).go true)) (K++bO s c) v4:=by
 have hc:=h.ref.1
 have hA:=h.at_.at_ hc
 have hA1:=hA.setR ((t c).r-1)
 have hA2:=hA1.setG true
 obtain⟨h1,h2⟩:=h.at_.put hc (grown_trans (grown_cell wr c 2 (.int .i64 ((t c).r-1))) (grown_cell _ c 41 (.bool true))) hA2 (h.at_.own c hc) (h.at_.bel c hc)
 have hbl:(t c).bl=bO s c:=(h.rg c).bl
 have ho4:Off n0 w w4:=(h.off.trans h2).grown hg hr
 have hR4:Rows w4 P (upd t c (((t c).rf ((t c).r-1)).go true)):=h1.rows.grown hg fun p hp e=>by have:=hr p e;have:=h0H.lt hp;omega
 have hrg:∀ p,Sg (s p) (upd t c (((t c).rf ((t c).r-1)).go true) p):=fun p=>by
  by_cases e:p=c
  ·subst e;rw [upd_same];exact ((h.rg p).rf _).go _
  ·rw [upd_other e];exact h.rg p
 have hr0:rO (upd t c (((t c).rf ((t c).r-1)).go true))=updF (rO t) c 0:=by rw [rO_upd,← h0];rfl
 have hg0:gO (upd t c (((t c).rf ((t c).r-1)).go true))=updF (gO t) c true:=gO_upd _ _ _
 refine⟨h0H.carry ho4 hR4 fun p _=>⟨(hrg p).n,(hrg p).vI,(hrg p).vK,(hrg p).vV,(hrg p).bl,(hrg p).bv⟩,ho4,hrg,?_,fun r' g' hh=>?_,?_⟩
 ·rw [hr0,hg0];exact h.inv.gone h.at_.nd hcl h0
 ·refine h.go r' g' (Lets.gone h0 ?_)
  rw [hr0,hg0] at hh;exact hh
 ·have:=hm.1
  rw [hX,hbl] at this
  exact this
set_option maxHeartbeats 4000000 in
theorem letGo_any {n0:Nat}{w:World}{P:List Nat}{s:Nat→Ob}{hd:Nat→Nat}(k0:List Nat) (A:Option Addr) (n cap:Nat) (h:HpAt n0 w P s) (hi:Inv P (bO s) hd (rO s) (gO s) k0) (hc:∀ p∈P,∀ q∈bO s p,q∈P) (ht:tot P (rO s)≤1099511627776) (hbl:∀ p∈P,(s p).bl.length≤255)
  (hn:n=k0.length) (hD:Ls enP 1 w w.heap.size A k0) :
  Calls Tryz.prog 78 #[.slice A n cap] w (LgPost n0 w P hd k0 s):=by
 obtain⟨i0,hi0,hz0,hz1,hz2⟩:=catP_info
 have HLEN:=hid (Nat.le_trans (hi.len h.nd) ht)
 have HD:=hid hD
 have HN:=hid hn
 have HH:=hid h
 have HI:=hid hi
 have HC:=hid hc
 have HT:=hid ht
 have HBL:=hid hbl
 clear h hi hc ht hn hD hbl
 go_enter Tryz.func78,Tryz.ntmps78
 go_wp2_with (refine wpList_cat 66 i0 _ 8 Tryz.underlying66 hi0 hz0 hz1 hz2 rfl (by decide) enP_len enP_one (Mk.nil (enc:=enP) (k:=1) (e:=TP) (w:=w) (Below.refl _ _)) n cap HN.out HD.out (by have:=HLEN.out;have:=HN.out;unfold maxLen;simp;omega) (by have:=HLEN.out;have:=HN.out;simp;omega) rfl (.const (.slice none 0 0)) (.tmp 5) rfl rfl rfl ?_;intro v1 w1 hm1 hg1;have HM1:=hid hm1;have HG1:=hid hg1;clear hm1 hg1)
 obtain⟨A1,n1,c1,rfl⟩:∃ A n c,v1=.slice A n c:=(by obtain⟨A,c,h,_⟩:=HM1.out.ls enP_len;exact⟨A,_,c,h⟩)
 have HB1:=hid (show Below w.heap.size w w1 from HM1.out.2)
 have HS:=hid (show LgI n0 w w1 P hd k0 s s k0 (.slice A1 n1 c1) from⟨HH.out.go HB1.out,Off.of_below HB1.out,fun p=>Sg.refl _,HI.out,fun _ _ h=>h,HM1.out.1⟩)
 have HTOT:=hid (show tot P (rO s)≤1099511627776 from HT.out)
 clear HM1 HG1 HD HN HLEN HT
 go_loopw [2] (fun v wr=>∃ (k:List Nat) (t:Nat→Ob) (A:Option Addr) (n c:Nat),v=.slice A n c∧Hid (LgI n0 w wr P hd k0 s t k (.slice A n c))∧Hid (tot P (rO t)≤1099511627776)) (fun _ wr=>totW P wr)
 case atStart=>exact⟨k0,s,A1,n1,c1,rfl,HS.out,HTOT.out⟩
 case round =>
  obtain⟨k,t,A,n,c1,rfl,hI,hTT⟩:=hrel
  have HII:=hid (Hid.out hI)
  have HTT:=hid (Hid.out hTT)
  clear hI hTT
  have HKN:=hid (show n=k.length by obtain⟨A',c',h,_⟩:=HII.out.own.ls;simp only [Value.slice.injEq] at h;exact h.2.1)
  have hn40:n≤1099511627776:=by rw [HKN.out];exact Nat.le_trans (HII.out.inv.len HII.out.at_.nd) HTT.out
  rcases List.eq_nil_or_concat k with hk | ⟨K,c,hk⟩
  ·have hn0:n=0:=by rw [HKN.out,hk];rfl
   have HK0:=hid hk
   clear hk
   subst hn0
   go_wp2
   have h:=HII.out
   rw [HK0.out] at h
   exact⟨rfl,_,results_none rfl _ _ _,rfl,t,h.at_,h.off,h.rg,h.go _ _ (Lets.nil _ _),h.inv⟩
  ·rw [List.concat_eq_append] at hk
   subst hk
   obtain⟨m,hm⟩:∃ m,K.length=m:=⟨_,rfl⟩
   have hn1:n=m+1:=by rw [HKN.out,List.length_append,hm];rfl
   clear HKN
   subst hn1
   obtain⟨A',c',he,x1,x2,hL⟩:=HII.out.own.ls
   simp only [Value.slice.injEq] at he
   obtain⟨rfl,x3,rfl⟩:=he
   have hmc:m≤c1:=by rw [List.length_append,hm] at x1;omega
   have hmc1:¬ c1=0:=by rw [List.length_append,hm] at x1;simp at x1;omega
   clear x1 x2 x3
   obtain⟨b,o,hAe,hbs,hr⟩:=hL m c (by rw [← hm,List.getElem?_append_right (Nat.le_refl _),Nat.sub_self];rfl)
   have hcp:wr.cell? ⟨b,o+m,none⟩=some (.pointer (some ⟨c,0,none⟩)):=by have:=hr 0 _ rfl;rwa [Nat.mul_one] at this
   have HOT:=hid (show OwP w.heap.size wr (.slice A m c1) K by have:=HII.out.own.take (m:=m) (by omega);rw [← hm,List.take_left] at this;rw [← hm];exact this)
   obtain⟨hcP,hcg,hr1,hr2⟩:=HII.out.ref
   have hr3:(t c).r≤1099511627776:=by have:=HTT.out;omega
   have hcr:wr.cell? ⟨c,2,none⟩=some (.int .i64 (t c).r):=(HII.out.at_.at_ hcP).cell (i:=2) rfl
   have hfr:wr.frozen? ⟨c,2,none⟩=false:=(HII.out.at_.at_ hcP).frozen 2
   have hlc:c<wr.heap.size:=HII.out.at_.lt hcP
   have hc2:(wr.setCell ⟨c,2,none⟩ (.int .i64 ((t c).r-1))).cell? ⟨c,2,none⟩=some (.int .i64 ((t c).r-1)):=World.cell?_setCell_same _ _ _ hcr
   have HCP:=hid hcP
   clear hL hr hr2 hcg hm
   subst hAe
   by_cases h0:(t c).r-1=0
   ·have q0:((t c).r-1==0)=true:=by rw [beq_iff_eq];exact h0
    have HTL:=hid (show tot P (updF (rO t) c ((t c).r-1))<tot P (rO t) from tot_less HII.out.at_.nd hcP hr1 rfl)
    obtain⟨A2,c2,hbv,hbc,_,hbL⟩:=(HII.out.at_.bel c hcP).ls
    have HBN:=hid (show (t c).bl.length≤255 by rw [(HII.out.rg c).bl];exact HBL.out c hcP)
    have hA1:=(HII.out.at_.at_ hcP).setR ((t c).r-1)
    have hA2:=hA1.setG true
    have hcg:(wr.setCell ⟨c,2,none⟩ (.int .i64 ((t c).r-1))).cell? ⟨c,41,none⟩=some (.bool (t c).gn):=hA1.gone
    have hfg:(wr.setCell ⟨c,2,none⟩ (.int .i64 ((t c).r-1))).frozen? ⟨c,41,none⟩=false:=hA1.frozen 41
    have hcb:((wr.setCell ⟨c,2,none⟩ (.int .i64 ((t c).r-1))).setCell ⟨c,41,none⟩ (.bool true)).cell? ⟨c,7,none⟩=some (.slice A2 (t c).bl.length c2):=by rw [← hbv];exact hA2.cell (i:=7) rfl
    have HO3:=hid (show OwP w.heap.size ((wr.setCell ⟨c,2,none⟩ (.int .i64 ((t c).r-1))).setCell ⟨c,41,none⟩ (.bool true)) (.slice (some ⟨b,o,none⟩) m c1) K from (HOT.out.cell (HII.out.at_.at_ hcP) (by decide)).cell hA1 (by decide))
    have HZ3:=hid (show w.heap.size≤((wr.setCell ⟨c,2,none⟩ (.int .i64 ((t c).r-1))).setCell ⟨c,41,none⟩ (.bool true)).heap.size by
     have h1:=HII.out.off.size
     have h2:=(grown_cell wr c 2 (.int .i64 ((t c).r-1))).size
     have h3:=(grown_cell (wr.setCell ⟨c,2,none⟩ (.int .i64 ((t c).r-1))) c 41 (.bool true)).size
     omega)
    obtain⟨X,hXs,hMX⟩:=HO3.out.mk HZ3.out
    have HXX:=hid hXs
    have HMX:=hid hMX
    have HBB:=hid (show Ls enP 1 ((wr.setCell ⟨c,2,none⟩ (.int .i64 ((t c).r-1))).setCell ⟨c,41,none⟩ (.bool true)) ((wr.setCell ⟨c,2,none⟩ (.int .i64 ((t c).r-1))).setCell ⟨c,41,none⟩ (.bool true)).heap.size A2 (t c).bl from own_ls enP_len (by have:=((HII.out.at_.bel c hcP).cell (HII.out.at_.at_ hcP) (i:=2) (u:=.int .i64 ((t c).r-1)) (by decide)).cell hA1 (i:=41) (u:=.bool true) (by decide);rw [hbv] at this;exact this))
    have HKL:=hid (show K.length≤1099511627776 by have h1:=HII.out.inv.len HII.out.at_.nd;have h2:=HTT.out;rw [List.length_append] at h1;omega)
    have HGO:=hid (fun (v4:Value) (w4:World) (hm:MkP X w4 v4 (K++(t c).bl)) (hg:((wr.setCell ⟨c,2,none⟩ (.int .i64 ((t c).r-1))).setCell ⟨c,41,none⟩ (.bool true)).grownBy w4 (Value.slice (some ⟨b,o,none⟩) m c1).ownBlock)=>HII.out.gone HC.out h0 hXs hm (fun g hg=>(World.ownsRow.lt HOT.out g hg).1) hg HH.out)
    have HWW:=hid (totW_at HII.out.at_)
    have HTN:=hid (show tot P (updF (rO t) c ((t c).r-1))<tot P (rO t) from HTL.out)
    have HRU:=hid (show rO (upd t c (((t c).rf ((t c).r-1)).go true))=updF (rO t) c ((t c).r-1) from rO_upd _ _ _)
    clear h0 hbv hbL hA1 hA2 hXs hMX hbc
    generalize upd t c (((t c).rf ((t c).r-1)).go true)=t2 at *
    generalize (t c).bl=bl2 at *
    generalize (t c).gn=g2 at *
    go_wp2_with (refine wpList_cat 66 i0 _ 8 Tryz.underlying66 hi0 hz0 hz1 hz2 rfl (by decide) enP_len enP_one HMX.out bl2.length c2 rfl HBB.out (by have:=HKL.out;have:=HBN.out;unfold maxLen;omega) (by have:=HKL.out;have:=HBN.out;omega) rfl (.tmp 38) (.tmp 42) rfl rfl rfl ?_;intro v4 w4 hm4 hg4;have HLG:=hid (HGO.out v4 w4 hm4 hg4);obtain⟨A4,n4,c4,rfl⟩:∃ A n c,v4=.slice A n c:=(by obtain⟨A,c,h,_⟩:=hm4.ls enP_len;exact⟨A,_,c,h⟩);clear hm4 hg4)
    exact⟨⟨_,t2,A4,n4,c4,rfl,HLG.out,by rw [HRU.out];exact Nat.le_trans (Nat.le_of_lt HTN.out) HTT.out⟩,by rw [totW_at HLG.out.at_,HWW.out,HRU.out];exact HTN.out⟩
   ·have HL:=hid (HII.out.less h0 HOT.out)
    have q0:((t c).r-1==0)=false:=by rw [beq_eq_false_iff_ne];exact h0
    have HTL:=hid (show tot P (updF (rO t) c ((t c).r-1))<tot P (rO t) from tot_less HII.out.at_.nd hcP hr1 rfl)
    have HME:=hid (show totW P (wr.setCell ⟨c,2,none⟩ (.int .i64 ((t c).r-1)))<totW P wr by rw [totW_at HL.out.at_,totW_at HII.out.at_,rO_upd];exact HTL.out)
    have HTN:=hid (show tot P (rO (upd t c ((t c).rf ((t c).r-1))))≤1099511627776 by rw [rO_upd];exact Nat.le_trans (Nat.le_of_lt HTL.out) HTT.out)
    clear h0
    generalize upd t c ((t c).rf ((t c).r-1))=t2 at *
    generalize (t c).r=r at *
    go_wp2
    exact⟨⟨K,t2,_,m,c1,by go_num,HL.out,HTN.out⟩,HME.out⟩
theorem infC:(Tryz.prog.info? 75).map (fun i=>(i.zero,i.size,i.bytes))=some (some (.agg #[.int .u32 0,.string ByteArray.empty,.int .i64 0]),3,32):=by kernel_rfl
abbrev MkC (w wr:World) (v:Value) (D:List Ce):Prop:=Mk ecC 3 75 w wr v D
section
variable {o:Oper}{a:Act}{K:Act→World→Prop}{Q:Exit→Act→World→Prop}{w wr:World}{v:Value}
theorem op_catC {D:List Ce}(hM:MkC w wr v D) (y:Ce) (g c:Nat){t:TypeId}{f:Nat×Nat}(hrow:wr.heap[g]?=some (.cells (ecC y).toArray t f)) (hlen:D.length+1≤4398046511104)
  (s x:Operand) (ho:o.op=.call { callee:=.builtin .append,args:=#[s,x],argTypes:=#[23,23] }) (hs:a.eval s=v) (hx:a.eval x=.slice (some ⟨g,0,none⟩) 1 c)
  (h:∀ v' w',MkC w w' v' (D++[y])→wr.grownBy w' v.ownBlock→(v'.ownBlock=v.ownBlock∨v'.ownBlock=some wr.heap.size)→K (a.put o.dst v') w'):Oper.wp Tryz.prog o a wr K Q:=by
 obtain⟨i0,hi,hz0,hz1,hz2⟩:=info_parts infC
 exact op_cat 23 i0 _ 32 Tryz.underlying23 hi hz0 hz1 hz2 rfl (by decide) ecC_len ecC_one hM y g c hrow (by unfold maxLen;omega) (by omega) s x ho hs hx h
theorem op_oneC (x:Operand) (y:Ce) (ho:o.op=.buildSlice 23 1 #[(0,x)]) (hx:a.eval x=.agg (ecC y).toArray) (h:K (a.put o.dst (.slice (some ⟨w.heap.size,0,none⟩) 1 1)) (w.alloc (.cells (ecC y).toArray 75))):Oper.wp Tryz.prog o a w K Q:=by
 obtain⟨i0,hi,hz0,hz1,hz2⟩:=info_parts infC
 exact op_slice1 _ _ x i0 _ _ ho hx Tryz.underlying23 hi hz0 hz1 (show 0<3 by decide) (show 3≤2 ^ 24 by decide) h
end
theorem below_of_nil {wr w':World}(h:wr.grownBy w' (Value.slice none 0 0).ownBlock):Below wr.heap.size wr w' :=
 ⟨h.os,h.tape,h.output,h.size,fun k hk=>h.block k hk (by simp [Value.ownBlock])⟩
theorem range_below {w w':World}{b o:Nat}{vs:List Value}(h:w.rangeAt b o vs) (hb:Below w.heap.size w w') (hl:b<w.heap.size):w'.rangeAt b o vs:=fun j v hv=>(World.cell?_of_block (a:=⟨b,_,none⟩) (hb.block b hl)).trans (h j v hv)
theorem range_grown {w w':World}{b o:Nat}{vs:List Value}{row:Option Nat}(h:w.rangeAt b o vs) (hb:w.grownBy w' row) (hne:row≠some b) (hl:b<w.heap.size):w'.rangeAt b o vs:=fun j v hv=>(World.cell?_of_block (a:=⟨b,_,none⟩) (hb.block b hl (fun e=>hne e.symm))).trans (h j v hv)
structure HIn (w:World) (A:Option Addr) (n:Nat) (L:List Ce):Prop where
 len:n=L.length
 le:n≤4398046511000
 ls:Ls ecC 3 w w.heap.size A L
 sz:∀ c∈L,c.d.size≤9223372036854775807
theorem HIn.go {w w':World}{A:Option Addr}{n:Nat}{L:List Ce}(h:HIn w A n L) (hb:Below w.heap.size w w'):HIn w' A n L:=⟨h.len,h.le,(h.ls.below hb).more hb.size,h.sz⟩
theorem MkC.cell {w wr:World}{v u:Value}{D:List Ce}{q i:Nat}{cs:Array Value}{t:TypeId}{f:Nat×Nat}(h:MkC w wr v D) (hr:wr.heap[q]?=some (.cells cs t f)) (ht:t≠75) (hq:w.heap.size≤q):MkC w (wr.setCell ⟨q,i,none⟩ u) v D:=h.grownQ (grown_cell _ _ _ _) hq (Mk.off h hr ht)
theorem row_cell {w:World}{q g i:Nat}{o:Obj}{u:Value}(h:w.heap[g]?=some o) (hne:g≠q):(w.setCell ⟨q,i,none⟩ u).heap[g]?=some o:=row_other (grown_cell _ _ _ _) h hne
def HPost (w:World) (sz:Nat) (L:List Ce) (v:Value) (w':World):Prop:=∃ A n c,v=.agg #[.int .u32 sz,.slice A n c]∧MkC w w' (.slice A n c) L
set_option maxHeartbeats 2000000 in
theorem copied_any {w:World}{A:Option Addr}{n:Nat}{L:List Ce}(sz cap:Nat) (h:HIn w A n L) :
  Calls Tryz.prog 77 #[.agg #[.int .u32 sz,.slice A n cap]] w fun e w'=>∃ v,e=.returned v∧HPost w sz L v w':=by
 obtain⟨i0,hi,hz0,hz1,hz2⟩:=info_parts infC
 obtain⟨R1,R2,S0,Z0⟩:=two_new w #[.int .u32 sz,.slice A n cap] #[.int .u32 0,.slice none 0 0] 25 25
 have HR1:=hid R1
 have HR2:=hid R2
 have HS:=hid S0
 have HZ:=hid Z0
 have HL:=hid (h.ls.below S0 |>.more S0.size)
 have HN:=hid h.len
 have hle:=h.le
 clear R1 R2 S0 Z0 h
 go_enter Tryz.func77,Tryz.ntmps77
 go_wp2_with (refine wpList_cat 23 i0 _ 32 Tryz.underlying23 hi hz0 hz1 hz2 rfl (by decide) ecC_len ecC_one (Mk.nil (enc:=ecC) (k:=3) (e:=75) (w:=w) HS.out) n cap HN.out HL.out (by unfold maxLen;simp;omega) (by simp;omega) rfl (.const (.slice none 0 0)) (.tmp 4) rfl rfl rfl ?_;intro v3 w3 hm3 hg3;have HM3:=hid hm3;have hb3:=below_of_nil hg3;have HR13:=hid ((hb3.block _ (row_lt HR1.out)).trans HR1.out);have HR23:=hid ((hb3.block _ (row_lt HR2.out)).trans HR2.out);obtain⟨A3,n3,c3,rfl⟩:∃ A n c,v3=.slice A n c:=(by obtain⟨A,c,h,_⟩:=hm3.ls ecC_len;exact⟨A,_,c,h⟩);have k1:w3.cell? ⟨w.heap.size,1,none⟩=some (.slice A n cap):=cell_of_row _ _ 1 _ _ _ HR13.out;have k0:w3.cell? ⟨w.heap.size,0,none⟩=some (.int .u32 sz):=cell_of_row _ _ 0 _ _ _ HR13.out;have f1:=frozen_of_row w3 w.heap.size 1 _ _ HR13.out;have l1:=row_lt HR13.out;have g0:w3.cell? ⟨w.heap.size+1,0,none⟩=some (.int .u32 0):=cell_of_row _ _ 0 _ _ _ HR23.out;have g1:w3.cell? ⟨w.heap.size+1,1,none⟩=some (.slice none 0 0):=cell_of_row _ _ 1 _ _ _ HR23.out;have p0:=frozen_of_row w3 (w.heap.size+1) 0 _ _ HR23.out;have p1:=frozen_of_row w3 (w.heap.size+1) 1 _ _ HR23.out;have l2:=row_lt HR23.out;clear hm3 hg3 hb3)
 have R1:=row_set (cs:=[.int .u32 sz,.slice A n cap]) (i:=1) (u:=.slice A3 n3 c3) HR13.out
 have R2:=row_cell (q:=w.heap.size) (i:=1) (u:=.slice A3 n3 c3) HR23.out (by omega)
 have R3:=row_set (cs:=[.int .u32 0,.slice none 0 0]) (i:=0) (u:=.int .u32 sz) R2
 have R4:=row_set (cs:=[.int .u32 sz,.slice none 0 0]) (i:=1) (u:=.slice A3 n3 c3) R3
 refine bodyPost_ret (v:=.agg #[.int .u32 sz,.slice A3 n3 c3]) (results_cell_row rfl _ _ (w.heap.size+1) 25 #[.int .u32 sz,.slice A3 n3 c3] (0,0) _ rfl R4 Tryz.underlying25 rfl (by kernel_rfl)) rfl ?_
 exact⟨_,rfl,A3,n3,c3,rfl,((MkC.cell (v:=.slice A3 n3 c3) HM3.out HR13.out (by decide) (Nat.le_refl _)).cell R2 (by decide) (Nat.le_succ _)).cell R3 (by decide) (Nat.le_succ _)⟩
def plL (P:List Nat) (s:Nat→Ob):List Ce:=(P.filter fun p=>!(s p).gn).map fun p=>ceO (s p)
theorem plL_take {P:List Nat}{s:Nat→Ob}{i p:Nat}(h:P[i]?=some p):plL (P.take (i+1)) s=plL (P.take i) s++(if (s p).gn then [] else [ceO (s p)]):=by
 unfold plL
 rw [take_snoc h,List.filter_append,List.map_append]
 congr 1
 cases hg:(s p).gn<;>simp [List.filter_cons,hg]
structure PlI (w wr:World) (sz:Nat) (hb rb:Nat) (D:List Ce) (v:Value):Prop where
 row:wr.heap[hb]?=some (.cells #[.int .u32 sz,v] 25 (0,0))
 res:wr.heap[rb]?=some (.cells #[.int .u32 0,.slice none 0 0] 25 (0,0))
 own:MkC w wr v D
 sz:w.heap.size≤wr.heap.size
theorem PlI.go {w wr w':World}{sz hb rb:Nat}{D:List Ce}{v:Value}(h:PlI w wr sz hb rb D v) (hbl:Below wr.heap.size wr w'):PlI w w' sz hb rb D v :=
 ⟨(hbl.block _ (row_lt h.row)).trans h.row,(hbl.block _ (row_lt h.res)).trans h.res,h.own.go hbl,Nat.le_trans h.sz hbl.size⟩
set_option maxHeartbeats 4000000 in
theorem plain_any {n0 q sz:Nat}{w:World}{P:List Nat}{s:Nat→Ob}{v:Value}(hrow:∃ cs t,w.heap[q]?=some (.cells cs t (0,0))∧cs[0]?=some (.int .u32 sz)∧cs[1]?=some v) (hO:OwP n0 w v P) (hH:Rows w P s) (hl:P.length≤65537) :
  Calls Tryz.prog 52 #[.pointer (some ⟨q,0,none⟩)] w fun e w'=>∃ v,e=.returned v∧HPost w sz (plL P s) v w':=by
 obtain⟨cs,t,hr,hv0,hv1⟩:=hrow
 obtain⟨A,c,rfl,_,_,hL⟩:=hO.ls
 have hq:q<w.heap.size:=row_lt hr
 have hc0:w.cell? ⟨q,0,none⟩=some (.int .u32 sz):=(cell_of_row _ _ 0 _ _ _ hr).trans hv0
 have hc1:w.cell? ⟨q,1,none⟩=some (.slice A P.length c):=(cell_of_row _ _ 1 _ _ _ hr).trans hv1
 obtain⟨n,hnl⟩:∃ n,P.length=n:=⟨_,rfl⟩
 rw [hnl] at hc1 hl
 obtain⟨R1,R2,S0,Z0⟩:=two_new w #[.int .u32 0,.slice none 0 0] #[.int .u32 sz,.slice none 0 0] 25 25
 have HSt:=hid (show PlI w _ sz (w.heap.size+1) w.heap.size [] (.slice none 0 0) from⟨R2,R1,Mk.nil S0,S0.size⟩)
 have HLL:=hid hL
 have HH:=hid hH
 have HN:=hid hnl
 clear R1 R2 S0 Z0 hL hH hnl hO hv0 hv1 hr
 go_enter Tryz.func52,Tryz.ntmps52
 go_wp2_with fail
 generalize (w.alloc (.cells #[.int .u32 0,.slice none 0 0] 25)).alloc (.cells #[.int .u32 (sz:Int),.slice none 0 0] 25)=W0 at *
 generalize hhb:w.heap.size+1=hb at *
 have HHB:=hid hhb
 clear hhb
 go_loopw [16] (fun v wr=>∃ (i:Nat) (A6:Option Addr) (n6 c6:Nat),i≤n∧v=.int .i64 i∧Hid (PlI w wr sz hb w.heap.size (plL (P.take i) s) (.slice A6 n6 c6))) (fun v _=>n-(intOf v).toNat)
 case atStart=>exact⟨0,none,0,0,Nat.zero_le _,by go_num,HSt.out⟩
 case round =>
  obtain⟨i,A6,n6,c6,hi,rfl,hI⟩:=hrel
  have HII:=hid (Hid.out hI)
  clear hI
  by_cases hlt:i<n
  ·obtain⟨p,hp⟩:∃ p,P[i]?=some p:=⟨_,List.getElem?_eq_getElem (by rw [HN.out];exact hlt)⟩
   have HP:=hid hp
   have hpP:=List.mem_of_getElem? hp
   obtain⟨b,o,hAe,hbs,hr⟩:=(HLL.out.below HII.out.own.2) i p hp
   have hbs2:b<wr.heap.size:=Nat.lt_of_lt_of_le hbs HII.out.sz
   have hcp:wr.cell? ⟨b,o+i,none⟩=some (.pointer (some ⟨p,0,none⟩)):=by have:=hr 0 _ rfl;rwa [Nat.mul_one] at this
   have hAt:At wr p (s p):=(HII.out.own.2.block p (HH.out p hpP).lt).trans (HH.out p hpP)
   have hlp:p<wr.heap.size:=hAt.lt
   have hcg:wr.cell? ⟨p,41,none⟩=some (.bool (s p).gn):=hAt.gone
   have HPL:=hid (HH.out p hpP).lt
   have HLEN:=hid (show (plL (P.take i) s).length+1≤4398046511104 by
    have h1:(plL (P.take i) s).length≤(P.take i).length:=by unfold plL;rw [List.length_map];exact List.length_filter_le _ _
    have h2:(P.take i).length≤i:=List.length_take_le _ _
    omega)
   have HTK:=hid (plL_take (s:=s) hp)
   have HI5:=hid (HII.out.go (show Below wr.heap.size wr wr.drew from (Below.refl _ _).drew))
   have HRP5:=hid (show wr.drew.rangeAt p 0 (ecC (ceO (s p))) from fun j v hv=>by
    rw [Nat.zero_add]
    match j,hv with
    | 0,hv=>exact hAt.cell (i:=0) hv
    | 1,hv=>exact hAt.cell (i:=1) hv
    | 2,hv=>exact hAt.cell (i:=2) hv
    | j+3,hv=>simp [ecC] at hv)
   have hp5:p<wr.drew.heap.size:=hlp
   clear hr hp hAt
   subst hAe
   cases hg:(s p).gn
   ·rw [hg] at hcg
    have HG:=hid hg
    clear hg
    go_wp2_with fail
    refine wp_region_T (fun w':World=>w'.cell? ⟨hb,1,none⟩=some (.slice A6 n6 c6)∧w'.rangeAt p 0 (ecC (ceO (s p)))) 8 (by kernel_rfl) (by kernel_rfl) ?_
    generalize wr.drew=w5 at *
    have hS:(fun w':World=>w'.cell? ⟨hb,1,none⟩=some (.slice A6 n6 c6)∧w'.rangeAt p 0 (ecC (ceO (s p)))) w5:=⟨cell_of_row _ _ 1 _ _ _ HI5.out.row,HRP5.out⟩
    refine take_T 0 25 (.pointer (some ⟨hb,1,none⟩)) rfl (by rfl) (by kernel_rfl) (by decide) (by kernel_rfl) (by kernel_rfl) (by kernel_rfl) (fun _ _ _ h=>h) (Or.inl ⟨by rfl,fun w' hSw=>by obtain⟨s0,s1⟩:=hSw;go_simp⟩) hS ?_
    simp only [Gb3a,Gb3b,Gb3c]
    refine take_T 1 26 (.slice A6 n6 c6) rfl (by rfl) (by kernel_rfl) (by decide) (by kernel_rfl) (by kernel_rfl) (by kernel_rfl) (fun _ _ _ h=>h) (Or.inl ⟨by rfl,fun w' hSw=>by obtain⟨s0,s1⟩:=hSw;go_simp⟩) hS ?_
    simp only [Gb3a,Gb3b,Gb3c]
    refine take_T 2 27 (.pointer (some ⟨p,0,none⟩)) rfl (by rfl) (by kernel_rfl) (by decide) (by kernel_rfl) (by kernel_rfl) (by kernel_rfl) (fun _ _ _ h=>h) (Or.inl ⟨by rfl,fun w' hSw=>by obtain⟨s0,s1⟩:=hSw;go_simp⟩) hS ?_
    simp only [Gb3a,Gb3b,Gb3c]
    refine take_T 3 28 (.pointer (some ⟨p,0,none⟩)) rfl (by rfl) (by kernel_rfl) (by decide) (by kernel_rfl) (by kernel_rfl) (by kernel_rfl) (fun _ _ _ h=>h) (Or.inl ⟨by rfl,fun w' hSw=>by obtain⟨s0,s1⟩:=hSw;go_simp⟩) hS ?_
    simp only [Gb3a,Gb3b,Gb3c]
    refine take_T 4 29 (.pointer (some ⟨p,0,none⟩)) rfl (by rfl) (by kernel_rfl) (by decide) (by kernel_rfl) (by kernel_rfl) (by kernel_rfl) (fun _ _ _ h=>h) (Or.inl ⟨by rfl,fun w' hSw=>by obtain⟨s0,s1⟩:=hSw;go_simp⟩) hS ?_
    simp only [Gb3a,Gb3b,Gb3c]
    refine take_T 5 30 (.agg (ecC (ceO (s p))).toArray) rfl (by rfl) (by kernel_rfl) (by decide) (by kernel_rfl) (by kernel_rfl) (by kernel_rfl) (fun _ _ _ h=>h) (yieldsIf_load_mid (by rfl) 75 (.tmp 29) rfl p 0 rfl (ecC (ceO (s p))) _ (fun w' hSw=>hSw.2) Tryz.underlying75 rfl infoC) hS ?_
    simp only [Gb3a,Gb3b,Gb3c]
    refine only_T 6 rfl (by kernel_rfl) (by decide) (by rfl) (fun K hK=>?_)
    refine op_oneC (.tmp 30) (ceO (s p)) rfl rfl ?_
    have hal:Below w5.heap.size w5 (w5.alloc (.cells (ecC (ceO (s p))).toArray 75)):=(Below.refl _ _).alloc (Nat.le_refl _) _
    have HI6:=hid (HI5.out.go hal)
    have HRP6:=hid (range_below HRP5.out hal hp5)
    have HNB:=hid (heap_alloc_new w5 (.cells (ecC (ceO (s p))).toArray 75))
    have hS2:(fun w':World=>w'.cell? ⟨hb,1,none⟩=some (.slice A6 n6 c6)∧w'.rangeAt p 0 (ecC (ceO (s p)))) (w5.alloc (.cells (ecC (ceO (s p))).toArray 75)):=⟨cell_of_row _ _ 1 _ _ _ HI6.out.row,HRP6.out⟩
    clear hal hS
    refine hK.out _ _ hS2 ?_
    clear hK K
    try simp only [Act.put,Gb3a,Gb3b,Gb3c]
    have hS:=hS2
    clear hS2
    generalize hw6:w5.alloc (.cells (ecC (ceO (s p))).toArray 75)=w6 at *
    clear hw6
    refine only_T 7 rfl (by kernel_rfl) (by decide) (by rfl) (fun K hK=>?_)
    refine op_catC HI6.out.own (ceO (s p)) w5.heap.size 1 HNB.out HLEN.out _ _ rfl rfl rfl ?_
    intro v8 w8 hM8 hG8 hat8
    obtain⟨A8,n8,c8,rfl⟩:∃ A n c,v8=.slice A n c:=(by obtain⟨A,c,h,_⟩:=hM8.ls ecC_len;exact⟨A,_,c,h⟩)
    have hoff:∀ {g:Nat}{cs:Array Value}{t:TypeId}{f:Nat×Nat},w6.heap[g]?=some (.cells cs t f)→t≠75→w8.heap[g]?=some (.cells cs t f):=fun {g cs t f} hg ht=>(hG8.block g (row_lt hg) (fun e=>Mk.off HI6.out.own hg ht e.symm)).trans hg
    have HQ8:=hid (hoff HI6.out.row (by decide))
    have HQR:=hid (hoff HI6.out.res (by decide))
    have hlo8:∀ g,(Value.slice A6 n6 c6).ownBlock=some g→w.heap.size≤g:=fun g hg=>(World.ownsRow.lt HI6.out.own.1 g hg).1
    have HRP8:=hid (range_grown HRP6.out hG8 (fun e=>by have:=hlo8 _ e;have:=HPL.out;omega) (Nat.lt_of_lt_of_le HPL.out HI6.out.sz))
    have HM8:=hid hM8
    have hS2:(fun w':World=>w'.cell? ⟨hb,1,none⟩=some (.slice A6 n6 c6)∧w'.rangeAt p 0 (ecC (ceO (s p)))) w8:=⟨cell_of_row _ _ 1 _ _ _ HQ8.out,HRP8.out⟩
    clear hoff hM8 hG8 hat8 hS
    refine hK.out _ _ hS2 ?_
    clear hK K hS2
    try simp only [Act.put,Gb3a,Gb3b,Gb3c]
    refine done_T (by kernel_rfl) ?_
    simp only [List.drop_succ_cons,List.drop_zero]
    have hcq:w8.cell? ⟨hb,1,none⟩=some (.slice A6 n6 c6):=cell_of_row _ _ 1 _ _ _ HQ8.out
    have hfq:w8.frozen? ⟨hb,1,none⟩=false:=frozen_of_row _ _ _ _ _ HQ8.out
    have hlq:hb<w8.heap.size:=row_lt HQ8.out
    have HI9:=hid (show PlI w (w8.setCell ⟨hb,1,none⟩ (.slice A8 n8 c8)) sz hb w.heap.size (plL (P.take (i+1)) s) (.slice A8 n8 c8) from⟨row_set (cs:=[.int .u32 sz,.slice A6 n6 c6]) (i:=1) HQ8.out,row_cell HQR.out (by have:=HHB.out;omega),by rw [HTK.out,HG.out];exact MkC.cell HM8.out HQ8.out (by decide) (by have:=HHB.out;omega),by have h1:=HM8.out.2.size;have h2:=(grown_cell w8 hb 1 (.slice A8 n8 c8)).size;omega⟩)
    go_wp2
    exact⟨⟨i+1,A8,n8,c8,by omega,by go_num,HI9.out⟩,by simp [intOf]<;>omega⟩
   ·rw [hg] at hcg
    have HI9:=hid (show PlI w wr sz hb w.heap.size (plL (P.take (i+1)) s) (.slice A6 n6 c6) by rw [HTK.out,hg];simpa using HII.out)
    clear hg
    go_wp2_with fail
    exact⟨⟨i+1,A6,n6,c6,by omega,by go_num,HI9.out⟩,by simp [intOf]<;>omega⟩
  ·have hin:i=n:=by omega
   have HT:=hid (show P.take i=P by rw [hin,← HN.out,List.take_length])
   have q0:wr.cell? ⟨hb,0,none⟩=some (.int .u32 sz):=cell_of_row _ _ 0 _ _ _ HII.out.row
   have q1:wr.cell? ⟨hb,1,none⟩=some (.slice A6 n6 c6):=cell_of_row _ _ 1 _ _ _ HII.out.row
   have l0:=row_lt HII.out.row
   have g0:wr.cell? ⟨w.heap.size,0,none⟩=some (.int .u32 0):=cell_of_row _ _ 0 _ _ _ HII.out.res
   have g1:wr.cell? ⟨w.heap.size,1,none⟩=some (.slice none 0 0):=cell_of_row _ _ 1 _ _ _ HII.out.res
   have f0:=frozen_of_row wr w.heap.size 0 _ _ HII.out.res
   have f1:=frozen_of_row wr w.heap.size 1 _ _ HII.out.res
   have l1:=row_lt HII.out.res
   clear hin
   go_wp2_with fail
   have R3:=row_set (cs:=[.int .u32 0,.slice none 0 0]) (i:=0) (u:=.int .u32 sz) HII.out.res
   have R4:=row_set (cs:=[.int .u32 sz,.slice none 0 0]) (i:=1) (u:=.slice A6 n6 c6) R3
   refine bodyPost_ret (v:=.agg #[.int .u32 sz,.slice A6 n6 c6]) (results_cell_row rfl _ _ w.heap.size 25 #[.int .u32 sz,.slice A6 n6 c6] (0,0) _ rfl R4 Tryz.underlying25 rfl (by kernel_rfl)) rfl ?_
   have hm:=HII.out.own
   rw [HT.out] at hm
   exact⟨_,rfl,A6,n6,c6,rfl,(MkC.cell hm HII.out.res (by decide) (Nat.le_refl _)).cell R3 (by decide) (Nat.le_refl _)⟩
set_option linter.unusedVariables false
set_option linter.unusedSimpArgs false
set_option maxRecDepth 100000
open Go.ChangeShapes Go.WideShapes Go.ChangeAt Go.RowKit
open Ar Nd
open BigFrame
def fndL (L:List Ce) (n:Nat):Option Ce:=L.find? fun c=>decide (c.num=n)
theorem fnd_LP {P:List Nat}{s:Nat→Ob}(n:Nat):fndL (P.map fun p=>ceO (s p)) n=(fndP s P n).map fun p=>ceO (s p):=by
 unfold fndL fndP
 rw [List.find?_map]
 rfl
open Classical in
noncomputable def okE (sz:Nat) (L:List Ce):Int:=if okH sz L then 0 else 7
open Classical in
noncomputable def fndE (sz:Nat) (L:List Ce) (num:Nat):Int:=if okH sz L then (match fndL L num with | some _=>0 | none=>5) else 7
open Classical in
noncomputable def heldX (sz:Nat) (L:List Ce) (num:Nat):Int:=if okH sz L then (match fndL L num with | some c=>c.r-ldL L num | none=>0) else 0
open Classical in
noncomputable def freeX (sz:Nat) (L:List Ce):Int:=if okH sz L then (sz:Int)-2-L.length else 0
open Classical in
noncomputable def getX (sz:Nat) (L:List Ce) (num:Nat):Nd:=if okH sz L then (match fndL L num with | some c=>ndD c.d | none=>⟨0,[],[],[]⟩) else ⟨0,[],[],[]⟩
theorem Kc.mono {tK tS:TypeId}{n0 m0:Nat}{w:World}(h:Kc tK tS n0 w) (hm:n0≤m0):Kc tK tS m0 w:=⟨h.r,h.i,Nat.lt_of_lt_of_le h.lr hm,Nat.lt_of_lt_of_le h.li hm⟩
theorem tk_at {tK tS:TypeId}{w:World}{A:Option Addr}{n:Nat}{L:List Ce}(hk:Kc tK tS w.heap.size w) (h:HIn w A n L) (sz cap:Nat) (W:World) (hb:Below w.heap.size w W) :
  Calls Tryz.prog 33 #[.agg #[.int .u32 sz,.slice A n cap]] W (TkPost W sz L) :=
 takenUp_any ((hk.below hb).mono hb.size) sz L A n cap h.len (by have:=h.le;omega) ((h.go hb).ls) h.sz
theorem Tk.wk {n0 q:Nat}{w:World}{v:Value}{P:List Nat}{s:Nat→Ob}{L:List Ce}{cs:Array Value}{t:TypeId}(h:Tk n0 w v P s L) (hq:w.heap[q]?=some (.cells cs t (0,0))) (ht:t≠T) (hv:cs[1]?=some v):Wk n0 w q P s :=
 ⟨⟨cs,t,v,hq,ht,hv,h.own⟩,h.at_,h.up,by have:=h.len;omega⟩
theorem Tk.ale {n0:Nat}{w:World}{v:Value}{P:List Nat}{s:Nat→Ob}{L:List Ce}(h:Tk n0 w v P s L){p:Nat}(hp:p∈P):(s p).a≤16777216∧(0:Int)≤(s p).r:=by
 have:=h.rf p hp
 omega
theorem Tk.ald {n0:Nat}{w:World}{v:Value}{P:List Nat}{s:Nat→Ob}{L:List Ce}(h:Tk n0 w v P s L){p:Nat}(hp:p∈P):(s p).a=ldL L (s p).num:=by
 rw [h.a p hp,cnt_ld h.up h.n h.good hp,← h.lst]
set_option maxHeartbeats 4000000 in
theorem check_any {tK tS:TypeId}{w:World}{A:Option Addr}{n:Nat}{L:List Ce}(hk:Kc tK tS w.heap.size w) (h:HIn w A n L) (sz cap:Nat) :
  Calls Tryz.prog 15 #[.agg #[.int .u32 sz,.slice A n cap]] w fun e w'=>e=.returned (.int .i64 (okE sz L))∧Below w.heap.size w w':=by
 have HT:=hid (fun W hb=>tk_at hk h sz cap W hb)
 have HB0:=hid (show Below w.heap.size w (w.alloc (.cells #[.int .u32 sz,.slice A n cap] 25)) from (Below.refl _ _).alloc (Nat.le_refl _) _)
 clear hk h
 go_enter Tryz.func15,Tryz.ntmps15
 go_wp2_with fail
 refine (HT.out _ HB0.out).mono ?_
 rintro e w2 ⟨hb,⟨hok,A2,n2,c2,P,s,rfl,htk⟩ | ⟨hno,rfl⟩⟩
 ·have HX:=hid (show okE sz L=0 by unfold okE;rw [if_pos hok])
  have HB:=hid (HB0.out.trans (hb.mono HB0.out.size))
  clear hb hok htk
  go_wp2_with fail
  go_ret
  exact⟨by rw [HX.out];rfl,HB.out.alloc HB.out.size _⟩
 ·have HX:=hid (show okE sz L=7 by unfold okE;rw [if_neg hno])
  have HB:=hid (HB0.out.trans (hb.mono HB0.out.size))
  clear hb hno
  go_wp2_with fail
  go_ret
  exact⟨by rw [HX.out];rfl,HB.out.alloc HB.out.size _⟩
set_option maxHeartbeats 4000000 in
theorem free_any {tK tS:TypeId}{w:World}{A:Option Addr}{n:Nat}{L:List Ce}(hk:Kc tK tS w.heap.size w) (h:HIn w A n L) (sz cap:Nat) :
  Calls Tryz.prog 11 #[.agg #[.int .u32 sz,.slice A n cap]] w fun e w'=>e=.returned (.tuple #[.int .i64 (freeX sz L),.int .i64 (okE sz L)])∧Below w.heap.size w w':=by
 have HC:=hid (fun W (hb:Below w.heap.size w W)=>check_any (A:=A) ((hk.below hb).mono hb.size) (h.go hb) sz cap)
 have HN:=hid h.len
 have hle:=h.le
 have HB0:=hid (show Below w.heap.size w (w.alloc (.cells #[.int .u32 sz,.slice A n cap] 25)) from (Below.refl _ _).alloc (Nat.le_refl _) _)
 have HR0:=hid (heap_alloc_new w (.cells #[.int .u32 sz,.slice A n cap] 25))
 clear hk h
 by_cases hok:okH sz L
 ·have HX:=hid (show okE sz L=0 by unfold okE;rw [if_pos hok])
  have HY:=hid (show freeX sz L=(sz:Int)-2-n by unfold freeX;rw [if_pos hok,HN.out])
  have hs:=hok.hi
  have hl:n≤65536:=by rw [HN.out];exact hok.cs.len hok.hi
  clear hok
  go_enter Tryz.func11,Tryz.ntmps11
  go_wp2_with fail
  refine (HC.out _ HB0.out).mono ?_
  rw [HX.out]
  rintro e w2 ⟨rfl,hb⟩
  have HR2:=hid ((hb.block _ (row_lt HR0.out)).trans HR0.out)
  have HB:=hid (HB0.out.trans (hb.mono HB0.out.size))
  have k0:w2.cell? ⟨w.heap.size,0,none⟩=some (.int .u32 sz):=cell_of_row _ _ 0 _ _ _ HR2.out
  have k1:w2.cell? ⟨w.heap.size,1,none⟩=some (.slice A n cap):=cell_of_row _ _ 1 _ _ _ HR2.out
  have l0:=row_lt HR2.out
  clear hb
  go_wp2_with fail
  go_ret2
  exact⟨by rw [HY.out,HX.out];rfl,HB.out⟩
 ·have HX:=hid (show okE sz L=7 by unfold okE;rw [if_neg hok])
  have HY:=hid (show freeX sz L=0 by unfold freeX;rw [if_neg hok])
  clear hok
  go_enter Tryz.func11,Tryz.ntmps11
  go_wp2_with fail
  refine (HC.out _ HB0.out).mono ?_
  rw [HX.out]
  rintro e w2 ⟨rfl,hb⟩
  have HB:=hid (HB0.out.trans (hb.mono HB0.out.size))
  clear hb
  go_wp2_with fail
  go_ret2
  exact⟨by rw [HY.out,HX.out];rfl,HB.out⟩
set_option maxHeartbeats 4000000 in
theorem held_at {tK tS:TypeId}{w:World}{A:Option Addr}{n:Nat}{L:List Ce}(hk:Kc tK tS w.heap.size w) (h:HIn w A n L) (sz cap:Nat) (num:Nat) :
  Calls Tryz.prog 9 #[.agg #[.int .u32 sz,.slice A n cap],.int .u32 num] w fun e w'=>e=.returned (.tuple #[.int .i64 (heldX sz L num),.int .i64 (fndE sz L num)])∧Below w.heap.size w w':=by
 have HT:=hid (fun W hb=>tk_at hk h sz cap W hb)
 have HB0:=hid (show Below w.heap.size w (w.alloc (.cells #[.int .u32 sz,.slice A n cap] 25)) from (Below.refl _ _).alloc (Nat.le_refl _) _)
 clear hk h
 go_enter Tryz.func9,Tryz.ntmps9
 go_wp2_with fail
 refine (HT.out _ HB0.out).mono ?_
 rintro e w2 ⟨hb,⟨hok,A2,n2,c2,P,s,rfl,htk⟩ | ⟨hno,rfl⟩⟩
 ·have HB:=hid (HB0.out.trans (hb.mono HB0.out.size))
  have hal:Below w2.heap.size w2 (w2.alloc (.cells #[.int .u32 sz,.slice A2 n2 c2] 68)):=(Below.refl _ _).alloc (Nat.le_refl _) _
  have HTK:=hid (htk.go hal)
  have HB3:=hid (HB.out.trans (hal.mono HB.out.size))
  have HFD:=hid (find_any (HTK.out.wk (heap_alloc_new w2 (.cells #[.int .u32 sz,.slice A2 n2 c2] 68)) (by decide) rfl) num)
  have HFL:=hid (show fndL L num=(fndP s P num).map fun p=>ceO (s p) by rw [htk.lst];exact fnd_LP num)
  clear hb htk hal
  cases hf:fndP s P num with
  | none =>
   have HX:=hid (show heldX sz L num=0∧fndE sz L num=5 by unfold heldX fndE;rw [if_pos hok,if_pos hok,HFL.out,hf];exact⟨rfl,rfl⟩)
   rw [hf] at HFD
   have HFE:=hid (show Calls Tryz.prog 34 #[.pointer (some ⟨w2.heap.size,0,none⟩),.int .u32 num] (w2.alloc (.cells #[.int .u32 sz,.slice A2 n2 c2] 68)) fun e w'=>e=.returned (.tuple #[.pointer none,.int .i64 5])∧Below (w2.alloc (.cells #[.int .u32 sz,.slice A2 n2 c2] 68)).heap.size (w2.alloc (.cells #[.int .u32 sz,.slice A2 n2 c2] 68)) w' from HFD.out)
   clear hok hf HFD
   go_wp2_with fail
   refine HFE.out.mono ?_
   rintro e w4 ⟨rfl,hb4⟩
   have HB4:=hid (HB3.out.trans (hb4.mono HB3.out.size))
   clear hb4
   go_wp2_with fail
   go_ret2
   exact⟨by rw [HX.out.1,HX.out.2];rfl,HB4.out⟩
  | some p =>
   obtain⟨hpP,hpn⟩:=fndP_some hf
   have HX:=hid (show heldX sz L num=(s p).r-(s p).a∧fndE sz L num=0 by
    unfold heldX fndE
    rw [if_pos hok,if_pos hok,HFL.out,hf]
    refine⟨?_,rfl⟩
    show (s p).r-(ldL L num:Int)=_
    rw [HTK.out.ald hpP,hpn])
   rw [hf] at HFD
   have HFE:=hid (show Calls Tryz.prog 34 #[.pointer (some ⟨w2.heap.size,0,none⟩),.int .u32 num] (w2.alloc (.cells #[.int .u32 sz,.slice A2 n2 c2] 68)) fun e w'=>e=.returned (.tuple #[.pointer (some ⟨p,0,none⟩),.int .i64 0])∧Below (w2.alloc (.cells #[.int .u32 sz,.slice A2 n2 c2] 68)).heap.size (w2.alloc (.cells #[.int .u32 sz,.slice A2 n2 c2] 68)) w' from HFD.out)
   have HHL:=hid (fun W (hb:Below (w2.alloc (.cells #[.int .u32 sz,.slice A2 n2 c2] 68)).heap.size (w2.alloc (.cells #[.int .u32 sz,.slice A2 n2 c2] 68)) W)=>held_any ((HTK.out.go hb).at_.at_ hpP) (by have:=(HTK.out.ale hpP).1;omega) (HTK.out.rf p hpP).1 (by have:=(HTK.out.rf p hpP).2;omega))
   clear hok hf HFD hpn
   go_wp2_with fail
   refine HFE.out.mono ?_
   rintro e w4 ⟨rfl,hb4⟩
   have HHE:=hid (HHL.out _ hb4)
   have HB4:=hid (HB3.out.trans (hb4.mono HB3.out.size))
   clear hb4 HHL
   go_wp2_with fail
   refine HHE.out.mono ?_
   rintro e w5 ⟨rfl,hb5⟩
   have HB5:=hid (HB4.out.trans (hb5.mono HB4.out.size))
   clear hb5
   go_wp2_with fail
   go_ret2
   exact⟨by rw [HX.out.1,HX.out.2];rfl,HB5.out⟩
 ·have HX:=hid (show heldX sz L num=0∧fndE sz L num=7 by unfold heldX fndE;rw [if_neg hno,if_neg hno];exact⟨rfl,rfl⟩)
  have HB:=hid (HB0.out.trans (hb.mono HB0.out.size))
  clear hb hno
  go_wp2_with fail
  go_ret2
  exact⟨by rw [HX.out.1,HX.out.2];rfl,HB.out.alloc HB.out.size _⟩
theorem info4n:(Tryz.prog.info? 31).map (·.size)=some 4:=by kernel_rfl
theorem NdOwn.mk0 {w w':World}(hb:Below w.heap.size w w'):NdOwn w w' zN ⟨0,[],[],[]⟩:=⟨zS,zS,zS,rfl,Mk.nil hb,Mk.nil hb,Mk.nil hb⟩
theorem OwN.out {w W:World}{vI vK vV:Value}{n:Nd}(h:OwN w.heap.size W vI vK vV n) (hb:Below w.heap.size w W):NdOwn w W #[.int .u8 n.kd,vI,vK,vV] n:=⟨vI,vK,vV,rfl,⟨h.1,hb⟩,⟨h.2.1,hb⟩,⟨h.2.2,hb⟩⟩
theorem OwN.mono {n0 m0:Nat}{W:World}{vI vK vV:Value}{n:Nd}(h:OwN n0 W vI vK vV n) (hm:m0≤n0):OwN m0 W vI vK vV n:=⟨World.ownsRow.mono h.1 hm,World.ownsRow.mono h.2.1 hm,World.ownsRow.mono h.2.2 hm⟩
theorem own_shape {b k n:Nat}{w:World}{e:TypeId}{v:Value}{xs:List Value}(h:w.ownsRow b e k v n xs):∃ A n c,v=.slice A n c:=by
 rcases h.2 with ⟨rfl,_⟩ | ⟨g,cap,cur,rfl,_⟩
 ·exact⟨_,_,_,rfl⟩
 ·exact⟨_,_,_,rfl⟩
theorem own_cell {b k n q i:Nat}{w:World}{e t:TypeId}{v u:Value}{xs:List Value}{cs:Array Value}{f:Nat×Nat}(h:w.ownsRow b e k v n xs) (hq:w.heap[q]?=some (.cells cs t f)) (ht:t≠e):(w.setCell ⟨q,i,none⟩ u).ownsRow b e k v n xs :=
 World.ownsRow.kept h (grown_cell w q i u) (by
  rcases h.2 with ⟨rfl,_⟩ | ⟨g,cap,cur,rfl,_,hg,_⟩
  ·exact .inl rfl
  ·right
   intro e1
   simp only [Value.ownBlock,Option.some.injEq] at e1
   subst e1
   rw [hq] at hg
   simp only [Option.some.injEq,Obj.cells.injEq] at hg
   exact ht hg.2.1)
theorem OwN.cell {n0 q i:Nat}{w:World}{vI vK vV u:Value}{n:Nd}{cs:Array Value}{t:TypeId}{f:Nat×Nat}(h:OwN n0 w vI vK vV n) (hq:w.heap[q]?=some (.cells cs t f)) (ht:t≠63∧t≠45∧t≠121):OwN n0 (w.setCell ⟨q,i,none⟩ u) vI vK vV n :=
 ⟨own_cell h.1 hq ht.1,own_cell h.2.1 hq ht.2.1,own_cell h.2.2 hq ht.2.2⟩
set_option maxHeartbeats 8000000 in
theorem get_any {tK tS:TypeId}{w:World}{A:Option Addr}{n:Nat}{L:List Ce}(hk:Kc tK tS w.heap.size w) (h:HIn w A n L) (sz cap:Nat) (num:Nat) :
  Calls Tryz.prog 7 #[.agg #[.int .u32 sz,.slice A n cap],.int .u32 num] w fun e w'=>∃ cs,e=.returned (.tuple #[.agg cs,.int .i64 (fndE sz L num)])∧NdOwn w w' cs (getX sz L num):=by
 have HT:=hid (fun W hb=>tk_at hk h sz cap W hb)
 obtain⟨R1,R2,S0,Z0⟩:=two_new w #[.int .u32 sz,.slice A n cap] zN 25 31
 have HR0:=hid R2
 have HB0:=hid S0
 clear hk h R1 R2 S0 Z0
 go_enter Tryz.func7,Tryz.ntmps7
 go_wp2_with fail
 refine (HT.out _ HB0.out).mono ?_
 rintro e w2 ⟨hb,⟨hok,A2,n2,c2,P,s,rfl,htk⟩ | ⟨hno,rfl⟩⟩
 ·have HB:=hid (HB0.out.trans (hb.mono HB0.out.size))
  have hal:Below w2.heap.size w2 (w2.alloc (.cells #[.int .u32 sz,.slice A2 n2 c2] 68)):=(Below.refl _ _).alloc (Nat.le_refl _) _
  have HTK:=hid (htk.go hal)
  have HB3:=hid (HB.out.trans (hal.mono HB.out.size))
  have HR2:=hid ((hb.block _ (row_lt HR0.out)).trans HR0.out)
  have HR3:=hid ((hal.block _ (row_lt HR2.out)).trans HR2.out)
  have HFD:=hid (find_any (HTK.out.wk (heap_alloc_new w2 (.cells #[.int .u32 sz,.slice A2 n2 c2] 68)) (by decide) rfl) num)
  have HFL:=hid (show fndL L num=(fndP s P num).map fun p=>ceO (s p) by rw [htk.lst];exact fnd_LP num)
  have HZ0:=hid (show w.heap.size≤((w.alloc (.cells #[.int .u32 sz,.slice A n cap] 25)).alloc (.cells zN 31)).heap.size from HB0.out.size)
  clear hb htk hal
  cases hf:fndP s P num with
  | none =>
   have HX:=hid (show getX sz L num=⟨0,[],[],[]⟩∧fndE sz L num=5 by unfold getX fndE;rw [if_pos hok,if_pos hok,HFL.out,hf];exact⟨rfl,rfl⟩)
   rw [hf] at HFD
   have HFE:=hid (show Calls Tryz.prog 34 #[.pointer (some ⟨w2.heap.size,0,none⟩),.int .u32 num] (w2.alloc (.cells #[.int .u32 sz,.slice A2 n2 c2] 68)) fun e w'=>e=.returned (.tuple #[.pointer none,.int .i64 5])∧Below (w2.alloc (.cells #[.int .u32 sz,.slice A2 n2 c2] 68)).heap.size (w2.alloc (.cells #[.int .u32 sz,.slice A2 n2 c2] 68)) w' from HFD.out)
   clear hok hf HFD
   go_wp2_with fail
   refine HFE.out.mono ?_
   rintro e w4 ⟨rfl,hb4⟩
   have HB4:=hid (HB3.out.trans (hb4.mono HB3.out.size))
   have HR4:=hid ((hb4.block _ (row_lt HR3.out)).trans HR3.out)
   clear hb4
   have k0:w4.cell? ⟨w.heap.size+1,0,none⟩=some (.int .u8 0):=cell_of_row _ _ 0 _ _ _ HR4.out
   have f0:=frozen_of_row w4 (w.heap.size+1) 0 _ _ HR4.out
   have k1:w4.cell? ⟨w.heap.size+1,1,none⟩=some (.slice none 0 0):=cell_of_row _ _ 1 _ _ _ HR4.out
   have f1:=frozen_of_row w4 (w.heap.size+1) 1 _ _ HR4.out
   have k2:w4.cell? ⟨w.heap.size+1,2,none⟩=some (.slice none 0 0):=cell_of_row _ _ 2 _ _ _ HR4.out
   have f2:=frozen_of_row w4 (w.heap.size+1) 2 _ _ HR4.out
   have k3:w4.cell? ⟨w.heap.size+1,3,none⟩=some (.slice none 0 0):=cell_of_row _ _ 3 _ _ _ HR4.out
   have f3:=frozen_of_row w4 (w.heap.size+1) 3 _ _ HR4.out
   have l0:=row_lt HR4.out
   go_wp2_with fail
   have Q1:=row_set (cs:=[.int .u8 0,.slice none 0 0,.slice none 0 0,.slice none 0 0]) (i:=0) (u:=.int .u8 0) HR4.out
   have Q2:=row_set (cs:=[.int .u8 0,.slice none 0 0,.slice none 0 0,.slice none 0 0]) (i:=1) (u:=.slice none 0 0) Q1
   have Q3:=row_set (cs:=[.int .u8 0,.slice none 0 0,.slice none 0 0,.slice none 0 0]) (i:=2) (u:=.slice none 0 0) Q2
   have Q4:=row_set (cs:=[.int .u8 0,.slice none 0 0,.slice none 0 0,.slice none 0 0]) (i:=3) (u:=.slice none 0 0) Q3
   refine bodyPost_ret (v:=.tuple #[.agg #[.int .u8 0,.slice none 0 0,.slice none 0 0,.slice none 0 0],.int .i64 5]) (results_row2 rfl _ _ (w.heap.size+1) 31 #[.int .u8 0,.slice none 0 0,.slice none 0 0,.slice none 0 0] (0,0) _ rfl Q4 Tryz.underlying31 rfl (by kernel_rfl) _ rfl) rfl ?_
   exact⟨_,by rw [HX.out.2],by rw [HX.out.1];exact NdOwn.mk0 (HB4.out.trans (below_of_grown (grown_trans (grown_trans (grown_trans (grown_cell _ _ _ _) (grown_cell _ _ _ _)) (grown_cell _ _ _ _)) (grown_cell _ _ _ _)) HB4.out.size (Nat.le_succ _)))⟩
  | some p =>
   obtain⟨hpP,hpn⟩:=fndP_some hf
   have HX:=hid (show getX sz L num=(s p).n∧fndE sz L num=0 by
    unfold getX fndE
    rw [if_pos hok,if_pos hok,HFL.out,hf,HTK.out.n p hpP]
    exact⟨rfl,rfl⟩)
   rw [hf] at HFD
   have HFE:=hid (show Calls Tryz.prog 34 #[.pointer (some ⟨w2.heap.size,0,none⟩),.int .u32 num] (w2.alloc (.cells #[.int .u32 sz,.slice A2 n2 c2] 68)) fun e w'=>e=.returned (.tuple #[.pointer (some ⟨p,0,none⟩),.int .i64 0])∧Below (w2.alloc (.cells #[.int .u32 sz,.slice A2 n2 c2] 68)).heap.size (w2.alloc (.cells #[.int .u32 sz,.slice A2 n2 c2] 68)) w' from HFD.out)
   have HPP:=hid hpP
   clear hok hf HFD hpn hpP
   go_wp2_with fail
   refine HFE.out.mono ?_
   rintro e w4 ⟨rfl,hb4⟩
   have HB4:=hid (HB3.out.trans (hb4.mono HB3.out.size))
   have HR4:=hid ((hb4.block _ (row_lt HR3.out)).trans HR3.out)
   have HTK4:=hid (HTK.out.go hb4)
   have hAt:=HTK4.out.at_.at_ HPP.out
   have hown:=HTK4.out.at_.own p HPP.out
   have HZ4:=hid (show w.heap.size≤((w.alloc (.cells #[.int .u32 sz,.slice A n cap] 25)).alloc (.cells zN 31)).heap.size from HZ0.out)
   have m0:=hAt.cell (i:=3) rfl
   have m1:=hAt.cell (i:=4) rfl
   have m2:=hAt.cell (i:=5) rfl
   have m3:=hAt.cell (i:=6) rfl
   have lp:=hAt.lt
   have HOW:=hid (hown.mono HZ0.out)
   clear hb4 hAt hown HTK4 HTK HFE
   generalize (s p).vI=vI at *
   generalize (s p).vK=vK at *
   generalize (s p).vV=vV at *
   obtain⟨aI,nI,cI,rfl⟩:=own_shape HOW.out.1
   obtain⟨aK,nK,cK,rfl⟩:=own_shape HOW.out.2.1
   obtain⟨aV,nV,cV,rfl⟩:=own_shape HOW.out.2.2
   generalize hnn:(s p).n=nn at *
   have HNN:=hid hnn
   clear hnn
   have HKD:=hid (show NdOwn w w4 #[.int .u8 nn.kd,.slice aI nI cI,.slice aK nK cK,.slice aV nV cV] nn from HOW.out.out HB4.out)
   have k0:w4.cell? ⟨w.heap.size+1,0,none⟩=some (.int .u8 0):=cell_of_row _ _ 0 _ _ _ HR4.out
   have f0:=frozen_of_row w4 (w.heap.size+1) 0 _ _ HR4.out
   have k1:w4.cell? ⟨w.heap.size+1,1,none⟩=some (.slice none 0 0):=cell_of_row _ _ 1 _ _ _ HR4.out
   have f1:=frozen_of_row w4 (w.heap.size+1) 1 _ _ HR4.out
   have k2:w4.cell? ⟨w.heap.size+1,2,none⟩=some (.slice none 0 0):=cell_of_row _ _ 2 _ _ _ HR4.out
   have f2:=frozen_of_row w4 (w.heap.size+1) 2 _ _ HR4.out
   have k3:w4.cell? ⟨w.heap.size+1,3,none⟩=some (.slice none 0 0):=cell_of_row _ _ 3 _ _ _ HR4.out
   have f3:=frozen_of_row w4 (w.heap.size+1) 3 _ _ HR4.out
   have l0:=row_lt HR4.out
   generalize hkd:nn.kd=kd at *
   have HKQ:=hid hkd
   clear hkd
   go_wp2_with fail
   have Q1:=row_set (cs:=[.int .u8 0,.slice none 0 0,.slice none 0 0,.slice none 0 0]) (i:=0) (u:=.int .u8 kd) HR4.out
   have Q2:=row_set (cs:=[.int .u8 kd,.slice none 0 0,.slice none 0 0,.slice none 0 0]) (i:=1) (u:=.slice aI nI cI) Q1
   have Q3:=row_set (cs:=[.int .u8 kd,.slice aI nI cI,.slice none 0 0,.slice none 0 0]) (i:=2) (u:=.slice aK nK cK) Q2
   have Q4:=row_set (cs:=[.int .u8 kd,.slice aI nI cI,.slice aK nK cK,.slice none 0 0]) (i:=3) (u:=.slice aV nV cV) Q3
   refine bodyPost_ret (v:=.tuple #[.agg #[.int .u8 kd,.slice aI nI cI,.slice aK nK cK,.slice aV nV cV],.int .i64 0]) (results_row2 rfl _ _ (w.heap.size+1) 31 #[.int .u8 kd,.slice aI nI cI,.slice aK nK cK,.slice aV nV cV] (0,0) _ rfl Q4 Tryz.underlying31 rfl (by kernel_rfl) _ rfl) rfl ?_
   exact⟨_,by rw [HX.out.2],by
    rw [HX.out.1]
    have hh:=((((HOW.out.cell (i:=0) (u:=.int .u8 kd) HR4.out (by decide)).cell (i:=1) (u:=.slice aI nI cI) Q1 (by decide)).cell (i:=2) (u:=.slice aK nK cK) Q2 (by decide)).cell (i:=3) (u:=.slice aV nV cV) Q3 (by decide)).out (HB4.out.trans (below_of_grown (grown_trans (grown_trans (grown_trans (grown_cell _ _ _ _) (grown_cell _ _ _ _)) (grown_cell _ _ _ _)) (grown_cell _ _ _ _)) HB4.out.size (Nat.le_succ _)))
    rw [HKQ.out] at hh
    exact hh⟩
 ·have HX:=hid (show getX sz L num=⟨0,[],[],[]⟩∧fndE sz L num=7 by unfold getX fndE;rw [if_neg hno,if_neg hno];exact⟨rfl,rfl⟩)
  have HB:=hid ((HB0.out.trans (hb.mono HB0.out.size)))
  have HR2:=hid ((hb.block _ (row_lt HR0.out)).trans HR0.out)
  have hal:Below w2.heap.size w2 (w2.alloc (.cells #[.int .u32 0,.slice none 0 0] 68)):=(Below.refl _ _).alloc (Nat.le_refl _) _
  have HR4:=hid ((hal.block _ (row_lt HR2.out)).trans HR2.out)
  have HB4:=hid (HB.out.trans (hal.mono HB.out.size))
  clear hb hno hal
  have k0:(w2.alloc (.cells #[.int .u32 0,.slice none 0 0] 68)).cell? ⟨w.heap.size+1,0,none⟩=some (.int .u8 0):=cell_of_row _ _ 0 _ _ _ HR4.out
  have f0:=frozen_of_row (w2.alloc (.cells #[.int .u32 0,.slice none 0 0] 68)) (w.heap.size+1) 0 _ _ HR4.out
  have k1:(w2.alloc (.cells #[.int .u32 0,.slice none 0 0] 68)).cell? ⟨w.heap.size+1,1,none⟩=some (.slice none 0 0):=cell_of_row _ _ 1 _ _ _ HR4.out
  have f1:=frozen_of_row (w2.alloc (.cells #[.int .u32 0,.slice none 0 0] 68)) (w.heap.size+1) 1 _ _ HR4.out
  have k2:(w2.alloc (.cells #[.int .u32 0,.slice none 0 0] 68)).cell? ⟨w.heap.size+1,2,none⟩=some (.slice none 0 0):=cell_of_row _ _ 2 _ _ _ HR4.out
  have f2:=frozen_of_row (w2.alloc (.cells #[.int .u32 0,.slice none 0 0] 68)) (w.heap.size+1) 2 _ _ HR4.out
  have k3:(w2.alloc (.cells #[.int .u32 0,.slice none 0 0] 68)).cell? ⟨w.heap.size+1,3,none⟩=some (.slice none 0 0):=cell_of_row _ _ 3 _ _ _ HR4.out
  have f3:=frozen_of_row (w2.alloc (.cells #[.int .u32 0,.slice none 0 0] 68)) (w.heap.size+1) 3 _ _ HR4.out
  have l0:=row_lt HR4.out
  go_wp2_with fail
  have Q1:=row_set (cs:=[.int .u8 0,.slice none 0 0,.slice none 0 0,.slice none 0 0]) (i:=0) (u:=.int .u8 0) HR4.out
  have Q2:=row_set (cs:=[.int .u8 0,.slice none 0 0,.slice none 0 0,.slice none 0 0]) (i:=1) (u:=.slice none 0 0) Q1
  have Q3:=row_set (cs:=[.int .u8 0,.slice none 0 0,.slice none 0 0,.slice none 0 0]) (i:=2) (u:=.slice none 0 0) Q2
  have Q4:=row_set (cs:=[.int .u8 0,.slice none 0 0,.slice none 0 0,.slice none 0 0]) (i:=3) (u:=.slice none 0 0) Q3
  refine bodyPost_ret (v:=.tuple #[.agg #[.int .u8 0,.slice none 0 0,.slice none 0 0,.slice none 0 0],.int .i64 7]) (results_row2 rfl _ _ (w.heap.size+1) 31 #[.int .u8 0,.slice none 0 0,.slice none 0 0,.slice none 0 0] (0,0) _ rfl Q4 Tryz.underlying31 rfl (by kernel_rfl) _ rfl) rfl ?_
  exact⟨_,by rw [HX.out.2],by rw [HX.out.1];exact NdOwn.mk0 (HB4.out.trans (below_of_grown (grown_trans (grown_trans (grown_trans (grown_cell _ _ _ _) (grown_cell _ _ _ _)) (grown_cell _ _ _ _)) (grown_cell _ _ _ _)) HB4.out.size (Nat.le_succ _)))⟩
def hdT (s:Nat→Ob):Nat→Nat:=fun p=>((s p).r-(s p).a).toNat
theorem Tk.lds {n0:Nat}{w:World}{v:Value}{P:List Nat}{s:Nat→Ob}{L:List Ce}(h:Tk n0 w v P s L){x:Nat}(hx:x∈P):lds P (bO s) (gO s) x=(s x).a:=by
 rw [h.a x hx,sum_count]
 unfold Hp.lds
 refine sum_same fun p hp=>?_
 show (if (s p).gn then 0 else ((s p).bl).count x)=_
 rw [h.gn p hp,h.bl p hp]
 rfl
theorem Tk.closed {n0:Nat}{w:World}{v:Value}{P:List Nat}{s:Nat→Ob}{L:List Ce}(h:Tk n0 w v P s L):∀ p∈P,∀ q∈bO s p,q∈P:=fun p hp q hq=>by
 have:q∈(s p).bl:=hq
 rw [h.bl p hp] at this
 exact psF_mem q this
theorem Tk.inv {n0:Nat}{w:World}{v:Value}{P:List Nat}{s:Nat→Ob}{L:List Ce}(h:Tk n0 w v P s L):Inv P (bO s) (hdT s) (rO s) (gO s) [] :=
 ⟨fun x hx _=>by
  have h1:=h.rf x hx
  rw [h.lds hx]
  show (s x).r=(((s x).r-(s x).a).toNat:Int)+(s x).a+_
  simp
  omega,fun x hx hg=>absurd (show (s x).gn=true from hg) (by rw [h.gn x hx];decide),fun x hx=>(by cases hx)⟩
theorem Tk.inv1 {n0 p:Nat}{w:World}{v:Value}{P:List Nat}{s:Nat→Ob}{L:List Ce}(h:Tk n0 w v P s L) (hp:p∈P) (h1:1≤(s p).r-(s p).a):Inv P (bO s) (updF (hdT s) p (hdT s p-1)) (rO s) (gO s) [p] :=
 ⟨fun x hx _=>by
  have h2:=h.rf x hx
  rw [h.lds hx]
  by_cases e:x=p
  ·subst e
   rw [updF_same,List.count_cons_self,List.count_nil]
   show (s x).r=((((s x).r-(s x).a).toNat-1:Nat):Int)+(s x).a+_
   omega
  ·rw [updF_other e,List.count_cons_of_ne (Ne.symm e),List.count_nil]
   show (s x).r=(((s x).r-(s x).a).toNat:Int)+(s x).a+_
   omega,fun x hx hg=>absurd (show (s x).gn=true from hg) (by rw [h.gn x hx];decide),fun x hx=>by rw [List.mem_singleton.1 hx];exact hp⟩
theorem Tk.tot {n0:Nat}{w:World}{v:Value}{P:List Nat}{s:Nat→Ob}{L:List Ce}(h:Tk n0 w v P s L):tot P (rO s)≤1099511627776:=by
 have h1:=tot_le (P:=P) (r:=rO s) (m:=16777216) fun p hp=>(h.rf p hp).2
 have h2:=h.len
 omega
theorem Tk.bl255 {n0:Nat}{w:World}{v:Value}{P:List Nat}{s:Nat→Ob}{L:List Ce}(h:Tk n0 w v P s L):∀ p∈P,(s p).bl.length≤255:=fun p hp=>by
 rw [h.bl p hp]
 have:=decN_small (isN_some (h.isn p hp))
 refine Nat.le_trans (psF_len _ _ _) ?_
 rw [h.n p hp]
 exact nmN_le this.2.2.1 this.2.2.2
theorem drop_no {w:World}{p:Nat}{o:Ob}(h:At w p o) (ha:o.a≤1099511627776) (h1:(o.a:Int)=o.r) :
  Calls Tryz.prog 49 #[.pointer (some ⟨p,0,none⟩)] w fun e w'=>e=.returned (.int .i64 7)∧Below w.heap.size w w':=by
 have HH:=hid (show Calls Tryz.prog 37 #[.pointer (some ⟨p,0,none⟩)] w fun e w'=>e=.returned (.int .i64 0)∧Below w.heap.size w w' by
  have:=held_any h ha (by omega) (by omega)
  rwa [show o.r-(o.a:Int)=0 by omega] at this)
 clear h h1
 go_enter Tryz.func49,Tryz.ntmps49
 go_wp2_with (go_at_call 37;refine HH.out.mono ?_;rintro e w1 ⟨rfl,hb1⟩;have HB1:=hid hb1;clear hb1)
 go_ret
 exact⟨rfl,HB1.out⟩
def Gone (n0:Nat) (w:World) (P:List Nat) (hd:Nat→Nat) (k0:List Nat) (s:Nat→Ob) (w':World):Prop :=
 ∃ t,HpAt n0 w' P t∧Off n0 w w'∧(∀ p,Sg (s p) (t p))∧Lets (bO s) (rO s) (gO s) k0 (rO t) (gO t)∧Inv P (bO s) hd (rO t) (gO t) []
theorem drop_yes {n0 p:Nat}{w:World}{v:Value}{P:List Nat}{s:Nat→Ob}{L:List Ce}(h:Tk n0 w v P s L) (hn:n0≤w.heap.size) (hp:p∈P) (h1:1≤(s p).r-(s p).a) :
  Calls Tryz.prog 49 #[.pointer (some ⟨p,0,none⟩)] w fun e w'=>e=.returned (.int .i64 0)∧Gone n0 w P (updF (hdT s) p (hdT s p-1)) [p] s w':=by
 have hr:=h.rf p hp
 have ha:=h.ale hp
 have HH:=hid (held_any (h.at_.at_ hp) (by omega) hr.1 (by omega))
 have hne:((s p).r-((s p).a:Int)==0)=false:=by rw [beq_eq_false_iff_ne];omega
 have HLG:=hid (fun (W:World) (hb:Below w.heap.size w W)=>letGo_any (w:=W.alloc (.cells (enP p).toArray TP)) (hd:=updF (hdT s) p (hdT s p-1)) [p] (some ⟨W.heap.size,0,none⟩) 1 1 ((h.at_.go hb).go ((Below.refl _ _).alloc (Nat.le_refl _) _)) (h.inv1 hp h1) h.closed h.tot h.bl255 rfl (Ls.new W p TP _ (by simp)))
 clear h hr ha
 generalize (s p).r-((s p).a:Int)=x at *
 go_enter Tryz.func49,Tryz.ntmps49
 go_wp2_with fail
 refine HH.out.mono ?_
 rintro e w1 ⟨rfl,hb1⟩
 have HL1:=hid (HLG.out w1 hb1)
 have HB1:=hid hb1
 clear hb1 HLG
 go_wp2_with fail
 refine HL1.out.mono ?_
 rintro e w2 ⟨rfl,t,ht,ho,hsg,hl,hi⟩
 have HG:=hid (show Gone n0 w P (updF (hdT s) p (hdT s p-1)) [p] s w2 from⟨t,ht,((Off.of_below HB1.out).trans (Off.of_below ((Below.refl _ _).alloc (Nat.le_refl _) _))).trans ho,hsg,hl,hi⟩)
 clear ht ho hsg hl hi HL1
 go_wp2_with fail
 go_ret
 exact⟨rfl,HG.out⟩
def DoC (F:FuncId) (R:Int→List Ce→Prop) (L:List Ce) (num:Nat):Prop :=
 ∀ (W:World) (n0:Nat) (v:Value) (P:List Nat) (s:Nat→Ob),Tk n0 W v P s L→n0≤W.heap.size→∀ p,fndP s P num=some p →
  Calls Tryz.prog F #[.pointer (some ⟨p,0,none⟩)] W fun e w'=>∃ z t,e=.returned (.int .i64 z)∧HpAt n0 w' P t∧Off n0 W w'∧R z (plL P t)
def WoR (R:Int→List Ce→Prop) (sz:Nat) (L:List Ce) (num:Nat) (z:Int) (sz':Nat) (L':List Ce):Prop :=
 (¬ okH sz L∧z=7∧sz'=0∧L'=[])∨(okH sz L∧fndL L num=none∧z=5∧sz'=sz∧L'=L)∨(okH sz L∧(∃ c,fndL L num=some c)∧sz'=sz∧∃ M,R z M∧L'=if z=0 then M else L)
def WoPost (R:Int→List Ce→Prop) (w:World) (sz:Nat) (L:List Ce) (num:Nat) (e:Ending) (w':World):Prop :=
 ∃ v z sz' L',e=.returned (.tuple #[v,.int .i64 z])∧HPost w sz' L' v w'∧WoR R sz L num z sz' L'
theorem MkC.two {w wr:World}{A:Option Addr}{n c q:Nat}{D:List Ce}{u0 u1:Value}{f:Nat×Nat}{cs:Array Value}(h:MkC w wr (.slice A n c) D) (hr:wr.heap[q]?=some (.cells cs 25 f)) (hq:w.heap.size≤q):MkC w ((wr.setCell ⟨q,0,none⟩ u0).setCell ⟨q,1,none⟩ u1) (.slice A n c) D:=by
 have h1:=h.cell (i:=0) (u:=u0) hr (by decide) hq
 have h2:∃ cs' f',(wr.setCell ⟨q,0,none⟩ u0).heap[q]?=some (.cells cs' 25 f'):=by
  refine⟨cs.setIfInBounds 0 u0,f,?_⟩
  simp [World.setCell,hr,Array.getElem?_modify]
 obtain⟨cs',f',h3⟩:=h2
 exact h1.cell h3 (by decide) hq
set_option maxHeartbeats 8000000 in
theorem withHold_any {tK tS:TypeId}{w:World}{A:Option Addr}{n:Nat}{L:List Ce}(hk:Kc tK tS w.heap.size w) (h:HIn w A n L) (sz cap:Nat) (num:Nat) (R:Int→List Ce→Prop) (hF:DoC 48 R L num) :
  Calls Tryz.prog 47 #[.agg #[.int .u32 sz,.slice A n cap],.int .u32 num,.func (.func 48) #[] #[]] w (WoPost R w sz L num):=by
 have HT:=hid (fun W hb=>tk_at hk h sz cap W hb)
 have HCP:=hid (fun W (hb:Below w.heap.size w W)=>copied_any (w:=W) sz cap (h.go hb))
 have HF:=hid hF
 obtain⟨R1,R2,S0,Z0⟩:=two_new w #[.int .u32 sz,.slice A n cap] #[.int .u32 0,.slice none 0 0] 25 25
 have HH0:=hid R1
 have HR0:=hid R2
 have HB0:=hid S0
 clear hk h R1 R2 S0 Z0 hF
 go_enter Tryz.func47,Tryz.ntmps47
 go_wp2_with fail
 refine (HT.out _ HB0.out).mono ?_
 rintro e w2 ⟨hb,⟨hok,A2,n2,c2,P,s,rfl,htk⟩ | ⟨hno,rfl⟩⟩
 ·have HB:=hid (HB0.out.trans (hb.mono HB0.out.size))
  have hal:Below w2.heap.size w2 (w2.alloc (.cells #[.int .u32 sz,.slice A2 n2 c2] 68)):=(Below.refl _ _).alloc (Nat.le_refl _) _
  have HTK:=hid (htk.go hal)
  have HB3:=hid (HB.out.trans (hal.mono HB.out.size))
  have HR2:=hid ((hb.block _ (row_lt HR0.out)).trans HR0.out)
  have HR3:=hid ((hal.block _ (row_lt HR2.out)).trans HR2.out)
  have HH2:=hid ((hb.block _ (row_lt HH0.out)).trans HH0.out)
  have HH3:=hid ((hal.block _ (row_lt HH2.out)).trans HH2.out)
  have HQ3:=hid (heap_alloc_new w2 (.cells #[.int .u32 sz,.slice A2 n2 c2] 68))
  have HFD:=hid (find_any (HTK.out.wk HQ3.out (by decide) rfl) num)
  have HFL:=hid (show fndL L num=(fndP s P num).map fun p=>ceO (s p) by rw [htk.lst];exact fnd_LP num)
  have HZ0:=hid (show w.heap.size≤((w.alloc (.cells #[.int .u32 sz,.slice A n cap] 25)).alloc (.cells #[.int .u32 0,.slice none 0 0] 25)).heap.size from HB0.out.size)
  have HZ2:=hid (show ((w.alloc (.cells #[.int .u32 sz,.slice A n cap] 25)).alloc (.cells #[.int .u32 0,.slice none 0 0] 25)).heap.size≤(w2.alloc (.cells #[.int .u32 sz,.slice A2 n2 c2] 68)).heap.size from Nat.le_trans hb.size hal.size)
  have HPLN:=hid htk.len
  have HOK:=hid hok
  clear hb htk hal hok
  cases hf:fndP s P num with
  | none =>
   have HFN:=hid (show fndL L num=none by rw [HFL.out,hf];rfl)
   rw [hf] at HFD
   have HFE:=hid (show Calls Tryz.prog 34 #[.pointer (some ⟨w2.heap.size,0,none⟩),.int .u32 num] (w2.alloc (.cells #[.int .u32 sz,.slice A2 n2 c2] 68)) fun e w'=>e=.returned (.tuple #[.pointer none,.int .i64 5])∧Below (w2.alloc (.cells #[.int .u32 sz,.slice A2 n2 c2] 68)).heap.size (w2.alloc (.cells #[.int .u32 sz,.slice A2 n2 c2] 68)) w' from HFD.out)
   clear hf HFD
   go_wp2_with fail
   refine HFE.out.mono ?_
   rintro e w4 ⟨rfl,hb4⟩
   have HB4:=hid (HB3.out.trans (hb4.mono HB3.out.size))
   have HR4:=hid ((hb4.block _ (row_lt HR3.out)).trans HR3.out)
   have HH4:=hid ((hb4.block _ (row_lt HH3.out)).trans HH3.out)
   have HCE:=hid (HCP.out w4 HB4.out)
   clear hb4
   have h0:w4.cell? ⟨w.heap.size,0,none⟩=some (.int .u32 sz):=cell_of_row _ _ 0 _ _ _ HH4.out
   have h1:w4.cell? ⟨w.heap.size,1,none⟩=some (.slice A n cap):=cell_of_row _ _ 1 _ _ _ HH4.out
   have l1:=row_lt HH4.out
   go_wp2_with fail
   refine HCE.out.mono ?_
   rintro e w5 ⟨v5,rfl,A5,n5,c5,rfl,hm5⟩
   have HM5:=hid (hm5.since HB4.out)
   have HR5:=hid ((hm5.2.block _ (row_lt HR4.out)).trans HR4.out)
   clear hm5 h0 h1 l1
   have k0:w5.cell? ⟨w.heap.size+1,0,none⟩=some (.int .u32 0):=cell_of_row _ _ 0 _ _ _ HR5.out
   have k1:w5.cell? ⟨w.heap.size+1,1,none⟩=some (.slice none 0 0):=cell_of_row _ _ 1 _ _ _ HR5.out
   have f0:=frozen_of_row w5 (w.heap.size+1) 0 _ _ HR5.out
   have f1:=frozen_of_row w5 (w.heap.size+1) 1 _ _ HR5.out
   have l0:=row_lt HR5.out
   go_wp2_with fail
   have Q1:=row_set (cs:=[.int .u32 0,.slice none 0 0]) (i:=0) (u:=.int .u32 sz) HR5.out
   have Q2:=row_set (cs:=[.int .u32 sz,.slice none 0 0]) (i:=1) (u:=.slice A5 n5 c5) Q1
   refine bodyPost_ret (v:=.tuple #[.agg #[.int .u32 sz,.slice A5 n5 c5],.int .i64 5]) (results_row2 rfl _ _ (w.heap.size+1) 25 #[.int .u32 sz,.slice A5 n5 c5] (0,0) _ rfl Q2 Tryz.underlying25 rfl (by kernel_rfl) _ rfl) rfl ?_
   exact⟨_,5,sz,L,rfl,⟨A5,n5,c5,rfl,MkC.two HM5.out HR5.out (Nat.le_succ _)⟩,.inr (.inl ⟨HOK.out,HFN.out,rfl,rfl,rfl⟩)⟩
  | some p =>
   obtain⟨hpP,hpn⟩:=fndP_some hf
   have HFS:=hid (show ∃ c,fndL L num=some c from⟨_,by rw [HFL.out,hf];rfl⟩)
   have HFP:=hid hf
   rw [hf] at HFD
   have HFE:=hid (show Calls Tryz.prog 34 #[.pointer (some ⟨w2.heap.size,0,none⟩),.int .u32 num] (w2.alloc (.cells #[.int .u32 sz,.slice A2 n2 c2] 68)) fun e w'=>e=.returned (.tuple #[.pointer (some ⟨p,0,none⟩),.int .i64 0])∧Below (w2.alloc (.cells #[.int .u32 sz,.slice A2 n2 c2] 68)).heap.size (w2.alloc (.cells #[.int .u32 sz,.slice A2 n2 c2] 68)) w' from HFD.out)
   clear hf HFD hpn hpP
   go_wp2_with fail
   refine HFE.out.mono ?_
   rintro e w4 ⟨rfl,hb4⟩
   have HB4:=hid (HB3.out.trans (hb4.mono HB3.out.size))
   have HR4:=hid ((hb4.block _ (row_lt HR3.out)).trans HR3.out)
   have HH4:=hid ((hb4.block _ (row_lt HH3.out)).trans HH3.out)
   have HQ4:=hid ((hb4.block _ (row_lt HQ3.out)).trans HQ3.out)
   have HTK4:=hid (HTK.out.go hb4)
   have HDO:=hid (HF.out w4 _ _ P s HTK4.out (Nat.le_trans HZ2.out hb4.size) p HFP.out)
   have HZ4:=hid (Nat.le_trans HZ2.out hb4.size)
   clear hb4 HTK HFE HF
   go_wp2_with fail
   refine HDO.out.mono ?_
   rintro e w5 ⟨z,t,rfl,ht,ho,hR⟩
   have HRR:=hid hR
   have HHT:=hid ht
   have HR5:=hid (ho.row HR4.out (by decide))
   have HH5:=hid (ho.row HH4.out (by decide))
   have HQ5:=hid (ho.row HQ4.out (by decide))
   have HOW5:=hid (show OwP _ w5 (.slice A2 n2 c2) P from ho.own (by decide) HTK4.out.own)
   have HB5:=hid (HB4.out.trans ((ho.below HZ4.out).mono HZ0.out))
   clear ht ho hR HDO HTK4
   by_cases hz:z=0
   ·have q0:((z:Int) != 0)=false:=by rw [hz];rfl
    have HZZ:=hid hz
    clear hz
    have HPL:=hid (plain_any (q:=w2.heap.size) (sz:=sz) ⟨_,_,HQ5.out,rfl,rfl⟩ HOW5.out HHT.out.rows (by have:=HPLN.out;omega))
    go_wp2_with fail
    refine HPL.out.mono ?_
    rintro e w6 ⟨v6,rfl,A6,n6,c6,rfl,hm6⟩
    have HM6:=hid (hm6.since HB5.out)
    have HR6:=hid ((hm6.2.block _ (row_lt HR5.out)).trans HR5.out)
    clear hm6
    have k0:w6.cell? ⟨w.heap.size+1,0,none⟩=some (.int .u32 0):=cell_of_row _ _ 0 _ _ _ HR6.out
    have k1:w6.cell? ⟨w.heap.size+1,1,none⟩=some (.slice none 0 0):=cell_of_row _ _ 1 _ _ _ HR6.out
    have f0:=frozen_of_row w6 (w.heap.size+1) 0 _ _ HR6.out
    have f1:=frozen_of_row w6 (w.heap.size+1) 1 _ _ HR6.out
    have l0:=row_lt HR6.out
    go_wp2_with fail
    have Q1:=row_set (cs:=[.int .u32 0,.slice none 0 0]) (i:=0) (u:=.int .u32 sz) HR6.out
    have Q2:=row_set (cs:=[.int .u32 sz,.slice none 0 0]) (i:=1) (u:=.slice A6 n6 c6) Q1
    refine bodyPost_ret (v:=.tuple #[.agg #[.int .u32 sz,.slice A6 n6 c6],.int .i64 0]) (results_row2 rfl _ _ (w.heap.size+1) 25 #[.int .u32 sz,.slice A6 n6 c6] (0,0) _ rfl Q2 Tryz.underlying25 rfl (by kernel_rfl) _ rfl) rfl ?_
    exact⟨_,0,sz,_,rfl,⟨A6,n6,c6,rfl,MkC.two HM6.out HR6.out (Nat.le_succ _)⟩,.inr (.inr ⟨HOK.out,HFS.out,rfl,_,(by have:=HRR.out;rwa [HZZ.out] at this),rfl⟩)⟩
   ·have q0:((z:Int) != 0)=true:=by rw [bne_iff_ne];exact hz
    have HZZ:=hid hz
    clear hz
    have HCE:=hid (HCP.out w5 HB5.out)
    have h0:w5.cell? ⟨w.heap.size,0,none⟩=some (.int .u32 sz):=cell_of_row _ _ 0 _ _ _ HH5.out
    have h1:w5.cell? ⟨w.heap.size,1,none⟩=some (.slice A n cap):=cell_of_row _ _ 1 _ _ _ HH5.out
    have l1:=row_lt HH5.out
    go_wp2_with fail
    refine HCE.out.mono ?_
    rintro e w6 ⟨v6,rfl,A6,n6,c6,rfl,hm6⟩
    have HM6:=hid (hm6.since HB5.out)
    have HR6:=hid ((hm6.2.block _ (row_lt HR5.out)).trans HR5.out)
    clear hm6 h0 h1 l1
    have k0:w6.cell? ⟨w.heap.size+1,0,none⟩=some (.int .u32 0):=cell_of_row _ _ 0 _ _ _ HR6.out
    have k1:w6.cell? ⟨w.heap.size+1,1,none⟩=some (.slice none 0 0):=cell_of_row _ _ 1 _ _ _ HR6.out
    have f0:=frozen_of_row w6 (w.heap.size+1) 0 _ _ HR6.out
    have f1:=frozen_of_row w6 (w.heap.size+1) 1 _ _ HR6.out
    have l0:=row_lt HR6.out
    go_wp2_with fail
    have Q1:=row_set (cs:=[.int .u32 0,.slice none 0 0]) (i:=0) (u:=.int .u32 sz) HR6.out
    have Q2:=row_set (cs:=[.int .u32 sz,.slice none 0 0]) (i:=1) (u:=.slice A6 n6 c6) Q1
    refine bodyPost_ret (v:=.tuple #[.agg #[.int .u32 sz,.slice A6 n6 c6],.int .i64 z]) (results_row2 rfl _ _ (w.heap.size+1) 25 #[.int .u32 sz,.slice A6 n6 c6] (0,0) _ rfl Q2 Tryz.underlying25 rfl (by kernel_rfl) _ rfl) rfl ?_
    exact⟨_,z,sz,L,rfl,⟨A6,n6,c6,rfl,MkC.two HM6.out HR6.out (Nat.le_succ _)⟩,.inr (.inr ⟨HOK.out,HFS.out,rfl,_,HRR.out,(if_neg HZZ.out).symm⟩)⟩
 ·have HB:=hid ((HB0.out.trans (hb.mono HB0.out.size)))
  have HR2:=hid ((hb.block _ (row_lt HR0.out)).trans HR0.out)
  have hal:Below w2.heap.size w2 (w2.alloc (.cells #[.int .u32 0,.slice none 0 0] 68)):=(Below.refl _ _).alloc (Nat.le_refl _) _
  have HR4:=hid ((hal.block _ (row_lt HR2.out)).trans HR2.out)
  have HB4:=hid (HB.out.trans (hal.mono HB.out.size))
  have HNO:=hid hno
  clear hb hno hal
  have k0:(w2.alloc (.cells #[.int .u32 0,.slice none 0 0] 68)).cell? ⟨w.heap.size+1,0,none⟩=some (.int .u32 0):=cell_of_row _ _ 0 _ _ _ HR4.out
  have k1:(w2.alloc (.cells #[.int .u32 0,.slice none 0 0] 68)).cell? ⟨w.heap.size+1,1,none⟩=some (.slice none 0 0):=cell_of_row _ _ 1 _ _ _ HR4.out
  have f0:=frozen_of_row (w2.alloc (.cells #[.int .u32 0,.slice none 0 0] 68)) (w.heap.size+1) 0 _ _ HR4.out
  have f1:=frozen_of_row (w2.alloc (.cells #[.int .u32 0,.slice none 0 0] 68)) (w.heap.size+1) 1 _ _ HR4.out
  have l0:=row_lt HR4.out
  go_wp2_with fail
  have Q1:=row_set (cs:=[.int .u32 0,.slice none 0 0]) (i:=0) (u:=.int .u32 0) HR4.out
  have Q2:=row_set (cs:=[.int .u32 0,.slice none 0 0]) (i:=1) (u:=.slice none 0 0) Q1
  refine bodyPost_ret (v:=.tuple #[.agg #[.int .u32 0,.slice none 0 0],.int .i64 7]) (results_row2 rfl _ _ (w.heap.size+1) 25 #[.int .u32 0,.slice none 0 0] (0,0) _ rfl Q2 Tryz.underlying25 rfl (by kernel_rfl) _ rfl) rfl ?_
  exact⟨_,7,0,[],rfl,⟨none,0,0,rfl,MkC.two (Mk.nil HB4.out) HR4.out (Nat.le_succ _)⟩,.inl ⟨HNO.out,rfl,rfl,rfl⟩⟩
set_option maxHeartbeats 8000000 in
theorem withDrop_any {tK tS:TypeId}{w:World}{A:Option Addr}{n:Nat}{L:List Ce}(hk:Kc tK tS w.heap.size w) (h:HIn w A n L) (sz cap:Nat) (num:Nat) (R:Int→List Ce→Prop) (hF:DoC 49 R L num) :
  Calls Tryz.prog 47 #[.agg #[.int .u32 sz,.slice A n cap],.int .u32 num,.func (.func 49) #[] #[]] w (WoPost R w sz L num):=by
 have HT:=hid (fun W hb=>tk_at hk h sz cap W hb)
 have HCP:=hid (fun W (hb:Below w.heap.size w W)=>copied_any (w:=W) sz cap (h.go hb))
 have HF:=hid hF
 obtain⟨R1,R2,S0,Z0⟩:=two_new w #[.int .u32 sz,.slice A n cap] #[.int .u32 0,.slice none 0 0] 25 25
 have HH0:=hid R1
 have HR0:=hid R2
 have HB0:=hid S0
 clear hk h R1 R2 S0 Z0 hF
 go_enter Tryz.func47,Tryz.ntmps47
 go_wp2_with fail
 refine (HT.out _ HB0.out).mono ?_
 rintro e w2 ⟨hb,⟨hok,A2,n2,c2,P,s,rfl,htk⟩ | ⟨hno,rfl⟩⟩
 ·have HB:=hid (HB0.out.trans (hb.mono HB0.out.size))
  have hal:Below w2.heap.size w2 (w2.alloc (.cells #[.int .u32 sz,.slice A2 n2 c2] 68)):=(Below.refl _ _).alloc (Nat.le_refl _) _
  have HTK:=hid (htk.go hal)
  have HB3:=hid (HB.out.trans (hal.mono HB.out.size))
  have HR2:=hid ((hb.block _ (row_lt HR0.out)).trans HR0.out)
  have HR3:=hid ((hal.block _ (row_lt HR2.out)).trans HR2.out)
  have HH2:=hid ((hb.block _ (row_lt HH0.out)).trans HH0.out)
  have HH3:=hid ((hal.block _ (row_lt HH2.out)).trans HH2.out)
  have HQ3:=hid (heap_alloc_new w2 (.cells #[.int .u32 sz,.slice A2 n2 c2] 68))
  have HFD:=hid (find_any (HTK.out.wk HQ3.out (by decide) rfl) num)
  have HFL:=hid (show fndL L num=(fndP s P num).map fun p=>ceO (s p) by rw [htk.lst];exact fnd_LP num)
  have HZ0:=hid (show w.heap.size≤((w.alloc (.cells #[.int .u32 sz,.slice A n cap] 25)).alloc (.cells #[.int .u32 0,.slice none 0 0] 25)).heap.size from HB0.out.size)
  have HZ2:=hid (show ((w.alloc (.cells #[.int .u32 sz,.slice A n cap] 25)).alloc (.cells #[.int .u32 0,.slice none 0 0] 25)).heap.size≤(w2.alloc (.cells #[.int .u32 sz,.slice A2 n2 c2] 68)).heap.size from Nat.le_trans hb.size hal.size)
  have HPLN:=hid htk.len
  have HOK:=hid hok
  clear hb htk hal hok
  cases hf:fndP s P num with
  | none =>
   have HFN:=hid (show fndL L num=none by rw [HFL.out,hf];rfl)
   rw [hf] at HFD
   have HFE:=hid (show Calls Tryz.prog 34 #[.pointer (some ⟨w2.heap.size,0,none⟩),.int .u32 num] (w2.alloc (.cells #[.int .u32 sz,.slice A2 n2 c2] 68)) fun e w'=>e=.returned (.tuple #[.pointer none,.int .i64 5])∧Below (w2.alloc (.cells #[.int .u32 sz,.slice A2 n2 c2] 68)).heap.size (w2.alloc (.cells #[.int .u32 sz,.slice A2 n2 c2] 68)) w' from HFD.out)
   clear hf HFD
   go_wp2_with fail
   refine HFE.out.mono ?_
   rintro e w4 ⟨rfl,hb4⟩
   have HB4:=hid (HB3.out.trans (hb4.mono HB3.out.size))
   have HR4:=hid ((hb4.block _ (row_lt HR3.out)).trans HR3.out)
   have HH4:=hid ((hb4.block _ (row_lt HH3.out)).trans HH3.out)
   have HCE:=hid (HCP.out w4 HB4.out)
   clear hb4
   have h0:w4.cell? ⟨w.heap.size,0,none⟩=some (.int .u32 sz):=cell_of_row _ _ 0 _ _ _ HH4.out
   have h1:w4.cell? ⟨w.heap.size,1,none⟩=some (.slice A n cap):=cell_of_row _ _ 1 _ _ _ HH4.out
   have l1:=row_lt HH4.out
   go_wp2_with fail
   refine HCE.out.mono ?_
   rintro e w5 ⟨v5,rfl,A5,n5,c5,rfl,hm5⟩
   have HM5:=hid (hm5.since HB4.out)
   have HR5:=hid ((hm5.2.block _ (row_lt HR4.out)).trans HR4.out)
   clear hm5 h0 h1 l1
   have k0:w5.cell? ⟨w.heap.size+1,0,none⟩=some (.int .u32 0):=cell_of_row _ _ 0 _ _ _ HR5.out
   have k1:w5.cell? ⟨w.heap.size+1,1,none⟩=some (.slice none 0 0):=cell_of_row _ _ 1 _ _ _ HR5.out
   have f0:=frozen_of_row w5 (w.heap.size+1) 0 _ _ HR5.out
   have f1:=frozen_of_row w5 (w.heap.size+1) 1 _ _ HR5.out
   have l0:=row_lt HR5.out
   go_wp2_with fail
   have Q1:=row_set (cs:=[.int .u32 0,.slice none 0 0]) (i:=0) (u:=.int .u32 sz) HR5.out
   have Q2:=row_set (cs:=[.int .u32 sz,.slice none 0 0]) (i:=1) (u:=.slice A5 n5 c5) Q1
   refine bodyPost_ret (v:=.tuple #[.agg #[.int .u32 sz,.slice A5 n5 c5],.int .i64 5]) (results_row2 rfl _ _ (w.heap.size+1) 25 #[.int .u32 sz,.slice A5 n5 c5] (0,0) _ rfl Q2 Tryz.underlying25 rfl (by kernel_rfl) _ rfl) rfl ?_
   exact⟨_,5,sz,L,rfl,⟨A5,n5,c5,rfl,MkC.two HM5.out HR5.out (Nat.le_succ _)⟩,.inr (.inl ⟨HOK.out,HFN.out,rfl,rfl,rfl⟩)⟩
  | some p =>
   obtain⟨hpP,hpn⟩:=fndP_some hf
   have HFS:=hid (show ∃ c,fndL L num=some c from⟨_,by rw [HFL.out,hf];rfl⟩)
   have HFP:=hid hf
   rw [hf] at HFD
   have HFE:=hid (show Calls Tryz.prog 34 #[.pointer (some ⟨w2.heap.size,0,none⟩),.int .u32 num] (w2.alloc (.cells #[.int .u32 sz,.slice A2 n2 c2] 68)) fun e w'=>e=.returned (.tuple #[.pointer (some ⟨p,0,none⟩),.int .i64 0])∧Below (w2.alloc (.cells #[.int .u32 sz,.slice A2 n2 c2] 68)).heap.size (w2.alloc (.cells #[.int .u32 sz,.slice A2 n2 c2] 68)) w' from HFD.out)
   clear hf HFD hpn hpP
   go_wp2_with fail
   refine HFE.out.mono ?_
   rintro e w4 ⟨rfl,hb4⟩
   have HB4:=hid (HB3.out.trans (hb4.mono HB3.out.size))
   have HR4:=hid ((hb4.block _ (row_lt HR3.out)).trans HR3.out)
   have HH4:=hid ((hb4.block _ (row_lt HH3.out)).trans HH3.out)
   have HQ4:=hid ((hb4.block _ (row_lt HQ3.out)).trans HQ3.out)
   have HTK4:=hid (HTK.out.go hb4)
   have HDO:=hid (HF.out w4 _ _ P s HTK4.out (Nat.le_trans HZ2.out hb4.size) p HFP.out)
   have HZ4:=hid (Nat.le_trans HZ2.out hb4.size)
   clear hb4 HTK HFE HF
   go_wp2_with fail
   refine HDO.out.mono ?_
   rintro e w5 ⟨z,t,rfl,ht,ho,hR⟩
   have HRR:=hid hR
   have HHT:=hid ht
   have HR5:=hid (ho.row HR4.out (by decide))
   have HH5:=hid (ho.row HH4.out (by decide))
   have HQ5:=hid (ho.row HQ4.out (by decide))
   have HOW5:=hid (show OwP _ w5 (.slice A2 n2 c2) P from ho.own (by decide) HTK4.out.own)
   have HB5:=hid (HB4.out.trans ((ho.below HZ4.out).mono HZ0.out))
   clear ht ho hR HDO HTK4
   by_cases hz:z=0
   ·have q0:((z:Int) != 0)=false:=by rw [hz];rfl
    have HZZ:=hid hz
    clear hz
    have HPL:=hid (plain_any (q:=w2.heap.size) (sz:=sz) ⟨_,_,HQ5.out,rfl,rfl⟩ HOW5.out HHT.out.rows (by have:=HPLN.out;omega))
    go_wp2_with fail
    refine HPL.out.mono ?_
    rintro e w6 ⟨v6,rfl,A6,n6,c6,rfl,hm6⟩
    have HM6:=hid (hm6.since HB5.out)
    have HR6:=hid ((hm6.2.block _ (row_lt HR5.out)).trans HR5.out)
    clear hm6
    have k0:w6.cell? ⟨w.heap.size+1,0,none⟩=some (.int .u32 0):=cell_of_row _ _ 0 _ _ _ HR6.out
    have k1:w6.cell? ⟨w.heap.size+1,1,none⟩=some (.slice none 0 0):=cell_of_row _ _ 1 _ _ _ HR6.out
    have f0:=frozen_of_row w6 (w.heap.size+1) 0 _ _ HR6.out
    have f1:=frozen_of_row w6 (w.heap.size+1) 1 _ _ HR6.out
    have l0:=row_lt HR6.out
    go_wp2_with fail
    have Q1:=row_set (cs:=[.int .u32 0,.slice none 0 0]) (i:=0) (u:=.int .u32 sz) HR6.out
    have Q2:=row_set (cs:=[.int .u32 sz,.slice none 0 0]) (i:=1) (u:=.slice A6 n6 c6) Q1
    refine bodyPost_ret (v:=.tuple #[.agg #[.int .u32 sz,.slice A6 n6 c6],.int .i64 0]) (results_row2 rfl _ _ (w.heap.size+1) 25 #[.int .u32 sz,.slice A6 n6 c6] (0,0) _ rfl Q2 Tryz.underlying25 rfl (by kernel_rfl) _ rfl) rfl ?_
    exact⟨_,0,sz,_,rfl,⟨A6,n6,c6,rfl,MkC.two HM6.out HR6.out (Nat.le_succ _)⟩,.inr (.inr ⟨HOK.out,HFS.out,rfl,_,(by have:=HRR.out;rwa [HZZ.out] at this),rfl⟩)⟩
   ·have q0:((z:Int) != 0)=true:=by rw [bne_iff_ne];exact hz
    have HZZ:=hid hz
    clear hz
    have HCE:=hid (HCP.out w5 HB5.out)
    have h0:w5.cell? ⟨w.heap.size,0,none⟩=some (.int .u32 sz):=cell_of_row _ _ 0 _ _ _ HH5.out
    have h1:w5.cell? ⟨w.heap.size,1,none⟩=some (.slice A n cap):=cell_of_row _ _ 1 _ _ _ HH5.out
    have l1:=row_lt HH5.out
    go_wp2_with fail
    refine HCE.out.mono ?_
    rintro e w6 ⟨v6,rfl,A6,n6,c6,rfl,hm6⟩
    have HM6:=hid (hm6.since HB5.out)
    have HR6:=hid ((hm6.2.block _ (row_lt HR5.out)).trans HR5.out)
    clear hm6 h0 h1 l1
    have k0:w6.cell? ⟨w.heap.size+1,0,none⟩=some (.int .u32 0):=cell_of_row _ _ 0 _ _ _ HR6.out
    have k1:w6.cell? ⟨w.heap.size+1,1,none⟩=some (.slice none 0 0):=cell_of_row _ _ 1 _ _ _ HR6.out
    have f0:=frozen_of_row w6 (w.heap.size+1) 0 _ _ HR6.out
    have f1:=frozen_of_row w6 (w.heap.size+1) 1 _ _ HR6.out
    have l0:=row_lt HR6.out
    go_wp2_with fail
    have Q1:=row_set (cs:=[.int .u32 0,.slice none 0 0]) (i:=0) (u:=.int .u32 sz) HR6.out
    have Q2:=row_set (cs:=[.int .u32 sz,.slice none 0 0]) (i:=1) (u:=.slice A6 n6 c6) Q1
    refine bodyPost_ret (v:=.tuple #[.agg #[.int .u32 sz,.slice A6 n6 c6],.int .i64 z]) (results_row2 rfl _ _ (w.heap.size+1) 25 #[.int .u32 sz,.slice A6 n6 c6] (0,0) _ rfl Q2 Tryz.underlying25 rfl (by kernel_rfl) _ rfl) rfl ?_
    exact⟨_,z,sz,L,rfl,⟨A6,n6,c6,rfl,MkC.two HM6.out HR6.out (Nat.le_succ _)⟩,.inr (.inr ⟨HOK.out,HFS.out,rfl,_,HRR.out,(if_neg HZZ.out).symm⟩)⟩
 ·have HB:=hid ((HB0.out.trans (hb.mono HB0.out.size)))
  have HR2:=hid ((hb.block _ (row_lt HR0.out)).trans HR0.out)
  have hal:Below w2.heap.size w2 (w2.alloc (.cells #[.int .u32 0,.slice none 0 0] 68)):=(Below.refl _ _).alloc (Nat.le_refl _) _
  have HR4:=hid ((hal.block _ (row_lt HR2.out)).trans HR2.out)
  have HB4:=hid (HB.out.trans (hal.mono HB.out.size))
  have HNO:=hid hno
  clear hb hno hal
  have k0:(w2.alloc (.cells #[.int .u32 0,.slice none 0 0] 68)).cell? ⟨w.heap.size+1,0,none⟩=some (.int .u32 0):=cell_of_row _ _ 0 _ _ _ HR4.out
  have k1:(w2.alloc (.cells #[.int .u32 0,.slice none 0 0] 68)).cell? ⟨w.heap.size+1,1,none⟩=some (.slice none 0 0):=cell_of_row _ _ 1 _ _ _ HR4.out
  have f0:=frozen_of_row (w2.alloc (.cells #[.int .u32 0,.slice none 0 0] 68)) (w.heap.size+1) 0 _ _ HR4.out
  have f1:=frozen_of_row (w2.alloc (.cells #[.int .u32 0,.slice none 0 0] 68)) (w.heap.size+1) 1 _ _ HR4.out
  have l0:=row_lt HR4.out
  go_wp2_with fail
  have Q1:=row_set (cs:=[.int .u32 0,.slice none 0 0]) (i:=0) (u:=.int .u32 0) HR4.out
  have Q2:=row_set (cs:=[.int .u32 0,.slice none 0 0]) (i:=1) (u:=.slice none 0 0) Q1
  refine bodyPost_ret (v:=.tuple #[.agg #[.int .u32 0,.slice none 0 0],.int .i64 7]) (results_row2 rfl _ _ (w.heap.size+1) 25 #[.int .u32 0,.slice none 0 0] (0,0) _ rfl Q2 Tryz.underlying25 rfl (by kernel_rfl) _ rfl) rfl ?_
  exact⟨_,7,0,[],rfl,⟨none,0,0,rfl,MkC.two (Mk.nil HB4.out) HR4.out (Nat.le_succ _)⟩,.inl ⟨HNO.out,rfl,rfl,rfl⟩⟩
def holdL (L:List Ce) (num:Nat):List Ce:=L.map fun c=>if c.num=num then ⟨c.num,c.d,c.r+1⟩ else c
def HoldR (L:List Ce) (num:Nat) (z:Int) (M:List Ce):Prop:=∃ c,fndL L num=some c∧((c.r=16777216∧z=1)∨(c.r<16777216∧z=0∧M=holdL L num))
theorem plL_live {P:List Nat}{s:Nat→Ob}(h:∀ p∈P,(s p).gn=false):plL P s=P.map fun p=>ceO (s p):=by
 unfold plL
 rw [List.filter_eq_self.2 fun p hp=>by rw [h p hp];rfl]
theorem hold_do (L:List Ce) (num:Nat):DoC 48 (HoldR L num) L num:=by
 intro W n0 v P s htk hn p hf
 obtain⟨hp,hpn⟩:=fndP_some hf
 have hfl:fndL L num=some (ceO (s p)):=by rw [htk.lst,fnd_LP,hf];rfl
 have hr:=htk.rf p hp
 by_cases h1:(s p).r=16777216
 ·refine (hold_no (htk.at_.at_ hp) h1).mono ?_
  rintro e w' ⟨rfl,rfl⟩
  exact⟨1,s,rfl,htk.at_,Off.refl _ _,_,hfl,.inl ⟨h1,rfl⟩⟩
 ·refine (hold_yes htk.at_ hp (by omega) (by omega)).mono ?_
  rintro e w' ⟨rfl,hH,ho⟩
  refine⟨0,_,rfl,hH,ho,_,hfl,.inr ⟨by show (s p).r<16777216;omega,rfl,?_⟩⟩
  rw [plL_live fun q hq=>by
   by_cases e:q=p
   ·subst e;rw [upd_same];exact htk.gn q hq
   ·rw [upd_other e];exact htk.gn q hq]
  unfold holdL
  rw [htk.lst,List.map_map]
  apply List.map_congr_left
  intro q hq
  show ceO (upd s p ((s p).rf ((s p).r+1)) q)=if (s q).num=num then _ else _
  by_cases e:q=p
  ·subst e;rw [upd_same,if_pos hpn];rfl
  ·rw [upd_other e,if_neg (fun e2=>e (up_inj htk.up hq hp (e2.trans hpn.symm)))]
def DropP (L:List Ce) (num:Nat) (z:Int) (M:List Ce):Prop :=
 ∃ c,fndL L num=some c∧((c.r-ldL L num<1∧z=7)∨(1≤c.r-ldL L num∧z=0∧∃ (P:List Nat) (s t:Nat→Ob) (p:Nat),P.Nodup∧Up s P∧P.length≤65536∧L=(P.map fun p=>ceO (s p))∧p∈P∧(s p).num=num∧(∀ q∈P,(s q).gn=false)∧(∀ q∈P,bO s q=toF s P q)∧(∀ q∈P,(s q).n=ndD (s q).d)∧(∀ q∈P,gdF s P q=true)∧(∀ q,Sg (s q) (t q))∧Lets (bO s) (rO s) (gO s) [p] (rO t) (gO t)∧Inv P (bO s) (updF (hdT s) p (hdT s p-1)) (rO t) (gO t) []∧M=plL P t))
theorem drop_do (L:List Ce) (num:Nat):DoC 49 (DropP L num) L num:=by
 intro W n0 v P s htk hn p hf
 obtain⟨hp,hpn⟩:=fndP_some hf
 have hfl:fndL L num=some (ceO (s p)):=by rw [htk.lst,fnd_LP,hf];rfl
 have hr:=htk.rf p hp
 have hl:=htk.ald hp
 rw [hpn] at hl
 by_cases h1:(s p).r-(s p).a<1
 ·refine (drop_no (htk.at_.at_ hp) (by have:=(htk.ale hp).1;omega) (by omega)).mono ?_
  rintro e w' ⟨rfl,hb⟩
  exact⟨7,s,rfl,htk.at_.go hb,Off.of_below hb,_,hfl,.inl ⟨by show (s p).r-(ldL L num:Int)<1;rw [← hl];exact h1,rfl⟩⟩
 ·refine (drop_yes htk hn hp (by omega)).mono ?_
  rintro e w' ⟨rfl,t,hH,ho,hsg,hlt,hi⟩
  exact⟨0,t,rfl,hH,ho,_,hfl,.inr ⟨by show 1≤(s p).r-(ldL L num:Int);rw [← hl];omega,rfl,P,s,t,p,htk.at_.nd,htk.up,htk.len,htk.lst,hp,hpn,htk.gn,htk.bl,htk.n,htk.good,hsg,hlt,hi,rfl⟩⟩
set_option maxHeartbeats 4000000 in
theorem Hold_any {tK tS:TypeId}{w:World}{A:Option Addr}{n:Nat}{L:List Ce}(hk:Kc tK tS w.heap.size w) (h:HIn w A n L) (sz cap:Nat) (num:Nat) :
  Calls Tryz.prog 20 #[.agg #[.int .u32 sz,.slice A n cap],.int .u32 num] w (WoPost (HoldR L num) w sz L num):=by
 have HW:=hid (fun W (hb:Below w.heap.size w W)=>withHold_any ((hk.below hb).mono hb.size) (h.go hb) sz cap num (HoldR L num) (hold_do L num))
 obtain⟨R1,R2,S0,Z0⟩:=two_new w #[.int .u32 sz,.slice A n cap] #[.int .u32 0,.slice none 0 0] 25 25
 have HR0:=hid R2
 have HB0:=hid S0
 clear hk h R1 R2 S0 Z0
 go_enter Tryz.func20,Tryz.ntmps20
 go_wp2_with fail
 refine (HW.out _ HB0.out).mono ?_
 rintro e w2 ⟨v,z,sz2,L2,rfl,⟨A5,n5,c5,rfl,hm⟩,hR⟩
 have HM:=hid (hm.since HB0.out)
 have HR2:=hid ((hm.2.block _ (row_lt HR0.out)).trans HR0.out)
 have HRR:=hid hR
 have k0:w2.cell? ⟨w.heap.size+1,0,none⟩=some (.int .u32 0):=cell_of_row _ _ 0 _ _ _ HR2.out
 have k1:w2.cell? ⟨w.heap.size+1,1,none⟩=some (.slice none 0 0):=cell_of_row _ _ 1 _ _ _ HR2.out
 have f0:=frozen_of_row w2 (w.heap.size+1) 0 _ _ HR2.out
 have f1:=frozen_of_row w2 (w.heap.size+1) 1 _ _ HR2.out
 have l0:=row_lt HR2.out
 clear hm hR HW
 go_wp2_with fail
 have Q1:=row_set (cs:=[.int .u32 0,.slice none 0 0]) (i:=0) (u:=.int .u32 sz2) HR2.out
 have Q2:=row_set (cs:=[.int .u32 sz2,.slice none 0 0]) (i:=1) (u:=.slice A5 n5 c5) Q1
 refine bodyPost_ret (v:=.tuple #[.agg #[.int .u32 sz2,.slice A5 n5 c5],.int .i64 z]) (results_row2 rfl _ _ (w.heap.size+1) 25 #[.int .u32 sz2,.slice A5 n5 c5] (0,0) _ rfl Q2 Tryz.underlying25 rfl (by kernel_rfl) _ rfl) rfl ?_
 exact⟨_,z,sz2,L2,rfl,⟨A5,n5,c5,rfl,MkC.two HM.out HR2.out (Nat.le_succ _)⟩,HRR.out⟩
set_option maxHeartbeats 4000000 in
theorem Drop_any {tK tS:TypeId}{w:World}{A:Option Addr}{n:Nat}{L:List Ce}(hk:Kc tK tS w.heap.size w) (h:HIn w A n L) (sz cap:Nat) (num:Nat) :
  Calls Tryz.prog 23 #[.agg #[.int .u32 sz,.slice A n cap],.int .u32 num] w (WoPost (DropP L num) w sz L num):=by
 have HW:=hid (fun W (hb:Below w.heap.size w W)=>withDrop_any ((hk.below hb).mono hb.size) (h.go hb) sz cap num (DropP L num) (drop_do L num))
 obtain⟨R1,R2,S0,Z0⟩:=two_new w #[.int .u32 sz,.slice A n cap] #[.int .u32 0,.slice none 0 0] 25 25
 have HR0:=hid R2
 have HB0:=hid S0
 clear hk h R1 R2 S0 Z0
 go_enter Tryz.func23,Tryz.ntmps23
 go_wp2_with fail
 refine (HW.out _ HB0.out).mono ?_
 rintro e w2 ⟨v,z,sz2,L2,rfl,⟨A5,n5,c5,rfl,hm⟩,hR⟩
 have HM:=hid (hm.since HB0.out)
 have HR2:=hid ((hm.2.block _ (row_lt HR0.out)).trans HR0.out)
 have HRR:=hid hR
 have k0:w2.cell? ⟨w.heap.size+1,0,none⟩=some (.int .u32 0):=cell_of_row _ _ 0 _ _ _ HR2.out
 have k1:w2.cell? ⟨w.heap.size+1,1,none⟩=some (.slice none 0 0):=cell_of_row _ _ 1 _ _ _ HR2.out
 have f0:=frozen_of_row w2 (w.heap.size+1) 0 _ _ HR2.out
 have f1:=frozen_of_row w2 (w.heap.size+1) 1 _ _ HR2.out
 have l0:=row_lt HR2.out
 clear hm hR HW
 go_wp2_with fail
 have Q1:=row_set (cs:=[.int .u32 0,.slice none 0 0]) (i:=0) (u:=.int .u32 sz2) HR2.out
 have Q2:=row_set (cs:=[.int .u32 sz2,.slice none 0 0]) (i:=1) (u:=.slice A5 n5 c5) Q1
 refine bodyPost_ret (v:=.tuple #[.agg #[.int .u32 sz2,.slice A5 n5 c5],.int .i64 z]) (results_row2 rfl _ _ (w.heap.size+1) 25 #[.int .u32 sz2,.slice A5 n5 c5] (0,0) _ rfl Q2 Tryz.underlying25 rfl (by kernel_rfl) _ rfl) rfl ?_
 exact⟨_,z,sz2,L2,rfl,⟨A5,n5,c5,rfl,MkC.two HM.out HR2.out (Nat.le_succ _)⟩,HRR.out⟩
open Go.ChangeShapes Go.WideShapes Go.ChangeAt Go.RowKit Go.WideMaps Go.Maps
theorem kLaw:Keyed Tryz.prog 9:=string_keyed Tryz.underlying9
theorem zeroU (w:World):(zeroValue 22).run Tryz.prog w=.ok (.int .u32 0) w:=by kernel_rfl
theorem key_of {d:ByteArray}(h:d.size≤maxLen):keyOf Tryz.prog 9 (.string d)=some (.string d.data.toList):=keyOf_string_mk Tryz.underlying9 h
def fstC (L:List Ce) (l:List UInt8):Option Ce:=L.find? fun c=>decide (c.d.data.toList=l)
theorem fst_snoc (L:List Ce) (c:Ce) (l:List UInt8):fstC (L++[c]) l=match fstC L l with | some x=>some x | none=>if c.d.data.toList=l then some c else none:=by
 unfold fstC
 rw [List.find?_append]
 cases L.find? fun c=>decide (c.d.data.toList=l) with
 | some x=>rfl
 | none=>by_cases h:c.d.data.toList=l<;>simp [h]
structure MpI (D:DataW Unit) (L:List Ce):Prop where
 map:IsMap D
 has:∀ l,Maps.has D (.string l)=(fstC L l).isSome
 at_:∀ l c,fstC L l=some c→∀ z,D.atKey (.string l) z=.lit (.int .u32 c.num)
theorem MpI.nil:MpI (.map []) []:=⟨isMap_empty,fun l=>rfl,fun l c h=>by cases h⟩
theorem MpI.skip {D:DataW Unit}{L:List Ce}{c:Ce}(h:MpI D L) (hc:(fstC L c.d.data.toList).isSome=true):MpI D (L++[c]):=by
 have hs:∀ l,fstC (L++[c]) l=fstC L l:=fun l=>by
  rw [fst_snoc]
  cases hf:fstC L l with
  | some x=>rfl
  | none =>
   by_cases e:c.d.data.toList=l
   ·rw [e,hf] at hc;cases hc
   ·rw [if_neg e]
 exact⟨h.map,fun l=>by rw [hs];exact h.has l,fun l x hx=>h.at_ l x (by rw [← hs];exact hx)⟩
theorem MpI.put {D:DataW Unit}{L:List Ce}{c:Ce}(h:MpI D L) (hc:(fstC L c.d.data.toList).isSome=false):MpI (D.put (.string c.d.data.toList) (.lit (.int .u32 c.num))) (L++[c]):=by
 have hn:fstC L c.d.data.toList=none:=by cases hf:fstC L c.d.data.toList with | none=>rfl | some x=>rw [hf] at hc;cases hc
 refine⟨h.map.put _ _,fun l=>?_,fun l x hx z=>?_⟩
 ·by_cases e:c.d.data.toList=l
  ·subst e
   rw [has_put_same h.map (show WideAt.IsKeyLit (.string c.d.data.toList) from trivial),fst_snoc,hn,if_pos rfl];rfl
  ·rw [has_put_other (fun e2=>e (by cases e2;rfl)),h.has,fst_snoc]
   cases fstC L l with
   | some x=>rfl
   | none=>rw [if_neg e]
 ·by_cases e:c.d.data.toList=l
  ·subst e
   rw [fst_snoc,hn,if_pos rfl] at hx
   cases hx
   exact atKey_put_same h.map (show WideAt.IsKeyLit (.string c.d.data.toList) from trivial) _ _
  ·rw [atKey_put_other (fun e2=>e (by cases e2;rfl))]
   rw [fst_snoc] at hx
   cases hf:fstC L l with
   | some y=>rw [hf] at hx;cases hx;exact h.at_ l _ hf z
   | none=>rw [hf,if_neg e] at hx;cases hx
abbrev OwM (w:World) (b n:Nat) (D:DataW Unit):Prop:=w.ownsMap Tryz.prog 9 (plainElem Tryz.prog 22) b n D
theorem OwM.go {w w':World}{b n:Nat}{D:DataW Unit}(h:OwM w b n D) (hb:Below w.heap.size w w'):OwM w' b n D:=World.ownsMap.kept h (grown_of_below hb none) (by simp)
theorem u32_wf {n:Nat}(h:n<4294967296):(Lit.int .u32 (n:Int)).wf=true:=by
 have h1:IntKind.u32.min=0:=by decide
 have h2:IntKind.u32.max=4294967295:=by decide
 simp [Lit.wf,h1,h2]
 omega
def FoPost (w:World) (L:List Ce) (e:Ending) (w':World):Prop:=∃ b n D,e=.returned (.map (some b))∧w.heap.size≤b∧n≤65536∧OwM w' b n D∧MpI D L∧Below w.heap.size w w'
set_option maxHeartbeats 4000000 in
theorem firstOfEach_any {w:World}(L:List Ce) (A:Option Addr) (n cap:Nat) (hn:n=L.length) (hm:n≤65536) (hD:Ls ecC 3 w w.heap.size A L) (hc:∀ c∈L,c.num<4294967296∧c.d.size≤512) :
  Calls Tryz.prog 75 #[.slice A n cap] w (FoPost w L):=by
 have hmm:=@run_makeMap Tryz.prog
 have HN:=hid hn
 have HD:=hid hD
 have HC:=hid hc
 have HS:=hid (World.ownsMap_made (H:=Unit) w Tryz.prog 9 (plainElem Tryz.prog 22))
 have HB0:=hid (show Below w.heap.size w (w.alloc (.map #[] 0)) from (Below.refl _ _).alloc (Nat.le_refl _) _)
 clear hn hD hc
 go_enter Tryz.func75,Tryz.ntmps75
 go_wp2_with fail
 clear hmm
 generalize w.alloc (.map #[] 0)=W0 at *
 go_loopw [11] (fun v wr=>∃ (i:Nat) (D:DataW Unit),i≤n∧v=.int .i64 i∧Hid (OwM wr w.heap.size i D)∧Hid (MpI D (L.take i))∧Hid (Below w.heap.size w wr)) (fun v _=>n-(intOf v).toNat)
 case atStart=>exact⟨0,.map [],Nat.zero_le _,by go_num,HS.out,MpI.nil,HB0.out⟩
 case round =>
  obtain⟨i,D,hi,rfl,hO,hM,hB⟩:=hrel
  have HO:=hid (Hid.out hO)
  have HM:=hid (Hid.out hM)
  have HB:=hid (Hid.out hB)
  clear hO hM hB
  by_cases hlt:i<n
  ·obtain⟨c,hx⟩:∃ c,L[i]?=some c:=⟨_,List.getElem?_eq_getElem (by rw [← HN.out];exact hlt)⟩
   have hcc:=HC.out c (List.mem_of_getElem? hx)
   obtain⟨b,o,hAe,hbs,hr⟩:=(HD.out.below HB.out) i c hx
   have HRG:=hid hr
   have hbl:b<wr.heap.size:=Nat.lt_of_lt_of_le hbs HB.out.size
   have HTK:=hid (take_snoc hx)
   have HWF:=hid (u32_wf hcc.1)
   have HKEY:=hid (key_of (d:=c.d) (by unfold maxLen;have:=hcc.2;omega))
   have HHAS:=hid (HM.out.has c.d.data.toList)
   clear hr hx hcc
   subst hAe
   cases hf:(fstC (L.take i) c.d.data.toList).isSome
   ·have hh:Maps.has D (.string c.d.data.toList)=false:=HHAS.out.trans hf
    have HMN:=hid (show MpI (D.put (.string c.d.data.toList) (.lit (.int .u32 c.num))) (L.take (i+1)) by rw [HTK.out];exact HM.out.put hf)
    clear hf
    go_wp2_with (first
     | (refine wpList_load_at rfl 75 (.tmp 13) rfl b (o+i*3) rfl (ecC c) _ HRG.out Tryz.underlying75 rfl infoC ?_)
     | (refine wpList_fresh rfl 75 (.tmp 5) (.tmp 14) rfl (ecC c).toArray _ _ rfl rfl infoC rfl (all_of_one (ecC_one c)) ?_;intro W1 hb1 hr1 hz1;have HB1:=hid (HB.out.trans (hb1.mono HB.out.size));have HO1:=hid (HO.out.go hb1);have c0:W1.cell? ⟨wr.heap.size,0,none⟩=some (.int .u32 c.num):=cell_of_row _ _ 0 _ _ _ hr1;have c1:W1.cell? ⟨wr.heap.size,1,none⟩=some (.string c.d):=cell_of_row _ _ 1 _ _ _ hr1;have l1:wr.heap.size<W1.heap.size:=cell_lt c0;clear hr1 hz1 hb1)
     | (at_lookup;refine wpList_lookup_own_ok_int _ rfl _ _ 127 rfl 9 22 .u32 kLaw Tryz.underlying127 Tryz.underlying22 (zeroU _) w.heap.size i D rfl HO1.out _ _ rfl HKEY.out ?_;intro vv hat hwc;clear hat hwc)
     | (at_mapUpdate;refine wpList_mapUpdate_own _ rfl _ _ _ 127 rfl 9 22 kLaw Tryz.underlying127 _ w.heap.size i _ rfl HO1.out (by unfold maxLen;omega) _ _ _ rfl rfl HKEY.out _ [] (plainElem_int Tryz.underlying22 HWF.out) ?_;intro w2 hown2 hgrow2;have HO2:=hid hown2;have HB2:=hid (show Below w.heap.size w w2 from HB1.out.trans (below_of_grown hgrow2 HB1.out.size (Nat.le_refl _)));clear hown2 hgrow2))
    exact⟨⟨i+1,_,by omega,by go_num,HO2.out,HMN.out,HB2.out⟩,by simp [intOf]<;>omega⟩
   ·have hh:Maps.has D (.string c.d.data.toList)=true:=HHAS.out.trans hf
    have HMN:=hid (show MpI D (L.take (i+1)) by rw [HTK.out];exact HM.out.skip hf)
    clear hf
    go_wp2_with (first
     | (refine wpList_load_at rfl 75 (.tmp 13) rfl b (o+i*3) rfl (ecC c) _ HRG.out Tryz.underlying75 rfl infoC ?_)
     | (refine wpList_fresh rfl 75 (.tmp 5) (.tmp 14) rfl (ecC c).toArray _ _ rfl rfl infoC rfl (all_of_one (ecC_one c)) ?_;intro W1 hb1 hr1 hz1;have HB1:=hid (HB.out.trans (hb1.mono HB.out.size));have HO1:=hid (HO.out.go hb1);have c0:W1.cell? ⟨wr.heap.size,0,none⟩=some (.int .u32 c.num):=cell_of_row _ _ 0 _ _ _ hr1;have c1:W1.cell? ⟨wr.heap.size,1,none⟩=some (.string c.d):=cell_of_row _ _ 1 _ _ _ hr1;have l1:wr.heap.size<W1.heap.size:=cell_lt c0;clear hr1 hz1 hb1)
     | (at_lookup;refine wpList_lookup_own_ok_int _ rfl _ _ 127 rfl 9 22 .u32 kLaw Tryz.underlying127 Tryz.underlying22 (zeroU _) w.heap.size i D rfl HO1.out _ _ rfl HKEY.out ?_;intro vv hat hwc;clear hat hwc))
    exact⟨⟨i+1,D,by omega,by go_num,HO1.out.mono (Nat.le_succ _),HMN.out,HB1.out⟩,by simp [intOf]<;>omega⟩
  ·have hin:i=n:=by omega
   have HT:=hid (show L.take i=L by rw [hin,HN.out,List.take_length])
   clear hin
   go_wp2
   go_ret
   exact⟨w.heap.size,i,D,rfl,Nat.le_refl _,by omega,HO.out,by have:=HM.out;rwa [HT.out] at this,HB.out⟩
open It (below_drewN)
theorem numAt_at (i:Nat) (h:i≤65536) (w:World):Calls Tryz.prog 158 #[.int .i64 i] w fun e w'=>e=.returned (.int .u32 ((i+2:Nat):Int))∧w'=w:=by
 have e1:IntKind.u32.wrap (i:Int)=(i:Int):=by simp [IntKind.wrap,IntKind.bits,IntKind.signed];omega
 go_enter Tryz.func158,Tryz.ntmps158
 go_wp2
 go_ret
 exact⟨by simp,rfl⟩
abbrev FlR (sz:Nat) (v:Value) (mb:Nat) (fl:Nat) (fd:Int):Array Value:=#[.int .u32 sz,v,.map (some mb),.int .i64 fl,.int .i64 fd]
def GapAt (s:Nat→Ob) (P:List Nat) (g:Nat):Prop:=g≤P.length∧(∀ j p,j<g→P[j]?=some p→(s p).num=j+2)∧(∀ p,P[g]?=some p→(s p).num≠g+2)
def FgPost (w:World) (q sz:Nat) (v:Value) (mb:Nat) (fd:Int) (s:Nat→Ob) (P:List Nat) (e:Ending) (w':World):Prop :=
 ∃ g,e=.returned (.int .i64 (g:Nat))∧GapAt s P g∧w'.heap[q]?=some (.cells (FlR sz v mb g fd) 130 (0,0))∧w.grownBy w' (some q)
set_option maxHeartbeats 4000000 in
theorem firstGap_any {w:World}{q sz n c mb:Nat}{A:Option Addr}{fd:Int}{s:Nat→Ob}{P:List Nat}(hq:w.heap[q]?=some (.cells (FlR sz (.slice A n c) mb 0 fd) 130 (0,0))) (hn:n=P.length) (hm:n≤65536){n0:Nat}(hO:OwP n0 w (.slice A n c) P) (hR:Rows w P s) :
  Calls Tryz.prog 157 #[.pointer (some ⟨q,0,none⟩)] w (FgPost w q sz (.slice A n c) mb fd s P):=by
 have HQ:=hid hq
 have HN:=hid hn
 have HO:=hid hO
 have HR:=hid hR
 have HQT:=hid (show ∀ p∈P,p≠q from fun p hp e=>by
  have h1:=hR p hp
  rw [e] at h1
  unfold At at h1
  rw [hq] at h1
  simp only [Option.some.injEq,Obj.cells.injEq] at h1
  exact absurd h1.2.1 (by decide))
 clear hq hn hO hR
 go_enter Tryz.func157,Tryz.ntmps157
 go_wp2_with fail
 go_loopw [3] (fun u wr=>∃ i:Nat,i≤n∧Hid (wr.heap[q]?=some (.cells (FlR sz (.slice A n c) mb i fd) 130 (0,0)))∧Hid (w.grownBy wr (some q))∧Hid (∀ j p,j<i→P[j]?=some p→(s p).num=j+2)) (fun _ wr=>match wr.cell? ⟨q,3,none⟩ with | some (.int _ z)=>n-z.toNat | _=>0)
 case atStart=>exact⟨0,Nat.zero_le _,HQ.out,grown_refl _ _,fun j p hj=>absurd hj (Nat.not_lt_zero _)⟩
 case round =>
  obtain⟨i,hi,hQ,hG,hS⟩:=hrel
  have HQR:=hid (Hid.out hQ)
  have HG:=hid (Hid.out hG)
  have HS:=hid (Hid.out hS)
  clear hQ hG hS
  have q1:wr.cell? ⟨q,1,none⟩=some (.slice A n c):=cell_of_row _ _ 1 _ _ _ HQR.out
  have q3:wr.cell? ⟨q,3,none⟩=some (.int .i64 i):=cell_of_row _ _ 3 _ _ _ HQR.out
  have f3:=frozen_of_row wr q 3 _ _ HQR.out
  have lq:=row_lt HQR.out
  by_cases hlt:i<n
  ·obtain⟨p,hp⟩:∃ p,P[i]?=some p:=⟨_,List.getElem?_eq_getElem (by rw [← HN.out];exact hlt)⟩
   have hpP:=List.mem_of_getElem? hp
   have HP:=hid hp
   have hO2:OwP n0 wr (.slice A n c) P:=World.ownsRow.kept HO.out HG.out (by
    cases hv:(Value.slice A n c).ownBlock with
    | none=>exact .inl rfl
    | some g =>
     right
     intro e
     obtain⟨_,cur,hg⟩:=HO.out.row g hv
     rw [Option.some.inj e,HQ.out] at hg
     simp only [Option.some.injEq,Obj.cells.injEq] at hg
     exact absurd hg.2.1 (by decide))
   have hL:=own_ls enP_len (by have:=hO2;unfold OwP at this;exact this)
   obtain⟨b,o,hAe,hbs,hr⟩:=hL i p hp
   have hcp:wr.cell? ⟨b,o+i,none⟩=some (.pointer (some ⟨p,0,none⟩)):=by have:=hr 0 _ rfl;rwa [Nat.mul_one] at this
   have hAt:At wr p (s p):=row_other HG.out (HR.out p hpP) (HQT.out p hpP)
   have hcn:wr.cell? ⟨p,0,none⟩=some (.int .u32 (s p).num):=hAt.cell (i:=0) rfl
   have hlp:p<wr.heap.size:=hAt.lt
   have d1:decide ((i:Int)<(n:Int))=true:=by rw [decide_eq_true_iff];omega
   have d1':decide (i<n)=true:=decide_eq_true hlt
   have e0:(0:Int)≤(i:Int):=by omega
   have e1:(i:Int)<(n:Int):=by omega
   clear hL hO2 hr hp hAt
   subst hAe
   by_cases hnum:(s p).num=i+2
   ·have d2:(((s p).num:Int)==((i+2:Nat):Int))=true:=by rw [beq_iff_eq];omega
    have HNU:=hid hnum
    clear hnum
    have HM0:=hid (show (match wr.cell? ⟨q,3,none⟩ with | some (.int _ z)=>n-z.toNat | _=>0)=n-i by rw [q3];simp)
    go_wp2_with fail
    go_big_quiet ((go_at_call 158;exact Calls.quiet_of_same (numAt_at i (by omega) _)))
    have HB2:=hid (below_drewN (Below.refl wr.heap.size wr) nq)
    have HQ2:=hid (show (World.drewN wr nq).heap[q]?=some (.cells (FlR sz (.slice (some ⟨b,o,none⟩) n c) mb i fd) 130 (0,0)) from HQR.out)
    have HG2:=hid (show w.grownBy (World.drewN wr nq) (some q) from grown_trans HG.out (grown_of_below HB2.out _))
    clear q1 q3 f3 lq
    generalize World.drewN wr nq=W2 at *
    have q3:W2.cell? ⟨q,3,none⟩=some (.int .i64 i):=cell_of_row _ _ 3 _ _ _ HQ2.out
    have f3:=frozen_of_row W2 q 3 _ _ HQ2.out
    have lq:=row_lt HQ2.out
    have HQ3:=hid (show (W2.setCell ⟨q,3,none⟩ (.int .i64 ((i+1:Nat):Int))).heap[q]?=some (.cells (FlR sz (.slice (some ⟨b,o,none⟩) n c) mb (i+1) fd) 130 (0,0)) from row_set (cs:=[.int .u32 sz,.slice (some ⟨b,o,none⟩) n c,.map (some mb),.int .i64 i,.int .i64 fd]) (i:=3) HQ2.out)
    have HG3:=hid (grown_trans HG2.out (grown_cell W2 q 3 (.int .i64 ((i+1:Nat):Int))))
    have HS3:=hid (show ∀ j p,j<i+1→P[j]?=some p→(s p).num=j+2 from fun j x hj hx=>by
     by_cases e:j=i
     ·subst e;rw [HP.out] at hx;cases hx;exact HNU.out
     ·exact HS.out j x (by omega) hx)
    have HM3:=hid (show (match (W2.setCell ⟨q,3,none⟩ (.int .i64 ((i+1:Nat):Int))).cell? ⟨q,3,none⟩ with | some (.int _ z)=>n-z.toNat | _=>0)=n-(i+1) by
     rw [cell_of_row _ _ 3 _ _ _ HQ3.out];simp)
    go_wp2
    exact⟨⟨i+1,by omega,HQ3.out,HG3.out,HS3.out⟩,by rw [HM0.out];have hm:=HM3.out;rw [show ((i+1:Nat):Int)=(i:Int)+1 by omega] at hm;omega⟩
   ·have d2:(((s p).num:Int)==((i+2:Nat):Int))=false:=by rw [beq_eq_false_iff_ne];omega
    have HNOT:=hid (show ∀ x,P[i]?=some x→(s x).num≠i+2 from fun x hx=>by rw [HP.out] at hx;cases hx;exact hnum)
    clear hnum
    go_wp2_with fail
    go_big_quiet ((go_at_call 158;exact Calls.quiet_of_same (numAt_at i (by omega) _)))
    have HB2:=hid (below_drewN (Below.refl wr.heap.size wr) nq)
    have HQ2:=hid (show (World.drewN wr nq).heap[q]?=some (.cells (FlR sz (.slice (some ⟨b,o,none⟩) n c) mb i fd) 130 (0,0)) from HQR.out)
    have HG2:=hid (show w.grownBy (World.drewN wr nq) (some q) from grown_trans HG.out (grown_of_below HB2.out _))
    clear q1 q3 f3 lq
    generalize World.drewN wr nq=W2 at *
    have q3:W2.cell? ⟨q,3,none⟩=some (.int .i64 i):=cell_of_row _ _ 3 _ _ _ HQ2.out
    have f3:=frozen_of_row W2 q 3 _ _ HQ2.out
    have lq:=row_lt HQ2.out
    go_wp2
    go_ret
    exact⟨i,rfl,⟨by rw [← HN.out];exact hi,HS.out,HNOT.out⟩,HQ2.out,HG2.out⟩
  ·have d1:decide ((i:Int)<(n:Int))=false:=by rw [decide_eq_false_iff_not];omega
   have d1':decide (i<n)=false:=decide_eq_false hlt
   have HNOT:=hid (show ∀ x,P[i]?=some x→(s x).num≠i+2 from fun x hx=>by
    have:=(List.getElem?_eq_some_iff.1 hx).1
    rw [← HN.out] at this
    omega)
   go_wp2_with fail
   go_big_quiet ((go_at_call 158;exact Calls.quiet_of_same (numAt_at i (by omega) _)))
   have HB2:=hid (below_drewN (Below.refl wr.heap.size wr) nq)
   have HQ2:=hid (show (World.drewN wr nq).heap[q]?=some (.cells (FlR sz (.slice A n c) mb i fd) 130 (0,0)) from HQR.out)
   have HG2:=hid (show w.grownBy (World.drewN wr nq) (some q) from grown_trans HG.out (grown_of_below HB2.out _))
   clear q1 q3 f3 lq
   generalize World.drewN wr nq=W2 at *
   have q3:W2.cell? ⟨q,3,none⟩=some (.int .i64 i):=cell_of_row _ _ 3 _ _ _ HQ2.out
   have f3:=frozen_of_row W2 q 3 _ _ HQ2.out
   have lq:=row_lt HQ2.out
   go_wp2
   go_ret
   exact⟨i,rfl,⟨by rw [← HN.out];exact hi,HS.out,HNOT.out⟩,HQ2.out,HG2.out⟩
set_option maxHeartbeats 2000000 in
theorem insert_end {X w:World}{A:Option Addr}{n c g p:Nat}{D:List Nat}(hM:MkP X w (.slice A n c) D) (hn:n=D.length) (hm:n≤65536) (hrow:w.heap[g]?=some (.cells (enP p).toArray TP (0,0))) :
  Calls Tryz.prog 159 #[.slice A n c,.int .i64 n,.slice (some ⟨g,0,none⟩) 1 1] w fun e w'=>∃ v,e=.returned v∧MkP X w' v (D++[p])∧∀ c2,w.grownBy w' (Value.slice A n c2).ownBlock:=by
 have HM:=hid hM
 have HN:=hid hn
 have HR:=hid hrow
 have hnc:n≤c:=by
  obtain⟨A',c',e1,h1,_,_⟩:=hM.ls enP_len
  simp only [Value.slice.injEq] at e1
  rw [hn,e1.2.2];exact h1
 clear hM hn hrow
 go_enter Tryz.func159,Tryz.ntmps159
 go_wp2_with (refine wpList_plain rfl (fun K1 hK1=>op_catP HM.out p g 1 HR.out (by have:=HN.out;omega) (.tmp 23) (.tmp 24) rfl rfl rfl (fun v6 w6 hm6 hg6 hat6=>hK1 _ _ ?_));have HM6:=hid hm6;have HG6:=hid (show ∀ c2,w.grownBy w6 (Value.slice A n c2).ownBlock from fun c2=>by cases A<;>exact hg6);clear hm6 hg6 hat6)
 all_goals
  go_wp2_with fail
  go_ret
  exact⟨_,rfl,HM6.out,HG6.out⟩
abbrev TF:TypeId:=130
def Fr (w w':World):Prop:=w.heap.size≤w'.heap.size∧∀ (g:Nat) (cs:Array Value) (t:TypeId) (f:Nat×Nat),t≠T∧t≠TP∧t≠TF→w.heap[g]?=some (.cells cs t f)→w'.heap[g]?=some (.cells cs t f)
theorem Fr.refl (w:World):Fr w w:=⟨Nat.le_refl _,fun _ _ _ _ _ h=>h⟩
theorem Fr.trans {a b c:World}(h:Fr a b) (k:Fr b c):Fr a c:=⟨Nat.le_trans h.1 k.1,fun g cs t f ht hg=>k.2 g cs t f ht (h.2 g cs t f ht hg)⟩
theorem Fr.of_off {n0:Nat}{w w':World}(h:Off n0 w w'):Fr w w':=⟨h.size,fun g cs t f ht hg=>h.row hg ht.1⟩
theorem Fr.of_below {w w':World}(h:Below w.heap.size w w'):Fr w w':=⟨h.size,fun g cs t f ht hg=>(h.block g (row_lt hg)).trans hg⟩
theorem Fr.of_grown {w w':World}{q:Nat}{cs:Array Value}{t:TypeId}{f:Nat×Nat}(h:w.grownBy w' (some q)) (hq:w.heap[q]?=some (.cells cs t f)) (ht:t=T∨t=TP∨t=TF):Fr w w' :=
 ⟨h.size,fun g cs' t' f' ht' hg=>(h.block g (row_lt hg) (fun e=>by
  rw [Option.some.inj e,hq] at hg
  simp only [Option.some.injEq,Obj.cells.injEq] at hg
  rcases ht with h1 | h1 | h1
  ·exact ht'.1 (hg.2.1.symm.trans h1)
  ·exact ht'.2.1 (hg.2.1.symm.trans h1)
  ·exact ht'.2.2 (hg.2.1.symm.trans h1))).trans hg⟩
theorem Fr.of_own {n0:Nat}{w w':World}{v:Value}{D:List Nat}(h:w.grownBy w' v.ownBlock) (ho:OwP n0 w v D):Fr w w':=by
 cases hv:v.ownBlock with
 | none=>rw [hv] at h;exact⟨h.size,fun g cs t f ht hg=>(h.block g (row_lt hg) (by simp)).trans hg⟩
 | some q =>
  rw [hv] at h
  obtain⟨_,cur,hq⟩:=ho.row q hv
  exact Fr.of_grown h hq (.inr (.inl rfl))
theorem Fr.of_map {w w':World}{q mn:Nat}{D:DataW Unit}(h:w.grownBy w' (some q)) (ho:OwM w q mn D):Fr w w':=by
 obtain⟨es,clock,hb,_⟩:=ho
 exact⟨h.size,fun g cs t f ht hg=>(h.block g (row_lt hg) (fun e=>by rw [Option.some.inj e,hb] at hg;cases hg)).trans hg⟩
def hldO (s:Nat→Ob) (E:List Nat):Nat→Ob:=fun p=>(s p).rf ((s p).r+E.count p)
theorem hldO_nil (s:Nat→Ob):hldO s []=s:=by
 funext p
 unfold hldO
 simp [Ob.rf]
theorem hldO_snoc (s:Nat→Ob) (E:List Nat) (z:Nat):upd (hldO s E) z ((hldO s E z).rf ((hldO s E z).r+1))=hldO s (E++[z]):=by
 funext p
 by_cases e:p=z
 ·subst e
  rw [upd_same]
  unfold hldO
  rw [List.count_append,List.count_cons_self,List.count_nil]
  simp only [Ob.rf]
  congr 1
  push_cast
  omega
 ·rw [upd_other e]
  unfold hldO
  rw [List.count_append,List.count_cons_of_ne (Ne.symm e),List.count_nil]
  rfl
theorem numAt_any (i:Nat) (h:i≤65536) (w:World):Calls Tryz.prog 158 #[.int .i64 i] w fun e w'=>e=.returned (.int .u32 ((i+2:Nat):Int))∧w=w':=(numAt_at i h w).mono fun _ _ h=>⟨h.1,h.2.symm⟩
theorem OwP.byF {n0 q:Nat}{w w':World}{v:Value}{D:List Nat}{cs:Array Value}{t:TypeId}{f:Nat×Nat}(h:OwP n0 w v D) (hq:w.heap[q]?=some (.cells cs t f)) (ht:t≠TP) (hg:w.grownBy w' (some q)):OwP n0 w' v D :=
 World.ownsRow.kept h hg (by
  cases hv:v.ownBlock with
  | none=>exact .inl rfl
  | some g =>
   right
   intro e
   obtain⟨_,cur,hg⟩:=h.row g hv
   rw [Option.some.inj e,hq] at hg
   simp only [Option.some.injEq,Obj.cells.injEq] at hg
   exact ht hg.2.1)
theorem OwM.by_ {w w':World}{mb mn:Nat}{D:DataW Unit}{row:Option Nat}(h:OwM w mb mn D) (hg:w.grownBy w' row) (hr:∀ g,row=some g→∃ cs t f,w.heap[g]?=some (.cells cs t f)):OwM w' mb mn D :=
 World.ownsMap.kept h hg (fun e=>by
  obtain⟨cs,t,f,hc⟩:=hr mb e.symm
  obtain⟨es,clock,hb,_⟩:=h
  rw [hb] at hc
  cases hc)
theorem OwM.off {n0 mb mn:Nat}{w w':World}{D:DataW Unit}(h:OwM w mb mn D) (ho:Off n0 w w'):OwM w' mb mn D:=by
 have hlt:=h.lt
 obtain⟨es,clock,hb,rest⟩:=h
 exact⟨es,clock,(ho.block mb hlt (.inr fun cs f e=>by rw [hb] at e;cases e)).trans hb,rest⟩
theorem OwM.ne {w:World}{mb mn q:Nat}{D:DataW Unit}{cs:Array Value}{t:TypeId}{f:Nat×Nat}(h:OwM w mb mn D) (hq:w.heap[q]?=some (.cells cs t f)):mb≠q:=fun e=>by
 obtain⟨es,clock,hb,_⟩:=h
 rw [e,hq] at hb
 cases hb
theorem OwP.byM {n0 mb mn:Nat}{w w':World}{v:Value}{P:List Nat}{D:DataW Unit}(h:OwP n0 w v P) (hm:OwM w mb mn D) (hg:w.grownBy w' (some mb)):OwP n0 w' v P :=
 World.ownsRow.kept h hg (by
  cases hv:v.ownBlock with
  | none=>exact .inl rfl
  | some g =>
   right
   intro e
   obtain⟨_,cur,hg⟩:=h.row g hv
   exact hm.ne hg (Option.some.inj e).symm)
theorem rows_by {w w':World}{P:List Nat}{s:Nat→Ob}{row:Option Nat}(h:Rows w P s) (hg:w.grownBy w' row) (hr:∀ p,At w p (s p)→row≠some p):Rows w' P s:=h.grown hg fun p hp=>hr p (h p hp)
def newO (num:Nat) (d:ByteArray):Ob:=⟨num,d,0,⟨0,[],[],[]⟩,zS,zS,zS,[],zS,0,false⟩
def AdPost (n0:Nat) (w:World) (q sz mb n:Nat) (fd:Int) (P:List Nat) (s:Nat→Ob) (E:List Nat) (d:ByteArray) (e:Ending) (w':World):Prop :=
 e=.returned (.tuple #[.int .u32 ((n+2:Nat):Int),.int .i64 0])∧Below n0 w w'∧Fr w w'∧∃ (pb:Nat) (A:Option Addr) (c:Nat),w'.heap[q]?=some (.cells (FlR sz (.slice A (n+1) c) mb n fd) 130 (0,0))∧OwP n0 w' (.slice A (n+1) c) (P++[pb])∧Rows w' (P++[pb]) (upd (hldO s E) pb (newO (n+2) d))∧pb ∉ P
set_option maxHeartbeats 4000000 in
theorem add_any {n0 q sz mb mn n c nE cE:Nat}{w:World}{A AE:Option Addr}{fd:Int}{D:DataW Unit}{P:List Nat}{s:Nat→Ob}{E:List Nat}(d:ByteArray) (hq:w.heap[q]?=some (.cells (FlR sz (.slice A n c) mb 0 fd) 130 (0,0))) (hn:n=P.length) (hsz:sz≤65536) (hroom:n+2<sz)
  (hO:OwP n0 w (.slice A n c) P) (hH:HpAt n0 w P s) (hn0:n0≤w.heap.size) (hq0:n0≤q) (hgap:∀ j p,P[j]?=some p→(s p).num=j+2) (hM:OwM w mb mn D) (hmn:mn≤65536) (hmb:n0≤mb)
  (hE:Ls enP 1 w w.heap.size AE E) (hnE:nE=E.length) (hEl:nE≤65536) (hEo:OwP n0 w (.slice AE nE cE) E) (hEP:∀ p∈E,p∈P) (hr:∀ p∈P,0≤(s p).r∧(s p).r+E.count p≤16777216) (hd:d.size≤512) :
  Calls Tryz.prog 135 #[.pointer (some ⟨q,0,none⟩),.string d,.slice AE nE cE] w (AdPost n0 w q sz mb n fd P s E d):=by
 have HFG:=hid (firstGap_any hq hn (by omega) hO hH.rows)
 have HN:=hid hn
 have HOO:=hid hO
 have HH:=hid hH
 have HGP:=hid hgap
 have HM:=hid hM
 have HE:=hid hEo
 have HNE:=hid hnE
 have HEP:=hid hEP
 have HRR:=hid hr
 have HQ:=hid hq
 clear hn hO hH hgap hM hE hnE hEo hEP hr hq
 go_enter Tryz.func135,Tryz.ntmps135
 go_wp2_with fail
 refine HFG.out.mono ?_
 rintro e w1 ⟨g,rfl,⟨hg1,hg2,hg3⟩,hq1,hgr1⟩
 have hgn:g=n:=by
  rcases Nat.lt_or_ge g P.length with h | h
  ·have hx:P[g]?=some (P[g]):=List.getElem?_eq_getElem h
   exact absurd (HGP.out g _ hx) (hg3 _ hx)
  ·rw [HN.out];omega
 subst hgn
 have HQ1:=hid hq1
 have HG1:=hid hgr1
 have HO1:=hid (HOO.out.byF HQ.out (by decide) hgr1)
 have HE1:=hid (HE.out.byF HQ.out (by decide) hgr1)
 have HH1:=hid (HH.out.beside HQ.out (by decide) hgr1)
 have HF1:=hid (Fr.of_grown hgr1 HQ.out (.inr (.inr rfl)))
 have HM1:=hid (show OwM w1 mb mn D from World.ownsMap.kept HM.out hgr1 (fun e=>by
  obtain⟨es,clock,hb,_⟩:=HM.out
  rw [Option.some.inj e,HQ.out] at hb
  cases hb))
 have HB1:=hid (show Below n0 w w1 from below_of_grown hgr1 hn0 hq0)
 clear hq1 hgr1 hg1 hg2 hg3 HFG HE HOO HH HM HQ
 have c0:w1.cell? ⟨q,0,none⟩=some (.int .u32 sz):=cell_of_row _ _ 0 _ _ _ HQ1.out
 have l0:=row_lt HQ1.out
 have d1:(((g+2:Nat):Int)==(sz:Int))=false:=by rw [beq_eq_false_iff_ne];omega
 have d2:((g:Int)+2==(sz:Int))=false:=by rw [beq_eq_false_iff_ne];omega
 go_wp2_with (go_at_call 158;refine (numAt_any g (by omega) _).mono ?_;rintro e w2 ⟨rfl,rfl⟩)
 clear c0 d1 d2
 go_loopw [26] (fun v wr=>∃ i:Nat,i≤nE∧v=.int .i64 i∧Hid (HpAt n0 wr P (hldO s (E.take i)))∧Hid (Off n0 w1 wr)) (fun v _=>nE-(intOf v).toNat)
 case atStart=>exact⟨0,Nat.zero_le _,by go_num,by show HpAt n0 w1 P (hldO s []);rw [hldO_nil];exact HH1.out,Off.refl _ _⟩
 case round =>
  obtain⟨i,hi,rfl,hHR,hOR⟩:=hrel
  have HHR:=hid (Hid.out hHR)
  have HOR:=hid (Hid.out hOR)
  clear hHR hOR
  by_cases hlt:i<nE
  ·obtain⟨p,hp⟩:∃ p,E[i]?=some p:=⟨_,List.getElem?_eq_getElem (by rw [← HNE.out];exact hlt)⟩
   have hpP:=HEP.out p (List.mem_of_getElem? hp)
   have hL:=own_ls enP_len (by have:=HOR.out.own (by decide) HE1.out;unfold OwP at this;exact this)
   obtain⟨b,o,hAe,hbs,hr⟩:=hL i p hp
   have hcp:wr.cell? ⟨b,o+i,none⟩=some (.pointer (some ⟨p,0,none⟩)):=by have:=hr 0 _ rfl;rwa [Nat.mul_one] at this
   have HSN:=hid (show upd (hldO s (E.take i)) p ((hldO s (E.take i) p).rf ((hldO s (E.take i) p).r+1))=hldO s (E.take (i+1)) by rw [hldO_snoc,take_snoc hp])
   have hcnt:(E.take i).count p+1≤E.count p:=by
    have h1:(E.take (i+1)).count p≤E.count p:=(List.take_sublist _ _).count_le p
    rw [take_snoc hp,List.count_append,List.count_cons_self,List.count_nil] at h1
    omega
   have hrr:=HRR.out p hpP
   have HHD:=hid (hold_yes HHR.out hpP (by show 0≤(s p).r+((E.take i).count p:Int);omega) (by show (s p).r+((E.take i).count p:Int)<16777216;omega))
   clear hL hr hp hcnt hrr hpP
   subst hAe
   go_wp2_with (go_at_call 48;refine HHD.out.mono ?_;rintro e w2 ⟨rfl,hH2,ho2⟩;have HH2:=hid (show HpAt n0 w2 P (hldO s (E.take (i+1))) by rw [← HSN.out];exact hH2);have HO2:=hid (HOR.out.trans ho2);clear hH2 ho2)
   exact⟨⟨i+1,by omega,by go_num,HH2.out,HO2.out⟩,by simp [intOf]<;>omega⟩
  ·have hin:i=nE:=by omega
   have HT:=hid (show E.take i=E by rw [hin,HNE.out,List.take_length])
   clear hin
   have HH3:=hid (show HpAt n0 wr P (hldO s E) by have:=HHR.out;rwa [HT.out] at this)
   have HQ3:=hid (HOR.out.row HQ1.out (by decide))
   have HO3:=hid (show OwP n0 wr (.slice A g c) P from HOR.out.own (by decide) HO1.out)
   have HM3:=hid (HM1.out.off HOR.out)
   have q1:wr.cell? ⟨q,1,none⟩=some (.slice A g c):=cell_of_row _ _ 1 _ _ _ HQ3.out
   have lq:=row_lt HQ3.out
   have HB3:=hid (HB1.out.trans (HOR.out.below (Nat.le_trans hn0 HB1.out.size)))
   have HF3:=hid (HF1.out.trans (Fr.of_off HOR.out))
   have HZ3:=hid (show n0≤wr.heap.size from Nat.le_trans hn0 HB3.out.size)
   obtain⟨R1,R2,S0,Z0⟩:=two_new wr (ecO (newO (g+2) d)).toArray (enP wr.heap.size).toArray T TP
   have HR1:=hid R1
   have HR2:=hid R2
   have HS:=hid S0
   clear R1 R2 S0 Z0 HHR HH1 HO1 HQ1 HE1 HRR HGP
   go_wp2_with fail
   change Calls _ _ _ ((wr.alloc (.cells (ecO (newO (g+2) d)).toArray T)).alloc (.cells (enP wr.heap.size).toArray TP)) _
   generalize (wr.alloc (.cells (ecO (newO (g+2) d)).toArray T)).alloc (.cells (enP wr.heap.size).toArray TP)=W4 at *
   have HO4:=hid (own_go HO3.out HS.out)
   obtain⟨X,hXs,hMX⟩:=OwP.mk HO4.out (Nat.le_trans HZ3.out HS.out.size)
   have HXX:=hid hXs
   have HINS:=hid (insert_end hMX HN.out (by omega) HR2.out)
   have HPN:=hid (show wr.heap.size ∉ P from fun h=>Nat.lt_irrefl _ (HH3.out.lt h))
   have HPL:=hid (fun p (hp:p∈P)=>HH3.out.lt hp)
   clear hXs hMX q1 lq
   refine HINS.out.mono ?_
   rintro e w5 ⟨v5,rfl,hm5,hg5⟩
   obtain⟨A5,n5,c5,rfl,hn5⟩:∃ A n c,v5=.slice A n c∧n=(P++[wr.heap.size]).length:=(by obtain⟨A,c,h,_⟩:=hm5.ls enP_len;exact⟨A,_,c,h,rfl⟩)
   have hn51:n5=g+1:=by rw [hn5,List.length_append,← HN.out];rfl
   subst hn51
   have hlo:∀ g',(Value.slice A g c).ownBlock=some g'→n0≤g'∧∃ cur,W4.heap[g']?=some (.cells cur TP (0,0)):=OwP.row HO4.out
   have hkeep:∀ {g':Nat}{cs:Array Value}{t:TypeId}{f:Nat×Nat},W4.heap[g']?=some (.cells cs t f)→t≠TP→w5.heap[g']?=some (.cells cs t f):=fun {g' cs t f} hh ht=>((hg5 c).block g' (row_lt hh) (fun e=>by
    obtain⟨_,cur,h2⟩:=hlo g' e.symm
    rw [hh] at h2
    simp only [Option.some.injEq,Obj.cells.injEq] at h2
    exact ht h2.2.1)).trans hh
   have HQ5:=hid (hkeep ((HS.out.block _ (row_lt HQ3.out)).trans HQ3.out) (by decide))
   have HO5:=hid (show OwP n0 w5 (.slice A5 (g+1) c5) (P++[wr.heap.size]) by have:=hm5.1;rw [HXX.out] at this;exact this)
   have HM5:=hid (OwM.by_ (HM3.out.go HS.out) (hg5 c) (fun g' e=>by obtain⟨_,cur,h2⟩:=hlo g' e;exact⟨cur,TP,_,h2⟩))
   have HRW5:=hid (show Rows w5 (P++[wr.heap.size]) (upd (hldO s E) wr.heap.size (newO (g+2) d)) from fun p hp=>by
    rcases List.mem_append.1 hp with h1 | h1
    ·have hne:p≠wr.heap.size:=fun e=>HPN.out (e▸h1)
     rw [upd_other hne]
     exact hkeep ((HS.out.block p (HPL.out p h1)).trans (HH3.out.row p h1)) (by decide)
    ·rw [List.mem_singleton.1 h1,upd_same]
     exact hkeep HR1.out (by decide))
   have HB5:=hid (show Below n0 w w5 from (HB3.out.trans (HS.out.mono HZ3.out)).trans ⟨(hg5 c).os,(hg5 c).tape,(hg5 c).output,(hg5 c).size,fun k hk=>(hg5 c).block k (Nat.lt_of_lt_of_le hk (Nat.le_trans HZ3.out HS.out.size)) (fun e=>by have:=(hlo k e.symm).1;omega)⟩)
   have HF5:=hid ((HF3.out.trans (Fr.of_below HS.out)).trans (Fr.of_own (hg5 c) HO4.out))
   clear hkeep hlo hm5 hg5 hn5 HINS
   have k1:w5.cell? ⟨q,1,none⟩=some (.slice A g c):=cell_of_row _ _ 1 _ _ _ HQ5.out
   have f1:=frozen_of_row w5 q 1 _ _ HQ5.out
   have l5:=row_lt HQ5.out
   have HQ6:=hid (row_set (cs:=[.int .u32 sz,.slice A g c,.map (some mb),.int .i64 g,.int .i64 fd]) (i:=1) (u:=.slice A5 (g+1) c5) HQ5.out)
   have HM6:=hid (OwM.by_ HM5.out (grown_cell w5 q 1 (.slice A5 (g+1) c5)) (fun g' e=>by cases e;exact⟨_,_,_,HQ5.out⟩))
   have m6:(w5.setCell ⟨q,1,none⟩ (.slice A5 (g+1) c5)).cell? ⟨q,2,none⟩=some (.map (some mb)):=cell_of_row _ _ 2 _ _ _ HQ6.out
   have l6:q<(w5.setCell ⟨q,1,none⟩ (.slice A5 (g+1) c5)).heap.size:=row_lt HQ6.out
   have HKEY:=hid (key_of (d:=d) (by unfold maxLen;omega))
   have HWF:=hid (u32_wf (n:=g+2) (by omega))
   go_wp2_with (at_mapUpdate;refine wpList_mapUpdate_own _ rfl _ _ _ 127 rfl 9 22 kLaw Tryz.underlying127 _ mb mn _ rfl HM6.out (by unfold maxLen;omega) _ _ _ rfl rfl HKEY.out _ [] (plainElem_int Tryz.underlying22 HWF.out) ?_;intro w7 hown7 hgrow7;have HG7:=hid hgrow7;clear hown7 hgrow7)
   go_ret2
   have ho6:OwP n0 (w5.setCell ⟨q,1,none⟩ (.slice A5 (g+1) c5)) (.slice A5 (g+1) c5) (P++[wr.heap.size]):=HO5.out.cell HQ5.out (by decide)
   have hr6:Rows (w5.setCell ⟨q,1,none⟩ (.slice A5 (g+1) c5)) (P++[wr.heap.size]) (upd (hldO s E) wr.heap.size (newO (g+2) d)):=rows_by HRW5.out (grown_cell w5 q 1 (.slice A5 (g+1) c5)) (fun p hp e=>by
    unfold At at hp
    rw [← Option.some.inj e,HQ5.out] at hp
    simp only [Option.some.injEq,Obj.cells.injEq] at hp
    exact absurd hp.2.1 (by decide))
   have hz6:w5.heap.size≤(w5.setCell ⟨q,1,none⟩ (.slice A5 (g+1) c5)).heap.size:=(grown_cell w5 q 1 (.slice A5 (g+1) c5)).size
   have hb6:Below n0 w (w5.setCell ⟨q,1,none⟩ (.slice A5 (g+1) c5)):=HB5.out.trans (below_of_grown (grown_cell w5 q 1 (.slice A5 (g+1) c5)) (Nat.le_trans hn0 HB5.out.size) hq0)
   exact⟨rfl,hb6.trans (below_of_grown HG7.out (Nat.le_trans hn0 hb6.size) hmb),(HF5.out.trans (Fr.of_grown (grown_cell w5 q 1 (.slice A5 (g+1) c5)) HQ5.out (.inr (.inr rfl)))).trans (Fr.of_map HG7.out HM6.out),
    wr.heap.size,A5,c5,(HG7.out.block q (row_lt HQ6.out) (fun e=>HM6.out.ne HQ6.out (Option.some.inj e).symm)).trans HQ6.out,ho6.byM HM6.out HG7.out,rows_by hr6 HG7.out (fun p hp e=>by unfold At at hp;exact HM6.out.ne hp (Option.some.inj e)),HPN.out⟩
open Go.Proofs.YtlpejbbmemhloaaGreatDoor.Rg (take_at only_H)
open Pk (u8s u8s_length)
open Hk (sum_lit)
def nmsN (nd:Nd):List Nat:=(nmN nd).map (·.n)
def putN (L:List Ce) (nd:Nd):Nat:=match fstC L (encB nd).data.toList with | some c=>c.num | none=>L.length+2
def putL (L:List Ce) (nd:Nd):List Ce:=match fstC L (encB nd).data.toList with | some _=>L | none=>(L.map fun c=>⟨c.num,c.d,c.r+(nmsN nd).count c.num⟩)++[⟨L.length+2,encB nd,0⟩]
def KdM (n0:Nat) (w':World) (q sz mb:Nat) (M:List Ce):Prop :=
 ∃ (A:Option Addr) (n c fl:Nat) (P:List Nat) (s:Nat→Ob),w'.heap[q]?=some (.cells (FlR sz (.slice A n c) mb fl 0) 130 (0,0))∧OwP n0 w' (.slice A n c) P∧Rows w' P s∧P.length≤65537∧plL P s=M
def kidO (L:List Ce) (nd:Nd):Kd:=⟨⟨#[]⟩,putN L nd,hsD (encB nd)⟩
def KdPost (n0:Nat) (w:World) (q sz mb:Nat) (L:List Ce) (nd:Nd) (e:Ending) (w':World):Prop :=
 e=.returned (.tuple #[.agg (ecK (kidO L nd)).toArray,.int .i64 0])∧Below n0 w w'∧Fr w w'∧KdM n0 w' q sz mb (putL L nd)
theorem Fr.newRow {w W:World}{g:Nat}(h:Fr w W) (hg:w.heap.size≤g) (cs:Array Value):Fr w (W.setRow g cs) :=
 ⟨Nat.le_trans h.1 (grown_row W g cs).size,fun k ks t f ht hk=>row_other (grown_row W g cs) (h.2 k ks t f ht hk) (by have:=row_lt hk;omega)⟩
theorem KdM.go {n0 q sz mb:Nat}{w w':World}{M:List Ce}(h:KdM n0 w q sz mb M) (hb:Below w.heap.size w w'):KdM n0 w' q sz mb M:=by
 obtain⟨A,n,c,fl,P,s,h1,h2,h3,h4,h5⟩:=h
 exact⟨A,n,c,fl,P,s,(hb.block _ (row_lt h1)).trans h1,own_go h2 hb,h3.below hb,h4,h5⟩
theorem KdM.by_ {n0 q sz mb g:Nat}{w w':World}{M:List Ce}{cs:Array Value}{t:TypeId}{f:Nat×Nat}(h:KdM n0 w q sz mb M) (hg:w.heap[g]?=some (.cells cs t f)) (ht:t≠T∧t≠TP∧t≠TF) (hb:w.grownBy w' (some g)):KdM n0 w' q sz mb M:=by
 obtain⟨A,n,c,fl,P,s,h1,h2,h3,h4,h5⟩:=h
 refine⟨A,n,c,fl,P,s,row_other hb h1 (fun e=>?_),h2.byF hg ht.2.1 hb,rows_by h3 hb (fun p hp e=>?_),h4,h5⟩
 ·rw [e,hg] at h1
  simp only [Option.some.injEq,Obj.cells.injEq] at h1
  exact ht.2.2 h1.2.1
 ·unfold At at hp
  rw [← Option.some.inj e,hg] at hp
  simp only [Option.some.injEq,Obj.cells.injEq] at hp
  exact ht.1 hp.2.1
theorem plL_new {P:List Nat}{s u:Nat→Ob}{E:List Nat}{nd:Nd}{pb k:Nat}{d:ByteArray}(hce:∀ p,ceO (u p)=ceO (s p)∧(u p).gn=(s p).gn∧(u p).r=(s p).r∧(u p).num=(s p).num) (hgn:∀ p∈P,(s p).gn=false) (hpb:pb ∉ P) (hc:∀ p∈P,E.count p=(nmsN nd).count (s p).num) :
  plL (P++[pb]) (upd (hldO u E) pb (newO k d))=((P.map fun p=>ceO (s p)).map fun c=>(⟨c.num,c.d,c.r+(nmsN nd).count c.num⟩:Ce))++[⟨k,d,0⟩]:=by
 have h1:∀ p∈P,upd (hldO u E) pb (newO k d) p=hldO u E p:=fun p hp=>upd_other (fun e=>hpb (e▸hp))
 rw [plL_live (P:=P++[pb]) (s:=upd (hldO u E) pb (newO k d)) (fun p hp=>by
  rcases List.mem_append.1 hp with h2 | h2
  ·rw [h1 p h2]
   show (u p).gn=false
   rw [(hce p).2.1];exact hgn p h2
  ·rw [List.mem_singleton.1 h2,upd_same];rfl)]
 rw [List.map_append,List.map_map]
 have h3:(P.map fun p=>ceO (upd (hldO u E) pb (newO k d) p))=P.map ((fun c=>(⟨c.num,c.d,c.r+(nmsN nd).count c.num⟩:Ce))∘fun p=>ceO (s p)):=by
  apply List.map_congr_left
  intro p hp
  rw [h1 p hp]
  have h4:=(hce p).1
  unfold ceO at h4
  simp only [Ce.mk.injEq] at h4
  show (⟨(u p).num,(u p).d,(u p).r+E.count p⟩:Ce)=⟨(s p).num,(s p).d,(s p).r+(nmsN nd).count (s p).num⟩
  rw [hc p hp,h4.1,h4.2.1,h4.2.2]
 rw [h3]
 congr 1
 rw [List.map_cons,List.map_nil,upd_same]
 rfl
theorem names_num {s:Nat→Ob}{P:List Nat}{D:List Kd}(h:allF s P D=true):(psF s P D).map (fun p=>(s p).num)=D.map (·.n):=by
 unfold allF at h
 unfold psF
 induction D with
 | nil=>rfl
 | cons k D ih =>
  rw [List.all_cons,Bool.and_eq_true] at h
  obtain⟨q,hq⟩:=Option.isSome_iff_exists.1 h.1
  rw [List.filterMap_cons,hq,List.map_cons,List.map_cons,(fndP_some hq).2,ih h.2]
abbrev zKd:Array Value:=#[.string ⟨#[]⟩,.int .u32 0,.int .u8 0,.int .u8 0,.int .u8 0,.int .u8 0,.int .u8 0,.int .u8 0,.int .u8 0,.int .u8 0,.int .u8 0,.int .u8 0,.int .u8 0,.int .u8 0,.int .u8 0,.int .u8 0,.int .u8 0,.int .u8 0,.int .u8 0,.int .u8 0,.int .u8 0,.int .u8 0,.int .u8 0,.int .u8 0,.int .u8 0,.int .u8 0,.int .u8 0,.int .u8 0,.int .u8 0,.int .u8 0,.int .u8 0,.int .u8 0,.int .u8 0,.int .u8 0]
set_option maxHeartbeats 8000000 in
theorem kid_any {tK tS:TypeId}{n0 q sz mb mn nP cP:Nat}{w:World}{AP:Option Addr}{D:DataW Unit}{P:List Nat}{s:Nat→Ob}{L:List Ce}(hk:Kc tK tS n0 w) (hn0:n0≤w.heap.size) (hq0:n0≤q) (hq:w.heap[q]?=some (.cells (FlR sz (.slice AP nP cP) mb 0 0) 130 (0,0)))
  (htk:Tk n0 w (.slice AP nP cP) P s L) (hsz:sz≤65536) (hmb:n0≤mb) (hM:OwM w mb mn D) (hmn:mn≤65536) (hMp:MpI D L)
  (nd:Nd) (hw:Wd nd) (hck:ckN nd=0) (hg:goodF s P (nmN nd)=true) (cs:Array Value) (hN:NdAt w cs nd)
  (hnew:fstC L (encB nd).data.toList=none→(∀ j c,L[j]?=some c→c.num=j+2)∧L.length+2<sz∧∀ c∈L,c.r+(nmsN nd).count c.num≤16777216) :
  Calls Tryz.prog 101 #[.pointer (some ⟨q,0,none⟩),.agg cs] w (KdPost n0 w q sz mb L nd):=by
 have HFW:=hid (rt_few (ck_zero.1 hck).1)
 have HNA:=hid hN
 obtain⟨AI,nI,cI,AK,nK,cK,AV,nV,cV,rfl,hrest⟩:=hN
 clear hrest
 obtain⟨R1,R2,S0,Z0⟩:=two_new w #[.int .u8 nd.kd,.slice AI nI cI,.slice AK nK cK,.slice AV nV cV] zKd 31 45
 have HNB:=hid R1
 have HKB:=hid R2
 have HS:=hid S0
 have HCK:=hid hck
 have HEN:=hid (fun W (hb:Below w.heap.size w W)=>show Calls Tryz.prog 29 #[.agg #[.int .u8 nd.kd,.slice AI nI cI,.slice AK nK cK,.slice AV nV cV]] W fun e w'=>e=.returned (.tuple #[.string (encB nd),.int .i64 0])∧Below W.heap.size W w' by have:=encode_any nd hw #[.int .u8 nd.kd,.slice AI nI cI,.slice AK nK cK,.slice AV nV cV] W (HNA.out.below hb);rw [hck] at this;exact this)
 have HTK:=hid htk
 have HQ:=hid hq
 have HK:=hid hk
 have HM:=hid hM
 have HMP:=hid hMp
 have HG:=hid hg
 have HNW:=hid hnew
 have HLE:=hid (show (encB nd).size≤512 by
  rw [encB_yes hck]
  have:=(enc_len hw hck).1
  simpa [bs_size] using this)
 have HDS:=hid (fun (W:World) (hK:Kc tK tS n0 W)=>show Calls Tryz.prog 30 #[.string (encB nd)] W fun e w'=>∃ C,C=(u8s (hsD (encB nd))).toArray∧e=.returned (.agg C)∧Below W.heap.size W w' from sum_lit (tK:=tK) (tS:=tS) (encB nd) (by have:=HLE.out;omega) W hK.r hK.i)
 have HWD:=hid hw
 have HLS:=hid (decN_small (dec_enc hw hck)).2
 clear R1 R2 S0 Z0 htk hq hk hM hMp hg hnew hw hck
 go_enter Tryz.func101,Tryz.ntmps101
 go_wp2_with fail
 change Calls _ _ _ ((w.alloc (.cells #[.int .u8 nd.kd,.slice AI nI cI,.slice AK nK cK,.slice AV nV cV] 31)).alloc (.cells zKd 45)) _
 generalize (w.alloc (.cells #[.int .u8 nd.kd,.slice AI nI cI,.slice AK nK cK,.slice AV nV cV] 31)).alloc (.cells zKd 45)=W1 at *
 refine (HEN.out W1 HS.out).mono ?_
 rintro e w2 ⟨rfl,hb2⟩
 have HB2:=hid (HS.out.trans ((hb2.mono HS.out.size).trans (show Below w.heap.size w2 w2.drew from (Below.refl _ _).drew)))
 have HNR2:=hid (show w2.drew.heap[w.heap.size]?=some (.cells #[.int .u8 nd.kd,.slice AI nI cI,.slice AK nK cK,.slice AV nV cV] 31 (0,0)) from (hb2.block _ (row_lt HNB.out)).trans HNB.out)
 have HKB2:=hid (show w2.drew.heap[w.heap.size+1]?=some (.cells zKd 45 (0,0)) from (hb2.block _ (row_lt HKB.out)).trans HKB.out)
 have HNB2:=hid (show w2.drew.rangeAt w.heap.size 0 [.int .u8 nd.kd,.slice AI nI cI,.slice AK nK cK,.slice AV nV cV] from rangeAt_row HNR2.out (fun j v hv=>by rw [Nat.zero_add];simpa using hv))
 have HTK2:=hid (HTK.out.go HB2.out)
 have HQ2:=hid ((HB2.out.block _ (row_lt HQ.out)).trans HQ.out)
 have HK2:=hid (HK.out.below ⟨HB2.out.os,HB2.out.tape,HB2.out.output,HB2.out.size,fun k hk=>HB2.out.block k (by omega)⟩)
 have HZ2:=hid (Nat.le_trans hn0 HB2.out.size)
 have HBL:=hid (below_any (HTK2.out.wk HQ2.out (by decide) rfl) HK2.out HZ2.out (fun p hp=>by have:=isN_size (HTK2.out.isn p hp);omega) (fun p hp=>by have:=(HTK2.out.ale hp).1;omega) nd HWD.out HLS.out.2.1 HLS.out.2.2 #[.int .u8 nd.kd,.slice AI nI cI,.slice AK nK cK,.slice AV nV cV] (HNA.out.below HB2.out))
 clear hb2 HEN HNB HKB HTK HQ
 go_wp2_with fail
 refine wp_region_held_drew (S:=fun w':World=>w'.rangeAt w.heap.size 0 [.int .u8 nd.kd,.slice AI nI cI,.slice AK nK cK,.slice AV nV cV]) (by kernel_rfl) HNB2.out (fun hHeld=>?_)
 generalize hw2d:w2.drew=w2d at *
 have hS:(fun w':World=>w'.rangeAt w.heap.size 0 [.int .u8 nd.kd,.slice AI nI cI,.slice AK nK cK,.slice AV nV cV]) w2d:=HNB2.out
 clear hHeld
 refine take_at 0 21 (.pointer (some ⟨q,0,none⟩)) rfl (by rfl) (by kernel_rfl) (by kernel_rfl) (by kernel_rfl) (fun _ _ _ h=>h) (Or.inl ⟨by rfl,fun w' hSw=>by go_simp⟩) hS ?_
 simp only [Gb3a,Gb3b,Gb3c]
 refine take_at 1 22 (.pointer (some ⟨q,0,none⟩)) rfl (by rfl) (by kernel_rfl) (by kernel_rfl) (by kernel_rfl) (fun _ _ _ h=>h) (Or.inl ⟨by rfl,fun w' hSw=>by go_simp⟩) hS ?_
 simp only [Gb3a,Gb3b,Gb3c]
 refine take_at 2 23 (.pointer (some ⟨q,0,none⟩)) rfl (by rfl) (by kernel_rfl) (by kernel_rfl) (by kernel_rfl) (fun _ _ _ h=>h) (Or.inl ⟨by rfl,fun w' hSw=>by go_simp⟩) hS ?_
 simp only [Gb3a,Gb3b,Gb3c]
 refine take_at 3 24 (.agg #[.int .u8 nd.kd,.slice AI nI cI,.slice AK nK cK,.slice AV nV cV]) rfl (by rfl) (by kernel_rfl) (by kernel_rfl) (by kernel_rfl) (fun _ _ _ h=>h) (yieldsIf_load_mid (by rfl) 31 (.tmp 3) rfl w.heap.size 0 rfl [.int .u8 nd.kd,.slice AI nI cI,.slice AK nK cK,.slice AV nV cV] _ (fun w' hSw=>hSw) Tryz.underlying31 rfl info4n) hS ?_
 simp only [Gb3a,Gb3b,Gb3c]
 refine only_H 4 rfl (by kernel_rfl) (by rfl) (fun K hK=>?_)
 go_wp2_with fail
 go_at_call 91
 refine HBL.out.mono ?_
 rintro e w3 ⟨E,u,v3,z3,rfl,hH3,ho3,hu3,⟨A3,n3,c3,rfl⟩,hz3⟩
 have HALL:=hid (good_all HG.out)
 have hz0:z3=0∧E=psF s P (nmN nd)∧OwP w2d.heap.size w3 (.slice A3 n3 c3) E:=by
  rcases hz3 with ⟨_,hf⟩ | ⟨_,hz,hE,hO⟩
  ·rw [HALL.out] at hf;cases hf
  ·rw [HG.out] at hz;exact⟨hz,hE,hO⟩
 obtain⟨rfl,hE,hO3⟩:=hz0
 have HE:=hid hE
 have HOE:=hid hO3
 have HH3:=hid hH3
 have HF3:=hid ho3
 have HU3:=hid hu3
 have HNR3:=hid (ho3.row HNR2.out (by decide))
 have HKB3:=hid (ho3.row HKB2.out (by decide))
 have hS2:(fun w':World=>w'.rangeAt w.heap.size 0 [.int .u8 nd.kd,.slice AI nI cI,.slice AK nK cK,.slice AV nV cV]) w3:=rangeAt_row HNR3.out (fun j v hv=>by rw [Nat.zero_add];simpa using hv)
 clear hz3 hH3 ho3 hu3 hE hO3
 refine hK.out _ _ hS2 ?_
 clear hK K hS
 have hS:=hS2
 clear hS2
 try simp only [Act.put,Gb3a,Gb3b,Gb3c]
 refine take_at 5 20 (.tuple #[.slice A3 n3 c3,.int .i64 0]) rfl (by rfl) (by kernel_rfl) (by kernel_rfl) (by kernel_rfl) (fun _ _ _ h=>h) (Or.inl ⟨by rfl,fun w' hSw=>by go_simp⟩) hS ?_
 simp only [Gb3a,Gb3b,Gb3c]
 refine take_at 6 26 (.slice A3 n3 c3) rfl (by rfl) (by kernel_rfl) (by kernel_rfl) (by kernel_rfl) (fun _ _ _ h=>h) (Or.inl ⟨by rfl,fun w' hSw=>by go_simp⟩) hS ?_
 simp only [Gb3a,Gb3b,Gb3c]
 refine take_at 7 27 (.int .i64 0) rfl (by rfl) (by kernel_rfl) (by kernel_rfl) (by kernel_rfl) (fun _ _ _ h=>h) (Or.inl ⟨by rfl,fun w' hSw=>by go_simp⟩) hS ?_
 simp only [Gb3a,Gb3b,Gb3c]
 refine take_at 8 8 (.slice A3 n3 c3) rfl (by rfl) (by kernel_rfl) (by kernel_rfl) (by kernel_rfl) (fun _ _ _ h=>h) (Or.inl ⟨by rfl,fun w' hSw=>by go_simp⟩) hS ?_
 simp only [Gb3a,Gb3b,Gb3c]
 refine take_at 9 7 (.int .i64 0) rfl (by rfl) (by kernel_rfl) (by kernel_rfl) (by kernel_rfl) (fun _ _ _ h=>h) (Or.inl ⟨by rfl,fun w' hSw=>by go_simp⟩) hS ?_
 simp only [Gb3a,Gb3b,Gb3c]
 refine wpAnyH_done (by kernel_rfl) ?_ _
 have HQ3:=hid (HF3.out.row HQ2.out (by decide))
 have m2:w3.cell? ⟨q,2,none⟩=some (.map (some mb)):=cell_of_row _ _ 2 _ _ _ HQ3.out
 have l3:=row_lt HQ3.out
 have HM3:=hid ((HM.out.go HB2.out).off HF3.out)
 have HK3:=hid (HK2.out.off HF3.out)
 have HKEY:=hid (key_of (d:=encB nd) (by unfold maxLen;have:=HLE.out;omega))
 have HHAS:=hid (HMP.out.has (encB nd).data.toList)
 have HHL:=hid (hsD_len (encB nd))
 have HB3:=hid (show Below n0 w w3 from (show Below n0 w w2d from⟨HB2.out.os,HB2.out.tape,HB2.out.output,HB2.out.size,fun k hk=>HB2.out.block k (by omega)⟩).trans (HF3.out.below HZ2.out))
 have HR3:=hid ((Fr.of_below HB2.out).trans (Fr.of_off HF3.out))
 have HOP3:=hid (show OwP n0 w3 (.slice AP nP cP) P from HF3.out.own (by decide) HTK2.out.own)
 have HCE:=hid (show ∀ p,ceO (u p)=ceO (s p)∧(u p).gn=(s p).gn∧(u p).r=(s p).r∧(u p).num=(s p).num from fun p=>by rw [HU3.out];exact⟨rfl,rfl,rfl,rfl⟩)
 have HPNL:=hid (show nP=P.length by
  obtain⟨A',c',h,_⟩:=HTK2.out.own.ls
  simp only [Value.slice.injEq] at h
  exact h.2.1)
 clear HBL HNA HNB2 HNR2 HNR3 HKB2 HQ2 HM hS
 cases hf:fstC L (encB nd).data.toList with
 | some c0 =>
  have hh:Maps.has D (.string (encB nd).data.toList)=true:=by rw [HHAS.out,hf];rfl
  have HAT:=hid (HMP.out.at_ _ c0 hf (.lit (.int .u32 0)))
  have HPU:=hid (show putN L nd=c0.num∧putL L nd=L by unfold putN putL;rw [hf];exact⟨rfl,rfl⟩)
  obtain⟨y,hy⟩:∃ y:Kd,kidO L nd=y:=⟨_,rfl⟩
  have HY:=hid hy
  have hb1:=kid_built y (by rw [← hy];rfl) (by rw [← hy];exact HHL.out)
  rw [show y.n=c0.num by rw [← hy];exact HPU.out.1,show y.hs=hsD (encB nd) by rw [← hy];rfl] at hb1
  have hz1:(u8s (hsD (encB nd))).length=32:=by rw [u8s_length,HHL.out]
  have hz2:(hsD (encB nd)).length=32:=HHL.out
  have HSZY:=hid (show zKd.size=(ecK y).toArray.size from (show zKd.size=34 from rfl).trans (ecK_sz y))
  clear hf hy HNW
  go_wp2_with (at_lookup;refine wpList_lookup_own_ok_int _ rfl _ _ 127 rfl 9 22 .u32 kLaw Tryz.underlying127 Tryz.underlying22 (zeroU _) mb mn D rfl HM3.out _ _ rfl HKEY.out ?_;intro vv hat hwc;have h2:=HAT.out.symm.trans hat;go_loud (simp only [DataW.lit.injEq,Lit.int.injEq,true_and] at h2);subst h2;clear hat hwc)
  have HKD:=hid (show KdM n0 w3 q sz mb (putL L nd) from⟨AP,nP,cP,0,P,u,HQ3.out,HOP3.out,HH3.out.rows,by have:=HTK2.out.len;omega,by
   rw [HPU.out.2,plL_live (fun p hp=>by rw [(HCE.out p).2.1];exact HTK2.out.gn p hp),HTK2.out.lst]
   apply List.map_congr_left
   intro p _
   exact (HCE.out p).1⟩)
  refine (HDS.out _ HK3.out).mono ?_
  rintro e w6 ⟨C,rfl,rfl,hb6⟩
  have HB6:=hid hb6
  have HKB6:=hid ((hb6.block _ (row_lt HKB3.out)).trans HKB3.out)
  clear hb6
  go_wp2_with (refine wpList_store_row rfl 45 (.tmp 4) (.tmp 57) rfl (w.heap.size+1) (ecK y).toArray rfl rfl 45 _ HKB6.out (infoKa y) HSZY.out (all_of_one (ecK_one y)) ?_)
  refine bodyPost_ret (v:=.tuple #[.agg (ecK y).toArray,.int .i64 0]) (results_row2 rfl _ _ (w.heap.size+1) 45 (ecK y).toArray (0,0) _ rfl (setRow_at HKB6.out) Tryz.underlying45 rfl (infoKa y) _ rfl) rfl ?_
  have hz6:w.heap.size≤w6.heap.size:=Nat.le_trans HR3.out.1 HB6.out.size
  have hbb:Below n0 w w6:=HB3.out.trans (HB6.out.mono (Nat.le_trans hn0 HR3.out.1))
  exact⟨by rw [HY.out],hbb.trans (below_of_grown (grown_row _ _ _) (Nat.le_trans hn0 hz6) (by omega)),(HR3.out.trans (Fr.of_below HB6.out)).newRow (Nat.le_succ _) _,((HKD.out.go HB6.out).by_ HKB6.out (by decide) (grown_row _ _ _))⟩
 | none =>
  have hh:Maps.has D (.string (encB nd).data.toList)=false:=by rw [HHAS.out,hf];rfl
  have HPU:=hid (show putN L nd=nP+2∧putL L nd=(L.map fun c=>⟨c.num,c.d,c.r+(nmsN nd).count c.num⟩)++[⟨nP+2,encB nd,0⟩] by
   unfold putN putL
   rw [hf,HTK2.out.lst,List.length_map,← HPNL.out]
   exact⟨rfl,rfl⟩)
  obtain⟨hw1,hw2,hw3⟩:=HNW.out hf
  have hLl:L.length=nP:=by rw [HTK2.out.lst,List.length_map,HPNL.out]
  have HCNT:=hid (show ∀ p∈P,E.count p=(nmsN nd).count (s p).num from fun p hp=>by
   unfold nmsN
   rw [← names_num HALL.out,HE.out]
   exact (count_map_inj (f:=fun q=>(s q).num) fun q hq e=>up_inj HTK2.out.up (psF_mem q hq) hp e).symm)
  have hEl:n3=E.length:=by
   obtain⟨A',c',h,_⟩:=OwP.ls HOE.out
   simp only [Value.slice.injEq] at h
   exact h.2.1
  have hE255:E.length≤65536:=by
   have h1:E.length≤(nmN nd).length:=by rw [HE.out];exact psF_len _ _ _
   have h2:=nmN_le HLS.out.2.1 HLS.out.2.2
   omega
  have HAD:=hid (add_any (E:=E) (s:=u) (encB nd) HQ3.out HPNL.out hsz (by omega) HOP3.out HH3.out (Nat.le_trans HZ2.out HF3.out.size) hq0 (fun j p hp=>by
    rw [(HCE.out p).2.2.2]
    exact hw1 j (ceO (s p)) (by rw [HTK2.out.lst,List.getElem?_map,hp];rfl)) HM3.out hmn hmb (own_ls enP_len (by have:=HOE.out;unfold OwP at this;exact this)) hEl (by omega) (World.ownsRow.mono HOE.out HZ2.out) (fun p hp=>by rw [HE.out] at hp;exact psF_mem p hp) (fun p hp=>by
    have h1:=HTK2.out.ale hp
    have h2:=hw3 (ceO (s p)) (by rw [HTK2.out.lst];exact List.mem_map.2 ⟨p,hp,rfl⟩)
    rw [(HCE.out p).2.2.1,HCNT.out p hp]
    exact⟨h1.2,h2⟩) HLE.out)
  obtain⟨y,hy⟩:∃ y:Kd,kidO L nd=y:=⟨_,rfl⟩
  have HY:=hid hy
  have hb1:=kid_built y (by rw [← hy];rfl) (by rw [← hy];exact HHL.out)
  obtain⟨k2,hk2⟩:∃ k2:Nat,nP+2=k2:=⟨_,rfl⟩
  have HK2N:=hid hk2
  rw [show y.n=k2 by rw [← hy,← hk2];exact HPU.out.1,show y.hs=hsD (encB nd) by rw [← hy];rfl] at hb1
  have hz1:(u8s (hsD (encB nd))).length=32:=by rw [u8s_length,HHL.out]
  have hz2:(hsD (encB nd)).length=32:=HHL.out
  have HSZY:=hid (show zKd.size=(ecK y).toArray.size from (show zKd.size=34 from rfl).trans (ecK_sz y))
  clear hk2 hf hy HNW hw1 hw2 hw3 hLl hEl hE255
  go_wp2_with (at_lookup;refine wpList_lookup_own_ok_int _ rfl _ _ 127 rfl 9 22 .u32 kLaw Tryz.underlying127 Tryz.underlying22 (zeroU _) mb mn D rfl HM3.out _ _ rfl HKEY.out ?_;intro vv hat hwc;clear hat hwc)
  (with_reducible refine HAD.out.mono ?_)
  rintro e w4 ⟨he4,hb4,hfr4,pb,A4,c4,hq4,ho4,hr4,hpb⟩
  rw [HK2N.out] at he4
  subst he4
  have HB4:=hid (HB3.out.trans hb4)
  have HR4:=hid (HR3.out.trans hfr4)
  have HK4:=hid (HK3.out.below hb4)
  have HKB4:=hid (hfr4.2 _ _ _ _ (by decide) HKB3.out)
  have HKD:=hid (show KdM n0 w4 q sz mb (putL L nd) from⟨A4,nP+1,c4,nP,P++[pb],_,hq4,ho4,hr4,by have:=HTK2.out.len;rw [List.length_append,List.length_singleton];omega,by rw [HPU.out.2,HTK2.out.lst];exact plL_new HCE.out HTK2.out.gn hpb HCNT.out⟩)
  clear hb4 hfr4 hq4 ho4 hr4 hpb HAD
  go_wp2_with fail
  refine (HDS.out _ HK4.out).mono ?_
  rintro e w6 ⟨C,rfl,rfl,hb6⟩
  have HB6:=hid hb6
  have HKB6:=hid ((hb6.block _ (row_lt HKB4.out)).trans HKB4.out)
  clear hb6
  go_wp2_with (refine wpList_store_row rfl 45 (.tmp 4) (.tmp 57) rfl (w.heap.size+1) (ecK y).toArray rfl rfl 45 _ HKB6.out (infoKa y) HSZY.out (all_of_one (ecK_one y)) ?_)
  refine bodyPost_ret (v:=.tuple #[.agg (ecK y).toArray,.int .i64 0]) (results_row2 rfl _ _ (w.heap.size+1) 45 (ecK y).toArray (0,0) _ rfl (setRow_at HKB6.out) Tryz.underlying45 rfl (infoKa y) _ rfl) rfl ?_
  have hz6:w.heap.size≤w6.heap.size:=Nat.le_trans HR4.out.1 HB6.out.size
  have hbb:Below n0 w w6:=HB4.out.trans (HB6.out.mono (Nat.le_trans hn0 HR4.out.1))
  exact⟨by rw [HY.out],hbb.trans (below_of_grown (grown_row _ _ _) (Nat.le_trans hn0 hz6) (by omega)),(HR4.out.trans (Fr.of_below HB6.out)).newRow (Nat.le_succ _) _,((HKD.out.go HB6.out).by_ HKB6.out (by decide) (grown_row _ _ _))⟩
theorem KdM.fd {n0 q sz mb:Nat}{w:World}{M:List Ce}(h:KdM n0 w q sz mb M):∃ v fl,w.heap[q]?=some (.cells (FlR sz v mb fl 0) 130 (0,0)):=by
 obtain⟨A,n,c,fl,P,s,h1,_⟩:=h
 exact⟨_,fl,h1⟩
theorem KdM.fail {n0 q sz mb:Nat}{w:World}{M:List Ce}(h:KdM n0 w q sz mb M):KdM n0 (w.setCell ⟨q,4,none⟩ (.int .i64 0)) q sz mb M:=by
 obtain⟨A,n,c,fl,P,s,h1,h2,h3,h4,h5⟩:=h
 refine⟨A,n,c,fl,P,s,row_set (cs:=[.int .u32 sz,.slice A n c,.map (some mb),.int .i64 fl,.int .i64 0]) (i:=4) h1,h2.cell h1 (by decide),rows_by h3 (grown_cell w q 4 _) (fun p hp e=>?_),h4,h5⟩
 unfold At at hp
 rw [← Option.some.inj e,h1] at hp
 simp only [Option.some.injEq,Obj.cells.injEq] at hp
 exact absurd hp.2.1 (by decide)
set_option maxHeartbeats 8000000 in
theorem put_any {tK tS:TypeId}{n0 q sz mb mn nP cP:Nat}{w:World}{AP:Option Addr}{D:DataW Unit}{P:List Nat}{s:Nat→Ob}{L:List Ce}(hk:Kc tK tS n0 w) (hn0:n0≤w.heap.size) (hq0:n0≤q) (hq:w.heap[q]?=some (.cells (FlR sz (.slice AP nP cP) mb 0 0) 130 (0,0)))
  (htk:Tk n0 w (.slice AP nP cP) P s L) (hsz:sz≤65536) (hmb:n0≤mb) (hM:OwM w mb mn D) (hmn:mn≤65536) (hMp:MpI D L)
  (nd:Nd) (hw:Wd nd) (hck:ckN nd=0) (hg:goodF s P (nmN nd)=true) (cs:Array Value) (hN:NdAt w cs nd)
  (hnew:fstC L (encB nd).data.toList=none→(∀ j c,L[j]?=some c→c.num=j+2)∧L.length+2<sz∧∀ c∈L,c.r+(nmsN nd).count c.num≤16777216) :
  Calls Tryz.prog 76 #[.pointer (some ⟨q,0,none⟩),.agg cs] w (KdPost n0 w q sz mb L nd):=by
 have HKD:=hid (fun W (hb:Below w.heap.size w W)=>kid_any (hk.below ⟨hb.os,hb.tape,hb.output,hb.size,fun k hk=>hb.block k (by omega)⟩) (Nat.le_trans hn0 hb.size) hq0 ((hb.block _ (row_lt hq)).trans hq) (htk.go hb) hsz hmb (hM.go hb) hmn hMp nd hw hck hg cs (hN.below hb) hnew)
 obtain⟨AI,nI,cI,AK,nK,cK,AV,nV,cV,rfl,hrest⟩:=hN
 clear hrest
 obtain⟨R1,R2,S0,Z0⟩:=two_new w #[.int .u8 nd.kd,.slice AI nI cI,.slice AK nK cK,.slice AV nV cV] zKd 31 45
 have HNB:=hid R1
 have HKB:=hid R2
 have HS:=hid S0
 have HQ:=hid ((S0.block _ (row_lt hq)).trans hq)
 have hkq:w.heap.size+1≠q:=by
  have:=row_lt hq
  omega
 have c4:((w.alloc (.cells #[.int .u8 nd.kd,.slice AI nI cI,.slice AK nK cK,.slice AV nV cV] 31)).alloc (.cells zKd 45)).cell? ⟨q,4,none⟩=some (.int .i64 0):=cell_of_row _ _ 4 _ _ _ HQ.out
 have l4:=row_lt HQ.out
 clear R1 R2 S0 Z0 htk hq hk hM hMp hg hnew hw hck
 go_enter Tryz.func76,Tryz.ntmps76
 go_wp2_with fail
 change Calls _ _ _ ((w.alloc (.cells #[.int .u8 nd.kd,.slice AI nI cI,.slice AK nK cK,.slice AV nV cV] 31)).alloc (.cells zKd 45)) _
 generalize (w.alloc (.cells #[.int .u8 nd.kd,.slice AI nI cI,.slice AK nK cK,.slice AV nV cV] 31)).alloc (.cells zKd 45)=W1 at *
 refine (HKD.out W1 HS.out).mono ?_
 rintro e w2 ⟨he,hb2,hfr2,hkd2⟩
 have HYK:=hid (show kidO L nd=kidO L nd from rfl)
 obtain⟨y,hy⟩:∃ y:Kd,kidO L nd=y:=⟨_,rfl⟩
 have HY:=hid hy
 rw [hy] at he
 subst he
 have HB2:=hid (show Below n0 w w2 from (show Below n0 w W1 from⟨HS.out.os,HS.out.tape,HS.out.output,HS.out.size,fun k hk=>HS.out.block k (by omega)⟩).trans hb2)
 have HR2:=hid ((Fr.of_below HS.out).trans hfr2)
 have HKD2:=hid hkd2
 have HKB2:=hid (hfr2.2 _ _ _ _ (by decide) HKB.out)
 have HSZY:=hid (show zKd.size=(ecK y).toArray.size from (show zKd.size=34 from rfl).trans (ecK_sz y))
 clear hb2 hfr2 hkd2 HKD HNB HQ c4 hy HYK
 have hq2:q<w2.heap.size:=by
  obtain⟨v4,fl4,hq4⟩:=HKD2.out.fd
  exact row_lt hq4
 go_wp2_with (first | (refine wpList_fresh rfl 45 (.tmp 6) (.tmp 22) rfl (ecK y).toArray _ _ rfl rfl (infoKa y) HSZY.out (all_of_one (ecK_one y)) ?_;intro w3 hb3 hr3 hz3;have HB3:=hid hb3;have HF3:=hid hr3;have HKD3:=hid (HKD2.out.go hb3);obtain⟨v4,fl4,hq4⟩:=HKD3.out.fd;have HQ3:=hid hq4;have c4:w3.cell? ⟨q,4,none⟩=some (.int .i64 0):=cell_of_row _ _ 4 _ _ _ hq4;have f4:=frozen_of_row w3 q 4 _ _ hq4;have l4:=row_lt hq4;have HKB3:=hid ((hb3.block _ (row_lt HKB2.out)).trans HKB2.out);have HF4:=hid (row_cell (q:=q) (i:=4) (u:=.int .i64 0) hr3 (by omega));have HKB4:=hid (row_cell (q:=q) (i:=4) (u:=.int .i64 0) HKB3.out hkq);clear hb3 hr3 hz3 hq4) | (refine wpList_load_row rfl 45 (.tmp 6) rfl w2.heap.size rfl 45 (ecK y).toArray (0,0) _ HF4.out Tryz.underlying45 rfl (infoKa y) ?_) | (refine wpList_store_row rfl 45 (.tmp 4) (.tmp 28) rfl (w.heap.size+1) (ecK y).toArray rfl rfl 45 _ HKB4.out (infoKa y) HSZY.out (all_of_one (ecK_one y)) ?_))
 refine bodyPost_ret (v:=.tuple #[.agg (ecK y).toArray,.int .i64 0]) (results_row2 rfl _ _ (w.heap.size+1) 45 (ecK y).toArray (0,0) _ rfl (setRow_at HKB4.out) Tryz.underlying45 rfl (infoKa y) _ rfl) rfl ?_
 have hz2:n0≤w2.heap.size:=Nat.le_trans hn0 (HB2.out.size)
 have hz3:n0≤w3.heap.size:=Nat.le_trans hz2 HB3.out.size
 have hz4:n0≤(w3.setCell ⟨q,4,none⟩ (.int .i64 0)).heap.size:=Nat.le_trans hz3 (grown_cell w3 q 4 _).size
 exact⟨by rw [HY.out],((HB2.out.trans (HB3.out.mono hz2)).trans (below_of_grown (grown_cell w3 q 4 _) hz3 hq0)).trans (below_of_grown (grown_row _ _ _) hz4 (by omega)),((HR2.out.trans (Fr.of_below HB3.out)).trans (Fr.of_grown (grown_cell w3 q 4 _) HQ3.out (Or.inr (Or.inr rfl)))).newRow (Nat.le_succ _) _,HKD3.out.fail.by_ HKB4.out (by decide) (grown_row _ _ _)⟩
def FrX (k:Nat) (w w':World):Prop:=w.heap.size≤w'.heap.size∧∀ (g:Nat) (cs:Array Value) (t:TypeId) (f:Nat×Nat),g≠k→t≠T∧t≠TP∧t≠TF→w.heap[g]?=some (.cells cs t f)→w'.heap[g]?=some (.cells cs t f)
def LitPost (n0 n1:Nat) (w:World) (q sz mb kb:Nat) (L:List Ce) (nd:Nd) (e:Ending) (w':World):Prop :=
 e=.returned (.int .i64 0)∧Below n0 w w'∧FrX kb w w'∧w'.heap[kb]?=some (.cells (ecK (kidO L nd)).toArray 45 (0,0))∧KdM n1 w' q sz mb (putL L nd)
set_option maxHeartbeats 8000000 in
theorem lit_any {n0 n1 q sz mb nb kb:Nat}{w:World}{L:List Ce}{nd:Nd}{AI AK AV:Option Addr}{nI cI nK cK nV cV:Nat}(hn0:n0≤w.heap.size) (h01:n0≤n1) (hk0:n0≤kb)
  (hnb:w.heap[nb]?=some (.cells #[.int .u8 nd.kd,.slice AI nI cI,.slice AK nK cK,.slice AV nV cV] 31 (0,0)))
  (hkb:w.heap[kb]?=some (.cells zKd 45 (0,0)))
  (hp:Calls Tryz.prog 76 #[.pointer (some ⟨q,0,none⟩),.agg #[.int .u8 nd.kd,.slice AI nI cI,.slice AK nK cK,.slice AV nV cV]] w (KdPost n1 w q sz mb L nd)) :
  Calls Tryz.prog 45 #[.func (.func 76) #[.pointer (some ⟨q,0,none⟩)] #[],.pointer (some ⟨nb,0,none⟩),.pointer (some ⟨kb,0,none⟩)] w (LitPost n0 n1 w q sz mb kb L nd):=by
 have HP:=hid hp
 have HKB:=hid hkb
 have HNB:=hid hnb
 have n0':w.cell? ⟨nb,0,none⟩=some (.int .u8 nd.kd):=cell_of_row _ _ 0 _ _ _ hnb
 have n1:w.cell? ⟨nb,1,none⟩=some (.slice AI nI cI):=cell_of_row _ _ 1 _ _ _ hnb
 have n2:w.cell? ⟨nb,2,none⟩=some (.slice AK nK cK):=cell_of_row _ _ 2 _ _ _ hnb
 have n3:w.cell? ⟨nb,3,none⟩=some (.slice AV nV cV):=cell_of_row _ _ 3 _ _ _ hnb
 clear hp hkb hnb
 go_enter Tryz.func45,Tryz.ntmps45
 go_wp2_with fail
 refine (HP.out).mono ?_
 rintro e w2 ⟨he,hb2,hfr2,hkd2⟩
 obtain⟨y,hy⟩:∃ y:Kd,kidO L nd=y:=⟨_,rfl⟩
 have HY:=hid hy
 rw [hy] at he
 subst he
 have HB2:=hid (hb2.mono h01)
 have HR2:=hid hfr2
 have HKD2:=hid hkd2
 have HKB2:=hid (hfr2.2 _ _ _ _ (by decide) HKB.out)
 have HSZY:=hid (show zKd.size=(ecK y).toArray.size from (show zKd.size=34 from rfl).trans (ecK_sz y))
 clear hb2 hfr2 hkd2 HP hy n0' n1 n2 n3
 go_wp2_with (refine wpList_store_row rfl 45 (.tmp 2) (.tmp 10) rfl kb (ecK y).toArray rfl rfl 45 _ HKB2.out (infoKa y) HSZY.out (all_of_one (ecK_one y)) ?_)
 go_ret
 exact⟨rfl,HB2.out.trans (below_of_grown (grown_row _ _ _) (Nat.le_trans hn0 HB2.out.size) hk0),⟨Nat.le_trans HR2.out.1 (grown_row _ _ _).size,fun g cs t f hne ht hg=>row_other (grown_row _ _ _) (HR2.out.2 g cs t f ht hg) hne⟩,by rw [HY.out];exact setRow_at HKB2.out,HKD2.out.by_ HKB2.out (by decide) (grown_row _ _ _)⟩
end Go.Proofs.YtlpejbbmemhloaaGreatDoor.Hp
