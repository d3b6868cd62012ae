import Derived.Test.YtopepebcnaikiaaGreatDoorRows
import Derived.WalkKit
import Derived.Below
import Derived.Deep.MidRow
import Derived.Deep.Upon
import Derived.Maps.AppendAt
import Derived.Deep.AppendLies
import Derived.Deep.Draws
import Derived.Maps.Own
import Derived.Maps.OwnSet
import Derived.Maps.Views
import Derived.Maps.RangeWalk
import Derived.ProofKit
import Derived.Handy
import Derived.BigQuiet
import Derived.Deep.QuietTactic
import Derived.RegionTactic
import Derived.Outline
import Derived.WalkLawsBesides
import Derived.WalkSpells
import Derived.Lib.Hide
import Derived.Laws.IdiomStrings
import Derived.Laws.BitsAllLaws
import Derived.Lib.Strings
import Derived.Lib.Bytealg
import Derived.Deep.RegionHeld3
import Derived.LoopTactic
import Derived.OwnWalk
import Derived.Tactics
import Derived.Tactics2
import Derived.Defers
import Derived.Laws.Pointers
import Derived.Laws.LoneSync
import Derived.Laws.NewBlocks
import Derived.RegionCalls
import Derived.ChangeAlike
import Derived.Shelf.Strings.Builder1
import Derived.Shelf.Strings.Builder2
import Derived.Shelf.Strings.OnBuilder
import Derived.Shelf.Strings.Trim
import Derived.Shelf.Small.Wraps
import Derived.Shelf.Strings.BuilderF
import Derived.Shelf.Strings.Search1
import Derived.Shelf.Strings.Search2
import Derived.Shelf.Strings.Search3
import Derived.Shelf.Strings.Prefix
import Derived.Shelf.Unicode.DecodeSlow
import Derived.Test.YtopepebcnaikiaaGreatDoorProg
import Derived.DeepKeys3
import Derived.Still
set_option maxRecDepth 100000
set_option maxHeartbeats 20000000
set_option linter.unusedVariables false
set_option linter.unusedSimpArgs false
set_option maxRecDepth 100000
namespace Go.Proofs.YtopepebcnaikiaaGreatDoor.St
open Lib (hid)
section
variable {α κ:Type}
structure Ord (lt:κ→κ→Bool):Prop where
 asymm:∀ a b,lt a b=true→lt b a=false
 trans:∀ a b c,lt a b=true→lt b c=true→lt a c=true
 tri:∀ a b,lt a b=false→lt b a=false→a=b
theorem Ord.irrefl {lt:κ→κ→Bool}(O:Ord lt) (a:κ):lt a a=false:=by
 cases h:lt a a
 ·rfl
 ·have:=O.asymm a a h;rw [h] at this;cases this
theorem Ord.ne {lt:κ→κ→Bool}(O:Ord lt){a b:κ}(h:lt a b=true):a≠b:=by
 rintro rfl;rw [O.irrefl] at h;cases h
theorem Ord.le_trans {lt:κ→κ→Bool}(O:Ord lt){a b c:κ}(h1:lt b a=false) (h2:lt c b=false):lt c a=false:=by
 cases h:lt c a
 ·rfl
 ·cases h3:lt b c
  ·have e:=O.tri b c h3 h2;subst e;rw [h] at h1;cases h1
  ·have:=O.trans b c a h3 h;rw [this] at h1;cases h1
theorem Ord.lt_le {lt:κ→κ→Bool}(O:Ord lt){a b c:κ}(h1:lt a b=true) (h2:lt c b=false):lt a c=true:=by
 cases h:lt a c
 ·cases h3:lt c a
  ·have e:=O.tri a c h h3;subst e;rw [h1] at h2;cases h2
  ·have:=O.trans c a b h3 h1;rw [this] at h2;cases h2
 ·rfl
theorem Ord.le_lt {lt:κ→κ→Bool}(O:Ord lt){a b c:κ}(h1:lt b a=false) (h2:lt b c=true):lt a c=true:=by
 cases h:lt a c
 ·cases h3:lt c a
  ·have e:=O.tri a c h h3;subst e;rw [h2] at h1;cases h1
  ·have:=O.trans b c a h2 h3;rw [this] at h1;cases h1
 ·rfl
variable (key:α→κ) (lt:κ→κ→Bool)
def Srt (l:List α):Prop:=l.Pairwise fun a b=>lt (key b) (key a)=false
variable {key lt}
theorem Srt.nil:Srt key lt ([]:List α):=List.Pairwise.nil
theorem Srt.one (x:α):Srt key lt [x]:=List.pairwise_singleton _ _
theorem Srt.append {a b:List α}:Srt key lt (a++b)↔Srt key lt a∧Srt key lt b∧∀ x∈a,∀ y∈b,lt (key y) (key x)=false:=List.pairwise_append
theorem Srt.short {l:List α}(h:l.length≤1):Srt key lt l:=by
 match l,h with
 | [],_=>exact Srt.nil
 | [x],_=>exact Srt.one x
theorem Srt.snoc_le (O:Ord lt){l:List α}{z x:α}(h:Srt key lt (l++[z])) (hz:lt (key x) (key z)=false):∀ y∈l++[z],lt (key x) (key y)=false:=by
 intro y hy;rcases List.mem_append.1 hy with hy | hy
 ·exact O.le_trans ((Srt.append.1 h).2.2 y hy z (by simp)) hz
 ·simp at hy;subst hy;exact hz
theorem Srt.put {a b:List α}{x:α}(h:Srt key lt (a++b)) (h1:∀ y∈a,lt (key x) (key y)=false) (h2:∀ y∈b,lt (key y) (key x)=false):Srt key lt (a++x::b):=by
 have h':=Srt.append.1 h;refine Srt.append.2 ⟨h'.1,List.pairwise_cons.2 ⟨h2,h'.2.1⟩,?_⟩;intro y hy z hz;rcases List.mem_cons.1 hz with rfl | hz
 ·exact h1 y hy
 ·exact h'.2.2 y hy z hz
variable [DecidableEq κ] (key)
def Sm (l l':List α):Prop:=∀ k,l.filter (fun x=>key x=k)=l'.filter (fun x=>key x=k)
variable {key}
theorem Sm.refl (l:List α):Sm key l l:=fun _=>rfl
theorem Sm.trans {a b c:List α}(h:Sm key a b) (h':Sm key b c):Sm key a c:=fun k=>(h k).trans (h' k)
theorem Sm.append {a a' b b':List α}(h:Sm key a a') (h':Sm key b b'):Sm key (a++b) (a'++b'):=fun k=>by
 rw [List.filter_append,List.filter_append,h k,h' k]
theorem Sm.mem {a b:List α}(h:Sm key a b) (x:α):x∈a↔x∈b:=by
 have e:=h (key x);have h1:x∈a↔x∈a.filter (fun y=>key y=key x):=by simp
 have h2:x∈b↔x∈b.filter (fun y=>key y=key x):=by simp
 rw [h1,h2,e]
theorem filter_none {l:List α}{k:κ}(h:∀ x∈l,key x≠k):l.filter (fun x=>key x=k)=[]:=by
 rw [List.filter_eq_nil_iff];intro x hx;simpa using h x hx
theorem Sm.swap {a b:List α}(h:∀ x∈a,∀ y∈b,key x≠key y):Sm key (a++b) (b++a):=fun k=>by
 rw [List.filter_append,List.filter_append];by_cases hx:∃ x∈a,key x=k
 ·obtain⟨x,hx,rfl⟩:=hx;rw [filter_none (l:=b) (fun y hy=>fun e=>h x hx y hy e.symm)];simp
 ·rw [filter_none (l:=a) (fun x hxa e=>hx ⟨x,hxa,e⟩)];simp
theorem merged (O:Ord lt){X1 X2 Y1 Y2 R1 R2:List α}(hX:Srt key lt (X1++X2)) (hY:Srt key lt (Y1++Y2))
  (h12:∀ x∈X1,∀ y∈Y2,lt (key y) (key x)=false) (h21:∀ y∈Y1,∀ x∈X2,lt (key y) (key x)=true)
  (m1:Sm key (X1++Y1) R1) (s1:Srt key lt R1) (m2:Sm key (X2++Y2) R2) (s2:Srt key lt R2) :
  Sm key ((X1++X2)++(Y1++Y2)) (R1++R2)∧Srt key lt (R1++R2):=by
 constructor
 ·have e1:Sm key (X1++(X2++Y1)++Y2) (X1++(Y1++X2)++Y2):=by
   refine Sm.append (Sm.append (Sm.refl _) (Sm.swap fun x hx y hy e=>?_)) (Sm.refl _);have:=h21 y hy x hx;rw [e,O.irrefl] at this;cases this
  have e2:=Sm.append m1 m2;have e3:X1++X2++(Y1++Y2)=X1++(X2++Y1)++Y2:=by simp
  have e4:X1++(Y1++X2)++Y2=X1++Y1++(X2++Y2):=by simp
  rw [e3];rw [e4] at e1;exact e1.trans e2
 ·refine Srt.append.2 ⟨s1,s2,fun x hx y hy=>?_⟩;have hx:=(m1.mem x).2 hx;have hy:=(m2.mem y).2 hy;have hX':=Srt.append.1 hX;have hY':=Srt.append.1 hY;rcases List.mem_append.1 hx with hx | hx<;>rcases List.mem_append.1 hy with hy | hy
  ·exact hX'.2.2 x hx y hy
  ·exact h12 x hx y hy
  ·exact O.asymm _ _ (h21 x hx y hy)
  ·exact hY'.2.2 x hx y hy
end
end Go.Proofs.YtopepebcnaikiaaGreatDoor.St
namespace Go.Proofs.YtopepebcnaikiaaGreatDoor.Ar
open Lib (hid)
open Go.RowKit
section
variable {α:Type}{enc:α→List Value}{k:Nat}
def Arr (enc:α→List Value) (k:Nat) (w:World) (g:Nat) (D:List α):Prop:=∀ i x,D[i]?=some x→w.rangeAt g (i*k) (enc x)∧∀ j,j<k→w.frozen? ⟨g,i*k+j,none⟩=false
variable {w w':World}{g:Nat}{D:List α}
theorem Arr.range (h:Arr enc k w g D){i:Nat}{x:α}(hx:D[i]?=some x):w.rangeAt g (i*k) (enc x):=(h i x hx).1
theorem Arr.there (hk:∀ x,(enc x).length=k) (h:Arr enc k w g D){i:Nat}(hi:i<D.length):w.there g (i*k) k:=fun j hj=>by
 obtain⟨h1,h2⟩:=h i _ (List.getElem?_eq_getElem hi);have hl:=hk D[i];exact⟨by rw [h1 j _ (List.getElem?_eq_getElem (by omega))];rfl,h2 j hj⟩
theorem Arr.lt (hk:∀ x,(enc x).length=k) (h0:0<k) (h:Arr enc k w g D) (hD:0<D.length):g<w.heap.size:=by
 have h1:=(h 0 _ (List.getElem?_eq_getElem hD)).1;have hl:=hk D[0];exact World.block_lt_of_cell? w _ (h1 0 _ (List.getElem?_eq_getElem (by omega)))
theorem Arr.block (h:Arr enc k w g D) (hb:w'.heap[g]?=w.heap[g]?):Arr enc k w' g D:=fun i x hx=>by
 obtain⟨h1,h2⟩:=h i x hx;exact⟨fun j v hv=>(World.cell?_of_block (a:=⟨g,_,none⟩) hb).trans (h1 j v hv),fun j hj=>(World.frozen?_of_block (a:=⟨g,_,none⟩) hb).trans (h2 j hj)⟩
theorem Arr.nil:Arr enc k w g []:=fun i x hx=>by simp at hx
theorem Arr.grown {row:Option Nat}(h:Arr enc k w g D) (hg:w.grownBy w' row) (hlt:g<w.heap.size) (hne:some g≠row):Arr enc k w' g D:=h.block (hg.block g hlt hne)
theorem Arr.grown0 (hk:∀ x,(enc x).length=k) (h0:0<k) (h:Arr enc k w g D) (hg:w.grownBy w' none):Arr enc k w' g D:=by
 rcases Nat.eq_zero_or_pos D.length with hD | hD
 ·have:D=[]:=List.eq_nil_of_length_eq_zero hD;subst this;exact Arr.nil
 ·exact h.grown hg (h.lt hk h0 hD) (by intro h;cases h)
theorem Arr.drew (h:Arr enc k w g D):Arr enc k w.drew g D:=h
theorem frozen_setCells (b:Nat) (vs:List Value) (o:Nat) (w:World) (x:Addr):(w.setCells b o vs).frozen? x=w.frozen? x:=World.frozen?_setCells b vs o w x
theorem Arr.store (hk:∀ x,(enc x).length=k) (h:Arr enc k w g D){i:Nat}(hi:i<D.length) (y:α):Arr enc k (w.setCells g (i*k) (enc y)) g (D.set i y):=fun j x hx=>by
 by_cases hji:j=i
 ·subst hji;rw [List.getElem?_set_self hi] at hx;cases hx;refine⟨World.rangeAt_setCells_same w g (j*k) (enc y) (by rw [hk];exact h.there hk hi),fun q hq=>?_⟩;rw [frozen_setCells];exact (h j _ (List.getElem?_eq_getElem hi)).2 q hq
 ·rw [List.getElem?_set_ne (Ne.symm hji)] at hx;obtain⟨h1,h2⟩:=h j x hx;refine⟨World.rangeAt_setCells_apart h1 g (i*k) (enc y) (Or.inr ?_),fun q hq=>by rw [frozen_setCells];exact h2 q hq⟩;rw [hk,hk];rcases Nat.lt_or_gt_of_ne hji with hlt | hgt
  ·left;have:(j+1)*k≤i*k:=Nat.mul_le_mul_right k hlt;rw [Nat.succ_mul] at this;exact this
  ·right;have:(i+1)*k≤j*k:=Nat.mul_le_mul_right k hgt;rw [Nat.succ_mul] at this;exact this
theorem size_setCells (g:Nat):∀ (vs:List Value) (o:Nat) (w:World),(w.setCells g o vs).heap.size=w.heap.size
 | [],_,_=>rfl
 | v::vs,o,w=>by
  rw [World.setCells,size_setCells g vs];simp [World.setCell]
theorem grown_setCells (w:World) (g o:Nat) (vs:List Value):w.grownBy (w.setCells g o vs) (some g):=by
 refine⟨World.os_setCells _ _ _ _,?_,World.output_setCells _ _ _ _,by rw [size_setCells];exact Nat.le_refl _,fun q hq hne=>World.heap_setCells_other w g o vs hq (fun e=>hne (by rw [e]))⟩;exact tape_setCells g vs o w
where
 tape_setCells (g:Nat):∀ (vs:List Value) (o:Nat) (w:World),(w.setCells g o vs).tape=w.tape
  | [],_,_=>rfl
  | v::vs,o,w=>by
   rw [World.setCells,tape_setCells g vs];rfl
end
theorem grown_drew (w:World) (row:Option Nat):w.grownBy w.drew row:=⟨rfl,rfl,rfl,Nat.le_refl _,fun _ _ _=>rfl⟩
theorem grown_refl (w:World) (row:Option Nat):w.grownBy w row:=⟨rfl,rfl,rfl,Nat.le_refl _,fun _ _ _=>rfl⟩
theorem grown_trans {w w' w'':World}{row:Option Nat}(h:w.grownBy w' row) (h':w'.grownBy w'' row):w.grownBy w'' row :=
 ⟨h'.os.trans h.os,h'.tape.trans h.tape,h'.output.trans h.output,Nat.le_trans h.size h'.size,fun q hq hne=>(h'.block q (Nat.lt_of_lt_of_le hq h.size) hne).trans (h.block q hq hne)⟩
theorem grown_weak {w w':World}(h:w.grownBy w' none) (row:Option Nat):w.grownBy w' row:=⟨h.os,h.tape,h.output,h.size,fun q hq _=>h.block q hq (by intro e;cases e)⟩
open Go.RowKit
section
variable {α:Type}
theorem add_plain (b o q:Nat):(⟨b,o,none⟩:Addr).add q=⟨b,o+q,none⟩:=by unfold Addr.add;split<;>simp_all
def Ls (enc:α→List Value) (k:Nat) (w:World) (B:Nat) (A:Option Addr) (D:List α):Prop :=
 ∀ i x,D[i]?=some x→∃ b o,A=some ⟨b,o,none⟩∧b<B∧w.rangeAt b (o+i*k) (enc x)
variable {enc:α→List Value}{k B B' g:Nat}{w w' wr:World}{A:Option Addr}{D E:List α}
theorem Ls.nil:Ls enc k w B A []:=fun i x h=>by simp at h
theorem Ls.below (h:Ls enc k w B A D) (hb:Below B w w'):Ls enc k w' B A D:=fun i x hx=>by
 obtain⟨b,o,e,h1,h2⟩:=h i x hx;exact⟨b,o,e,h1,fun j v hv=>(World.cell?_of_block (a:=⟨b,_,none⟩) (hb.block b h1)).trans (h2 j v hv)⟩
theorem Ls.more (h:Ls enc k w B A D) (hB:B≤B'):Ls enc k w B' A D:=fun i x hx=>by
 obtain⟨b,o,e,h1,h2⟩:=h i x hx;exact⟨b,o,e,by omega,h2⟩
theorem Ls.take (h:Ls enc k w B A D) (n:Nat):Ls enc k w B A (D.take n):=fun i x hx=>by
 rw [List.getElem?_take] at hx;split at hx
 ·exact h i x hx
 ·cases hx
theorem Ls.new (w:World) (x:α) (e:TypeId) (B:Nat) (hB:w.heap.size<B):Ls enc k (w.alloc (.cells (enc x).toArray e)) B (some ⟨w.heap.size,0,none⟩) [x]:=fun i y hy=>by
 match i,hy with
 | 0,hy =>
  simp at hy;subst hy;refine⟨w.heap.size,0,rfl,hB,fun j v hv=>?_⟩;rw [Nat.zero_mul,Nat.zero_add,cell_of_row _ _ _ (enc x).toArray e (0,0) (heap_alloc_new w _)];simpa using hv
theorem flat_get (hk:∀ x,(enc x).length=k){i j:Nat}{x:α}{u:Value}(hx:D[i]?=some x) (hu:(enc x)[j]?=some u):(D.flatMap enc)[i*k+j]?=some u:=by
 have hj:j<k:=by rw [← hk x];exact (List.getElem?_eq_some_iff.1 hu).1
 induction D generalizing i with
 | nil=>simp at hx
 | cons y D ih =>
  rw [List.flatMap_cons];cases i with
  | zero =>
   simp at hx;subst hx;rw [Nat.zero_mul,Nat.zero_add,List.getElem?_append_left (by rw [hk];exact hj)];exact hu
  | succ i =>
   rw [List.getElem?_append_right (by rw [hk,Nat.succ_mul];omega),hk,show (i+1)*k+j-k=i*k+j by rw [Nat.succ_mul];omega];exact ih (by simpa using hx)
theorem flat_of (hk:∀ x,(enc x).length=k){q:Nat}{u:Value}(hu:(D.flatMap enc)[q]?=some u):∃ i j x,q=i*k+j∧D[i]?=some x∧(enc x)[j]?=some u:=by
 induction D generalizing q with
 | nil=>simp at hu
 | cons y D ih =>
  rw [List.flatMap_cons] at hu;by_cases h:q<k
  ·rw [List.getElem?_append_left (by rw [hk];exact h)] at hu;exact⟨0,q,y,by simp,by simp,hu⟩
  ·rw [List.getElem?_append_right (by rw [hk];omega),hk] at hu;obtain⟨i,j,x,h1,h2,h3⟩:=ih hu;exact⟨i+1,j,x,by rw [Nat.succ_mul];omega,by simpa using h2,h3⟩
theorem flat_len (hk:∀ x,(enc x).length=k):(D.flatMap enc).length=D.length*k:=by
 induction D with
 | nil=>simp
 | cons y D ih=>rw [List.flatMap_cons,List.length_append,hk,ih,List.length_cons,Nat.succ_mul];omega
theorem flat_one (h1:∀ x,∀ u∈enc x,u.oneCell'=true):∀ u∈D.flatMap enc,u.oneCell'=true:=by
 intro u hu;obtain⟨x,_,h⟩:=List.mem_flatMap.1 hu;exact h1 x u h
def Mk (enc:α→List Value) (k:Nat) (e:TypeId) (w wr:World) (v:Value) (D:List α):Prop :=
 wr.ownsRow w.heap.size e k v D.length (D.flatMap enc)∧Below w.heap.size w wr
variable {e:TypeId}{v:Value}
theorem Mk.nil (h:Below w.heap.size w wr):Mk enc k e w wr (.slice none 0 0) []:=⟨World.ownsRow_nil _ _ _ _,h⟩
theorem Mk.go (h:Mk enc k e w wr v D) (hb:Below wr.heap.size wr w'):Mk enc k e w w' v D :=
 ⟨h.1.kept ⟨hb.os,hb.tape,hb.output,hb.size,fun k hk _=>hb.block k hk⟩ (Classical.em _),h.2.trans (hb.mono h.2.size)⟩
theorem Mk.alloc (h:Mk enc k e w wr v D) (o:Obj):Mk enc k e w (wr.alloc o) v D:=h.go ((Below.refl _ _).alloc (Nat.le_refl _) _)
theorem Mk.drewN (h:Mk enc k e w wr v D) (n:Nat):Mk enc k e w (wr.drewN n) v D:=h.go ⟨rfl,rfl,rfl,Nat.le_refl _,fun _ _=>rfl⟩
theorem Mk.ls (hk:∀ x,(enc x).length=k) (h:Mk enc k e w wr v D):∃ A c,v=.slice A D.length c∧D.length≤c∧c≤maxLen∧Ls enc k wr wr.heap.size A D:=by
 rcases h.1.2 with ⟨rfl,h0⟩ | ⟨g,cap,cur,rfl,hb,hg,hn,hc,hcs,ht⟩
 ·have:D=[]:=List.eq_nil_of_length_eq_zero h0;subst this;exact⟨_,_,rfl,Nat.le_refl _,Nat.zero_le _,Ls.nil⟩
 ·refine⟨_,_,rfl,hn,hc,fun i x hx=>⟨g,0,rfl,?_,fun j u hu=>?_⟩⟩
  ·rcases Nat.lt_or_ge g wr.heap.size with hlt | hge
   ·exact hlt
   ·rw [Array.getElem?_eq_none hge] at hg;cases hg
  ·rw [Nat.zero_add];have:=h.1.cells (g:=g) rfl _ _ (flat_get hk hx hu);have e1:(⟨g,0,none⟩:Addr).add (i*k+j)=⟨g,i*k+j,none⟩:=by unfold Addr.add;split<;>simp_all
   rw [e1] at this;exact this
theorem Mk.since {w0:World}(h:Mk enc k e w wr v D) (hb:Below w0.heap.size w0 w):Mk enc k e w0 wr v D:=by
 refine⟨⟨h.1.1,?_⟩,hb.trans (h.2.mono hb.size)⟩;rcases h.1.2 with h0 | ⟨g,cap,cur,rfl,hg,rest⟩
 ·exact .inl h0
 ·exact .inr ⟨g,cap,cur,rfl,Nat.le_trans hb.size hg,rest⟩
theorem Ls.drop (h:Ls enc k w B A D){n c p:Nat}(hn:n=D.length) (hc:n≤c) (hp:p≤n):Ls enc k w B (if c=p then A else A.map (·.add (p*k))) (D.drop p):=fun i x hx=>by
 rw [List.getElem?_drop] at hx;have hl:=(List.getElem?_eq_some_iff.1 hx).1;rw [if_neg (by omega)];obtain⟨b,o,rfl,hb,hr⟩:=h (p+i) x hx;refine⟨b,o+p*k,by rw [Option.map_some,add_plain],hb,?_⟩;have e1:o+p*k+i*k=o+(p+i)*k:=by rw [Nat.add_mul];omega
 rw [e1];exact hr
theorem Ls.of_arr (h:Arr enc k w g D) (hg:g<B):Ls enc k w B (some ⟨g,0,none⟩) D:=fun i x hx=>⟨g,0,rfl,hg,by rw [Nat.zero_add];exact (h i x hx).1⟩
theorem Mk.arr (hk:∀ x,(enc x).length=k) (h:Mk enc k e w wr v D):(v=.slice none 0 0∧D=[])∨∃ g c,v=.slice (some ⟨g,0,none⟩) D.length c∧D.length≤c∧c≤maxLen∧w.heap.size≤g∧g<wr.heap.size∧Arr enc k wr g D:=by
 rcases h.1.2 with ⟨rfl,h0⟩ | ⟨g,cap,cur,rfl,hb,hg,hn,hc,hcs,ht⟩
 ·exact .inl ⟨rfl,List.eq_nil_of_length_eq_zero h0⟩
 ·refine .inr ⟨g,cap,rfl,hn,hc,hb,?_,fun i x hx=>⟨fun j u hu=>?_,fun j hj=>frozen_of_row wr g _ cur e hg⟩⟩
  ·rcases Nat.lt_or_ge g wr.heap.size with hlt | hge
   ·exact hlt
   ·rw [Array.getElem?_eq_none hge] at hg;cases hg
  ·have:=h.1.cells (g:=g) rfl _ _ (flat_get hk hx hu);rw [add_plain,Nat.zero_add] at this;exact this
theorem Mk.keep {w2 w3:World}{o:Nat}{u:Value}(h:Mk enc k e w wr v D) (hG:w2.grownBy w3 v.ownBlock) (hg:wr.heap.size≤g) (hc:w2.cell? ⟨g,o,none⟩=some u):w3.cell? ⟨g,o,none⟩=some u:=by
 have hlt:=World.block_lt_of_cell? w2 _ hc;refine (World.cell?_of_block (a:=⟨g,o,none⟩) (hG.block g hlt ?_)).trans hc;intro e1;have:=(h.1.lt g e1.symm).2;omega
theorem run_cat {P:Program}(t ty:TypeId) (i:TypeInfo) (z:Value) (bytes:Nat) (ht:P.underlying t=some (.slice e)) (hi:P.info? e=some i) (hz:i.zero=some z)
  (hsize:i.size=k) (hby:i.bytes=bytes) (hzs:z.cells.size=k) (hsz:0<k) (hk:∀ x,(enc x).length=k) (h1:∀ x,∀ u∈enc x,u.oneCell'=true)
  (hM:Mk enc k e w wr v D) (m c:Nat) (hm:m=E.length) (hL:Ls enc k wr B A E) (h63:D.length+m≤maxLen) (hbytes:(D.length+m)*bytes≤140737488355328) :
  ∃ v' w',(Builtin.append_ #[t,t] ty #[v,.slice A m c]).run P wr=.ok v' w'∧Mk enc k e w w' v' (D++E)∧wr.grownBy w' v.ownBlock:=by
 obtain⟨hown,hb⟩:=hM;rcases A with _ | ad
 ·have hE:E=[]:=by
   cases E with
   | nil=>rfl
   | cons y E =>
    obtain⟨_,_,h,_⟩:=hL 0 y rfl;cases h
  subst hE;simp only [List.length_nil] at hm;subst hm;refine⟨v,wr,?_,⟨by rw [List.append_nil];exact hown,hb⟩,grown_refl _ _⟩;rcases hown.2 with ⟨rfl,_⟩ | ⟨g,cap,cur,rfl,_,_,hnc,_⟩
  ·simp [Builtin.append_,run_underlying ht,sizeOf,typeInfo,hi,Builtin.lenOf,Builtin.firstCells]
  ·simp [Builtin.append_,run_underlying ht,sizeOf,typeInfo,hi,Builtin.lenOf,Builtin.firstCells,hnc,storeCells]
 ·have hnews:∀ j u,(E.flatMap enc)[j]?=some u→wr.cell? (ad.add j)=some u:=by
   intro q u hu;obtain⟨i,j,x,rfl,hx,hj⟩:=flat_of hk hu;obtain⟨b,o,he,_,hr⟩:=hL i x hx;cases he;rw [add_plain,← Nat.add_assoc];exact hr j u hj
  obtain⟨v',w',hrun,h2,h3,_,h5⟩:=run_append_own_at (P:=P) wr w.heap.size t ty e i z k bytes ht hi hz hsize hby hzs hsz v D.length _ hown ad m c (E.flatMap enc) (by rw [flat_len hk,hm]) hnews (flat_one h1) h63 hbytes hb.size;refine⟨v',w',hrun,⟨?_,hb.grown h3 hb.size fun q hq=>(hown.lt q hq).1⟩,h3⟩;rw [List.length_append,List.flatMap_append,← hm];exact h2
theorem wpList_cat {P:Program}{ops:Array Oper}{rest:List Oper}{o:Oper}{a:Act}{Q:Exit→Act→World→Prop}(t:TypeId) (i:TypeInfo) (z:Value) (bytes:Nat) (ht:P.underlying t=some (.slice e)) (hi:P.info? e=some i) (hz:i.zero=some z)
  (hsize:i.size=k) (hby:i.bytes=bytes) (hzs:z.cells.size=k) (hsz:0<k) (hk:∀ x,(enc x).length=k) (h1:∀ x,∀ u∈enc x,u.oneCell'=true)
  (hM:Mk enc k e w wr v D) (m c:Nat) (hm:m=E.length) (hL:Ls enc k wr B A E) (h63:D.length+m≤maxLen) (hbytes:(D.length+m)*bytes≤140737488355328)
  (hgd:o.guard=none) (s x:Operand) (ho:o.op=.call { callee:=.builtin .append,args:=#[s,x],argTypes:=#[t,t] }) (hs:a.eval s=v) (hx:a.eval x=.slice A m c)
  (h:∀ v' w',Mk enc k e w w' v' (D++E)→wr.grownBy w' v.ownBlock→wpList P ops Q rest (a.put o.dst v') w'):wpList P ops Q (o::rest) a wr:=by
 refine wpList_plain hgd fun K hK=>?_
 obtain⟨v',w',hr,h2,h3⟩:=run_cat (P:=P) t o.type i z bytes ht hi hz hsize hby hzs hsz hk h1 hM m c hm hL h63 hbytes;unfold Oper.wp execOp;simp only [ho,resolve,invoke,builtin,Sem.run_bind,Sem.run_pure,Result.andThen_ok,List.map_toArray,List.map_cons,List.map_nil,hs,hx,hr];exact hK _ _ (h v' w' h2 h3)
end
end Go.Proofs.YtopepebcnaikiaaGreatDoor.Ar
namespace Go.Proofs.YtopepebcnaikiaaGreatDoor.Mq
open Lib (hid)
open Go.ChangeShapes Go.WideShapes Go.WideMaps Go.Maps Go.RowKit
noncomputable def rdv {α:Type}(vv:α→Value) (v:Value):Option (DataW α×List MemPlace):=@dite _ (∃ a,v=vv a) (Classical.propDecidable _) (fun h=>some (.held h.choose,[])) (fun _=>none)
theorem rdv_mk {α:Type}{vv:α→Value}(hi:∀ x y,vv x=vv y→x=y) (a:α):rdv vv (vv a)=some (.held a,[]):=by
 unfold rdv;have h:∃ b,vv a=vv b:=⟨a,rfl⟩;rw [dif_pos h,← hi _ _ h.choose_spec]
theorem rdv_inv {α:Type}{vv:α→Value}{v:Value}{a:α}{ps:List MemPlace}(h:rdv vv v=some (.held a,ps)):v=vv a:=by
 unfold rdv at h;split at h
 ·rename_i h1;simp only [Option.some.injEq,Prod.mk.injEq,DataW.held.injEq] at h;rw [← h.1];exact h1.choose_spec
 ·cases h
theorem rdv_some {α:Type}{vv:α→Value}{v:Value}{y:DataW α×List MemPlace}(h:rdv vv v=some y):∃ a,v=vv a∧y.1=.held a:=by
 unfold rdv at h;split at h
 ·rename_i h1;cases h;exact⟨h1.choose,h1.choose_spec,rfl⟩
 ·cases h
structure MT (P:Program) (κ α:Type) where
 t:TypeId
 k:TypeId
 e:TypeId
 kv:κ→Value
 vv:α→Value
 z:α
 kok:κ→Prop
 und:P.underlying t=some (.map k e)
 keyed:Keyed P k
 zero:∀ w,(zeroValue e).run P w=.ok (vv z) w
 kinj:∀ x y,kv x=kv y→x=y
 vinj:∀ x y,vv x=vv y→x=y
 key:∀ x,kok x→∃ l,keyOf P k (kv x)=some l
section
variable {P:Program}{κ α:Type}(M:MT P κ α)
def MT.kl (x:κ):Lit:=(keyOf P M.k (M.kv x)).getD (.bool true)
theorem MT.key' {x:κ}(h:M.kok x):keyOf P M.k (M.kv x)=some (M.kl x):=by
 obtain⟨l,hl⟩:=M.key x h;unfold MT.kl;rw [hl];rfl
theorem MT.kl_ne {x y:κ}(hx:M.kok x) (hy:M.kok y) (h:x≠y):M.kl x≠M.kl y:=fun e=>h (M.kinj _ _ (M.keyed.inj (M.key' hx) (by rw [e];exact M.key' hy)))
def MT.At (w:World) (b n:Nat) (F:κ→Option α):Prop:=∃ D,w.ownsMap P M.k (rdv M.vv) b n D∧(∀ x,M.kok x→Maps.has D (M.kl x)=(F x).isSome)∧∀ x a,M.kok x→F x=some a→∀ z,D.atKey (M.kl x) z=.held a
variable {M}{w w':World}{b n:Nat}{F G:κ→Option α}
theorem MT.At.lt (h:M.At w b n F):b<w.heap.size:=by obtain⟨D,h1,_⟩:=h;exact h1.lt
theorem MT.At.keep (h:M.At w b n F) (e:w'.heap[b]?=w.heap[b]?):M.At w' b n F:=by
 obtain⟨D,⟨es,clock,h1,r⟩,h2⟩:=h;exact⟨D,⟨es,clock,e.trans h1,r⟩,h2⟩
theorem MT.At.mono (h:M.At w b n F){m:Nat}(hm:n≤m):M.At w b m F:=by
 obtain⟨D,h1,h2⟩:=h;exact⟨D,h1.mono hm,h2⟩
theorem MT.At.go (h:M.At w b n F){B:Nat}(hB:b<B) (hb:Below B w w'):M.At w' b n F:=h.keep (hb.block b hB)
theorem MT.At.made (M:MT P κ α) (w:World):M.At (w.alloc (.map #[] 0)) w.heap.size 0 (fun _=>none) :=
 ⟨.map [],World.ownsMap_made w P M.k _,fun x _=>rfl,fun x a _ h=>by cases h⟩
theorem MT.At.look (h:M.At w b n F){x:κ}(hx:M.kok x):(Instr.lookup M.t (.map (some b)) (M.kv x) false).run P w=.ok (M.vv ((F x).getD M.z)) w:=by
 obtain⟨D,h1,h2,h3⟩:=h;obtain⟨v,ps,hr,hv⟩:=h1.lookup M.keyed M.und (M.zero w) (rdv_mk M.vinj M.z) (M.key' hx);rw [hr]
 congr 1
 cases e:F x with
 | none =>
  rw [atKey_of_not_has (by rw [h2 x hx,e];rfl)] at hv;exact rdv_inv hv
 | some a =>
  rw [h3 x a hx e] at hv;exact rdv_inv hv
theorem MT.At.look_ok (h:M.At w b n F){x:κ}(hx:M.kok x):(Instr.lookup M.t (.map (some b)) (M.kv x) true).run P w=.ok (.tuple #[M.vv ((F x).getD M.z),.bool (F x).isSome]) w:=by
 obtain⟨D,h1,h2,h3⟩:=h;obtain⟨v,ps,hr,hv⟩:=h1.look_ok M.keyed M.und (M.zero w) (rdv_mk M.vinj M.z) (M.key' hx);rw [hr,h2 x hx];have e1:v=M.vv ((F x).getD M.z):=by
  cases e:F x with
  | none =>
   rw [atKey_of_not_has (by rw [h2 x hx,e];rfl)] at hv;exact rdv_inv hv
  | some a =>
   rw [h3 x a hx e] at hv;exact rdv_inv hv
 rw [e1]
theorem MT.At.put (h:M.At w b n F) (hn:n<maxLen){x:κ}(hx:M.kok x) (a:α) (hG:G x=some a) (hO:∀ y,y≠x→G y=F y) :
  ∃ w',(Instr.mapUpdate M.t (.map (some b)) (M.kv x) (M.vv a)).run P w=.ok () w'∧M.At w' b (n+1) G∧w.grownBy w' (some b):=by
 obtain⟨D,h1,h2,h3⟩:=h;obtain⟨w',hr,ho,hg⟩:=h1.update M.keyed M.und hn (M.key' hx) (rdv_mk M.vinj a);have hm:=h1.isMap;have hk:WideAt.IsKeyLit (M.kl x):=M.keyed.key (M.key' hx);refine⟨w',hr,⟨_,ho,fun y hy=>?_,fun y c hy hc z=>?_⟩,hg⟩
 ·by_cases e:y=x
  ·subst e;rw [has_put_same hm hk,hG];rfl
  ·rw [has_put_other (M.kl_ne hy hx e),h2 y hy,hO y e]
 ·by_cases e:y=x
  ·subst e;rw [hG] at hc;cases hc;exact atKey_put_same hm hk _ _
  ·rw [atKey_put_other (M.kl_ne hy hx e)];exact h3 y c hy (by rw [← hO y e];exact hc) z
theorem nodup_sub {β:Type}:∀ (xs ys:List β),xs.Nodup→(∀ x∈xs,x∈ys)→xs.length≤ys.length
 | [],_,_,_=>Nat.zero_le _
 | x::xs,ys,hn,hs=>by
  obtain⟨s,t,rfl⟩:=List.append_of_mem (hs x (by simp));obtain⟨h1,h2⟩:=List.nodup_cons.1 hn;have:=nodup_sub xs (s++t) h2 fun y hy=>by
   have h3:=hs y (by simp [hy]);rcases List.mem_append.1 h3 with h | h
   ·exact List.mem_append_left _ h
   ·rcases List.mem_cons.1 h with h | h
    ·subst h;exact absurd hy h1
    ·exact List.mem_append_right _ h
  simp only [List.length_append,List.length_cons] at this ⊢;omega
theorem MT.At.len (h:M.At w b n F):∃ N,N≤n∧(∀ w',w'.heap[b]?=w.heap[b]?→∀ ty,(Builtin.len_ #[M.t] ty #[.map (some b)]).run P w'=.ok (.int .i64 (N:Nat)) w')∧∀ ks:List κ,ks.Nodup→(∀ x∈ks,M.kok x∧(F x).isSome=true)→ks.length≤N:=by
 obtain⟨D,h1,h2,h3⟩:=h;refine⟨Maps.size D,h1.size_le,fun w' e ty=>?_,fun ks hn hs=>?_⟩
 ·obtain⟨es,clock,hb,r⟩:=h1;exact World.ownsMap.len (w:=w') ⟨es,clock,e.trans hb,r⟩ M.und ty
 obtain⟨es,rfl,hp,_⟩:=h1.entries M.keyed;have:=nodup_sub (ks.map M.kl) (es.map (·.1)) (by
  rw [List.nodup_iff_pairwise_ne,List.pairwise_map];exact (List.nodup_iff_pairwise_ne.1 hn).imp_of_mem fun {a c} ha hc hne=>M.kl_ne (hs a ha).1 (hs c hc).1 hne) (fun l hl=>by
  obtain⟨x,hx,rfl⟩:=List.mem_map.1 hl;have h4:=h2 x (hs x hx).1;rw [(hs x hx).2] at h4;obtain⟨p,hp,hpk⟩:=List.any_eq_true.1 h4;exact List.mem_map.2 ⟨p,hp,WideAt.sameKey_eq hpk⟩)
 rw [List.length_map,List.length_map] at this;exact this
def MT.Rng (M:MT P κ α) (w:World) (b r n:Nat) (F:κ→Option α) (left:κ→Bool) (cnt:Nat):Prop:=∃ D l,w.ranges P M.k (rdv M.vv) b r n D l cnt∧(∀ x,M.kok x→Maps.has D (M.kl x)=(F x).isSome)∧(∀ x a,M.kok x→F x=some a→∀ z,D.atKey (M.kl x) z=.held a)∧∀ x,M.kok x→l (M.kl x)=left x
theorem MT.Rng.left_eq {r cnt:Nat}{left:κ→Bool}(h:M.Rng w b r n F left cnt):w.rangeLeft b r=cnt:=by
 obtain⟨D,l,h1,_⟩:=h;exact h1.left_eq
theorem MT.Rng.lt {r cnt:Nat}{left:κ→Bool}(h:M.Rng w b r n F left cnt):r<w.heap.size∧r≠b:=by
 obtain⟨D,l,h1,_⟩:=h;exact⟨h1.lt,h1.ne⟩
theorem MT.Rng.keep {r cnt:Nat}{left:κ→Bool}(h:M.Rng w b r n F left cnt) (e1:w'.heap[b]?=w.heap[b]?) (e2:w'.heap[r]?=w.heap[r]?):M.Rng w' b r n F left cnt:=by
 obtain⟨D,l,⟨es,clock,since,seen,c0,hb,hF,hs,hD,hr,rest⟩,h2⟩:=h;exact⟨D,l,⟨es,clock,since,seen,c0,e1.trans hb,hF,hs,hD,e2.trans hr,rest⟩,h2⟩
theorem MT.At.range (h:M.At w b n F):∃ w' cnt,cnt≤n∧(Instr.range M.t (.map (some b))).run P w=.ok (.pointer (some ⟨w.heap.size,0,none⟩)) w'∧M.Rng w' b w.heap.size n F (fun x=>(F x).isSome) cnt∧w.grownBy w' none∧w'.heap.size=w.heap.size+1:=by
 obtain⟨D,h1,h2,h3⟩:=h;obtain⟨w',hr,hg,hw,hs⟩:=h1.range M.keyed M.und;exact⟨w',_,h1.size_le,hr,⟨D,_,hg,h2,h3,h2⟩,hw,hs⟩
theorem MT.Rng.next [DecidableEq κ] {r cnt:Nat}{left:κ→Bool}(h:M.Rng w b r n F left cnt) (hall:∀ v l,keyOf P M.k v=some l→∃ x,v=M.kv x∧M.kok x) (ty:TypeId) :
  (cnt=0∧(∀ x,M.kok x→left x=false)∧(Instr.next (.pointer (some ⟨r,0,none⟩)) false ty).run P w=.ok (.tuple #[.bool false]) w) ∨
  ∃ x a w' cnt',M.kok x∧left x=true∧F x=some a∧(Instr.next (.pointer (some ⟨r,0,none⟩)) false ty).run P w=.ok (.tuple #[.bool true,M.kv x,M.vv a]) w' ∧
   M.Rng w' b r n F (fun y=>left y&&decide (y≠x)) cnt'∧cnt'<cnt∧w.grownBy w' (some r)∧w'.heap.size=w.heap.size∧(Instr.entry (.pointer (some ⟨r,0,none⟩))).run P w'=.ok (.tuple #[M.kv x,M.vv a]) w':=by
 obtain⟨D,l,h1,h2,h3,h4⟩:=h;rcases h1.next M.keyed ty with ⟨hc,hl,hr⟩ | ⟨key,v,kl,y,w',cnt',hkey,hlk,hv,hat,hr,hrg,hlt,hg,hs,hen⟩
 ·exact .inl ⟨hc,fun x hx=>by rw [← h4 x hx];exact hl _,hr⟩
 ·obtain⟨x,rfl,hx⟩:=hall _ _ hkey;have ek:kl=M.kl x:=by have:=M.key' hx;rw [hkey] at this;exact Option.some.inj this
  subst ek;obtain⟨a,rfl,ha⟩:=rdv_some hv;refine .inr ⟨x,a,w',cnt',hx,(h4 x hx).symm.trans hlk,?_,hr,⟨D,_,hrg,h2,h3,fun y hy=>?_⟩,hlt,hg,hs,hen⟩
  ·cases e:F x with
   | none =>
    have h5:=hat (.lit (.bool true));have h5':=hat .nil;rw [atKey_of_not_has (by rw [h2 x hx,e];rfl)] at h5 h5';rw [← h5'] at h5;cases h5
   | some c =>
    have h5:=hat .nil;rw [h3 x c hx e,ha] at h5;cases h5;rfl
  ·show (l (M.kl y)&&!(M.kl y).sameKey (M.kl x))=_
   rw [h4 y hy]
   congr 1
   by_cases e:y=x
   ·subst e;rw [WideAt.sameKey_self (M.keyed.key (M.key' hy))];simp
   ·rw [sameKey_ne (M.kl_ne hy hx e)];simp [e]
variable {ops:Array Oper}{rest:List Oper}{o:Oper}{a:Act}{Q:Exit→Act→World→Prop}
theorem wpList_put (M:MT P κ α) (hg:o.guard=none) (m x v:Operand) (hop:o.op=Op.mapUpdate M.t m x v∨o.op=Op.insert M.t m x v) (b n:Nat) (F G:κ→Option α) (hm:a.eval m=.map (some b)) (h:M.At w b n F) (hn:n<maxLen) (y:κ) (hy:M.kok y) (hx:a.eval x=M.kv y) (c:α) (hv:a.eval v=M.vv c) (hG:G y=some c) (hO:∀ z,z≠y→G z=F z)
  (hK:∀ w',M.At w' b (n+1) G→w.grownBy w' (some b)→wpList P ops Q rest (a.put o.dst undef) w'):wpList P ops Q (o::rest) a w:=by
 refine wpList_plain hg fun K' hK'=>?_
 obtain⟨w',hrun,r1,r2⟩:=h.put hn hy c hG hO;unfold Oper.wp;rcases hop with hop | hop
 ·simp [execOp,hop,hm,hx,hv,hrun,Result.andThen];exact hK' _ _ (hK w' r1 r2)
 ·simp [execOp,hop,hm,hx,hv,hrun,Result.andThen];exact hK' _ _ (hK w' r1 r2)
theorem wpList_range (M:MT P κ α) (hg:o.guard=none) (m:Operand) (hop:o.op=Op.range M.t m) (b n:Nat) (F:κ→Option α) (hm:a.eval m=.map (some b)) (h:M.At w b n F)
  (hK:∀ w' cnt,cnt≤n→M.Rng w' b w.heap.size n F (fun x=>(F x).isSome) cnt→w.grownBy w' none→w'.heap.size=w.heap.size+1→wpList P ops Q rest (a.put o.dst (.pointer (some ⟨w.heap.size,0,none⟩))) w'):wpList P ops Q (o::rest) a w:=by
 refine wpList_plain hg fun K' hK'=>?_
 obtain⟨w',cnt,hc,hrun,r1,r2,r3⟩:=h.range;unfold Oper.wp;simp [execOp,hop,hm,hrun,Result.andThen];exact hK' _ _ (hK w' cnt hc r1 r2 r3)
theorem wpList_nextM [DecidableEq κ] (M:MT P κ α) (hg:o.guard=none) (it:Operand) (hop:o.op=Op.next it false) (hall:∀ v l,keyOf P M.k v=some l→∃ x,v=M.kv x∧M.kok x) (b r n:Nat) (F:κ→Option α) (left:κ→Bool) (cnt:Nat)
  (hit:a.eval it=.pointer (some ⟨r,0,none⟩)) (h:M.Rng w b r n F left cnt)
  (hDone:cnt=0→(∀ x,M.kok x→left x=false)→wpList P ops Q rest (a.put o.dst (.tuple #[.bool false])) w)
  (hMore:∀ (x:κ) (c:α) (w':World) (cnt':Nat),M.kok x→left x=true→F x=some c→M.Rng w' b r n F (fun y=>left y&&decide (y≠x)) cnt'→cnt'<cnt→w.grownBy w' (some r)→w'.heap.size=w.heap.size →
   (Instr.entry (.pointer (some ⟨r,0,none⟩))).run P w'=.ok (.tuple #[M.kv x,M.vv c]) w'→wpList P ops Q rest (a.put o.dst (.tuple #[.bool true,M.kv x,M.vv c])) w'):wpList P ops Q (o::rest) a w:=by
 refine wpList_plain hg fun K' hK'=>?_
 unfold Oper.wp;rcases h.next hall o.type with ⟨h0,hl,hrun⟩ | ⟨x,c,w',cnt',hx,hlk,hF,hrun,hrg,hlt,hgr,hsz,hen⟩
 ·simp [execOp,hop,hit,hrun,Result.andThen];exact hK' _ _ (hDone h0 hl)
 ·simp [execOp,hop,hit,hrun,Result.andThen];exact hK' _ _ (hMore x c w' cnt' hx hlk hF hrg hlt hgr hsz hen)
end
end Go.Proofs.YtopepebcnaikiaaGreatDoor.Mq
namespace Go.Proofs.YtopepebcnaikiaaGreatDoor.Pk
open Lib (hid)
def be:Nat→Nat→List UInt8
 | 0,_=>[]
 | k+1,n=>be k (n / 256)++[UInt8.ofNat n]
def num (l:List UInt8):Nat:=l.foldl (fun a b=>a*256+b.toNat) 0
theorem be_length (k n:Nat):(be k n).length=k:=by
 induction k generalizing n with
 | zero=>rfl
 | succ k ih=>simp [be,ih]
theorem num_snoc (l:List UInt8) (b:UInt8):num (l++[b])=num l*256+b.toNat:=by simp [num]
theorem num_be (k n:Nat) (h:n<256 ^ k):num (be k n)=n:=by
 induction k generalizing n with
 | zero=>simp at h;subst h;rfl
 | succ k ih =>
  have h':n / 256<256 ^ k:=by rw [Nat.pow_succ] at h;omega
  rw [be,num_snoc,ih _ h'];simp;omega
theorem num_lt (l:List UInt8):num l<256 ^ l.length:=by
 have key:∀ (r:List UInt8),num r.reverse<256 ^ r.length:=by
  intro r;induction r with
  | nil=>simp [num]
  | cons b r ih =>
   rw [List.reverse_cons,num_snoc,List.length_cons,Nat.pow_succ];have:=b.toNat_lt;omega
 have:=key l.reverse;simpa using this
theorem be_get (k n i:Nat) (h:i<k):(be k n)[i]'(by rw [be_length];exact h)=UInt8.ofNat (n / 256 ^ (k-1-i)):=by
 induction k generalizing n with
 | zero=>omega
 | succ k ih =>
  by_cases hi:i=k
  ·subst hi;simp [be,be_length]
  ·have hi':i<k:=by omega
   simp only [be];rw [List.getElem_append_left (by rw [be_length];exact hi'),ih _ hi'];rw [Nat.div_div_eq_div_mul,show k+1-1-i=(k-1-i)+1 by omega,Nat.pow_succ,Nat.mul_comm]
theorem pow_256 (k:Nat):2 ^ (8*k)=256 ^ k:=by rw [Nat.pow_mul]
def fill (k n i:Nat):List UInt8:=(be k n).take i++List.replicate (k-i) 0
theorem fill_length (k n i:Nat) (h:i≤k):(fill k n i).length=k:=by simp [fill,be_length];omega
theorem fill_zero (k n:Nat):fill k n 0=List.replicate k 0:=by simp [fill]
theorem fill_all (k n:Nat):fill k n k=be k n:=by simp [fill,List.take_of_length_le (show (be k n).length≤k by rw [be_length];exact Nat.le_refl _)]
theorem fill_set (k n i:Nat) (h:i<k):(fill k n i).set i (UInt8.ofNat (n / 256 ^ (k-1-i)))=fill k n (i+1):=by
 rw [← be_get k n i h];apply List.ext_getElem?;intro j;have hl:=be_length k n;rw [List.getElem?_set];have e1:min i k=i:=by omega
 have e2:min (i+1) k=i+1:=by omega
 simp only [fill,List.getElem?_append,List.length_take,hl,List.getElem?_take,List.getElem?_replicate,List.length_append,List.length_replicate,e1,e2];by_cases hj:i=j
 ·subst hj;rw [List.getElem?_eq_getElem (show i<(be k n).length by omega)];simp;omega
 ·simp only [hj,if_false];rcases Nat.lt_or_ge j i with h2 | h2
  ·have h3:j<i+1:=by omega
   simp only [h2,h3,if_true]
  ·have h4:¬ j<i:=by omega
   have h3:¬ j<i+1:=by omega
   simp only [h4,h3,if_false];rcases Nat.lt_or_ge j k with h5 | h5
   ·rw [if_pos (by omega),if_pos (by omega)]
   ·rw [if_neg (by omega),if_neg (by omega)]
def u8s (l:List UInt8):List Value:=l.map fun b=>Value.int .u8 (b.toNat:Int)
theorem u8s_length (l:List UInt8):(u8s l).length=l.length:=by simp [u8s]
theorem u8s_set (l:List UInt8) (i:Nat) (b:UInt8):(u8s l).set i (.int .u8 (b.toNat:Int))=u8s (l.set i b):=by simp [u8s,List.map_set]
theorem u8s_get (l:List UInt8) (i:Nat) (h:i<l.length):(u8s l)[i]?=some (.int .u8 (l[i].toNat:Int)):=by simp [u8s,List.getElem?_eq_getElem h]
open Go.ChangeShapes Go.WideShapes Go.ChangeAt Go.RowKit
theorem rightW (n:Int) (h1:1≤n) (h2:n≤8) (w:World) :
  Calls Tryz.prog 152 #[.int .i64 n] w fun e w'=>e=.returned (.bool true)∧w=w':=by
 go_enter Tryz.func152,Tryz.ntmps152
 go_wp2
 go_ret
 exact⟨rfl,rfl⟩
theorem rightW_no (n:Int) (h:¬ (1≤n∧n≤8)) (w:World) :
  Calls Tryz.prog 152 #[.int .i64 n] w fun e w'=>e=.returned (.bool false)∧w=w':=by
 by_cases h1:1≤n
 ·have h2:decide (n≤8)=false:=by simp;omega
  clear h
  go_enter Tryz.func152,Tryz.ntmps152
  go_wp2
  go_ret
  exact⟨rfl,rfl⟩
 ·have h2:n<1:=by omega
  clear h
  go_enter Tryz.func152,Tryz.ntmps152
  go_wp2
  go_ret
  exact⟨rfl,rfl⟩
theorem info5:(Tryz.prog.info? 5).map (fun i=>(i.zero,i.size,i.bytes))=some (some (.int .u8 0),1,1):=by kernel_rfl
theorem number_yes (n k:Nat) (w:World) (h0:n<18446744073709551616) (h1:1≤k) (h2:k≤8) (h3:n<2 ^ (8*k)) :
  Calls Tryz.prog 124 #[.int .u64 n,.int .i64 k] w fun e w'=>e=.returned (.tuple #[.string ⟨(be k n).toArray⟩,.int .i64 0])∧Below w.heap.size w w':=by
 obtain⟨i0,hi,hz0,hz1,hz2⟩:=info_parts info5;have hb2:i0.bytes*k≤281474976710656:=by rw [hz2];omega
 have hb3:k≤maxLen:=by unfold maxLen;omega
 have hsh:((n:Int) / 2 ^ (8*k) != 0)=false:=by
  have:(n:Int) / 2 ^ (8*k)=0:=Int.ediv_eq_zero_of_lt (by omega) (by exact_mod_cast h3);simp [this]
 clear h3
 go_enter Tryz.func124,Tryz.ntmps124
 go_wp2_with (first|(go_at_call 152;refine (rightW _ (by omega) (by omega) _).mono ?_;rintro e w' ⟨rfl,rfl⟩)|(at_make;go_loud (refine wpList_make_full _ rfl _ _ 116 rfl w.heap.size 5 i0 (.int .u8 0) 1 Tryz.underlying116 hi hz0 hz1 .i64 .i64 _ _ k rfl rfl rfl rfl hb2 hb3 (Nat.le_refl _) ?_);intro w1 hown hgr))
 have hs0:=hgr.size
 go_loopw [22] (fun v wr=>∃ i:Nat,i≤k∧v=.int .i64 i∧wr.ownsRow w.heap.size 5 1 (.slice (some ⟨w.heap.size,0,none⟩) k k) k (u8s (fill k n i))∧Below w.heap.size w wr) (fun v _=>k-(intOf v).toNat)
 case atStart =>
  refine⟨0,Nat.zero_le _,rfl,?_,(Below.refl _ _).grown hgr (Nat.le_refl _) (by intro k h;cases h)⟩;have e:(madeCells (Value.int IntKind.u8 0).cells (k*1)).toList=u8s (fill k n 0):=by
   rw [fill_zero];simp [u8s,Value.cells,toList_madeCells_one]
  rw [e] at hown;exact hown
 case round =>
  obtain⟨i,hile,rfl,hown',hbel⟩:=hrel;clear hgr hown hi hz0 hz1 hz2 hb2 hb3;by_cases hlt:i<k
  ·have hfr:=hown'.frozenAt i;obtain⟨x,hce⟩:∃ x,wr.cell? ⟨w.heap.size,i,none⟩=some (.int .u8 x):=by
    rw [hown'.cellAt i (by omega),u8s_get _ _ (by rw [fill_length _ _ _ (by omega)];omega)];exact⟨_,rfl⟩
   have hbk:0≤(k:Int)-1-i:=by omega
   have hst:=hown'.stored i (.int .u8 ((UInt8.ofNat (n / 256 ^ (k-1-i))).toNat:Int));rw [u8s_set,fill_set k n i hlt] at hst;have ev:((UInt8.ofNat (n / 256 ^ (k-1-i))).toNat:Int)=(n:Int) / 2 ^ (8*(k-1-i))%256:=by
    rw [← pow_256];simp
   rw [ev] at hst;have hb':=hbel.grown hst.2 hbel.size (by intro q h;cases h;exact Nat.le_refl _);have HO:=hid hst.1;clear hst ev hown'
   go_wp2
   go_roundw
   case rel=>exact⟨i+1,by omega,by go_num,HO.out,hb'⟩
   case measure=>simp [intOf];omega
  ·have hik:i=k:=by omega
   subst hik;rw [fill_all] at hown';have hcv:=run_convert_bytes_back (P:=Tryz.prog) wr 116 9 5 ⟨w.heap.size,0,none⟩ i (be i n) Tryz.underlying116 Tryz.underlying5 Tryz.underlying9 (by
    intro j hj;have hplain:(⟨w.heap.size,0,none⟩:Addr).add j=⟨w.heap.size,j,none⟩:=by unfold Addr.add;split<;>simp_all
    rw [hplain];rw [be_length] at hj;have:=hown'.cellAt j (by omega);rw [u8s_get _ _ (by rw [be_length];omega)] at this;simpa using this)
   rw [be_length] at hcv;clear hown'
   go_wp2
   go_ret2
   exact⟨rfl,hbel⟩
theorem number_range (n k:Int) (w:World) (h:¬ (1≤k∧k≤8)) :
  Calls Tryz.prog 124 #[.int .u64 n,.int .i64 k] w fun e w'=>e=.returned (.tuple #[.string ByteArray.empty,.int .i64 1])∧w=w':=by
 have H:=hid h;clear h
 go_enter Tryz.func124,Tryz.ntmps124
 go_wp2_with (first|(go_at_call 152;refine (rightW_no _ H.out _).mono ?_;rintro e w' ⟨rfl,rfl⟩))
 go_ret2
 exact⟨rfl,rfl⟩
theorem number_big (n k:Nat) (w:World) (h0:n<18446744073709551616) (h1:1≤k) (h2:k≤8) (h3:¬ n<256 ^ k) :
  Calls Tryz.prog 124 #[.int .u64 n,.int .i64 k] w fun e w'=>e=.returned (.tuple #[.string ByteArray.empty,.int .i64 1])∧w=w':=by
 have hsh:((n:Int) / 2 ^ (8*k) != 0)=true:=by
  have:n / 2 ^ (8*k)≠0:=by
   rw [pow_256];intro e;rcases Nat.div_eq_zero_iff.1 e with h | h
   ·have:0<256 ^ k:=Nat.pow_pos (by omega);omega
   ·exact h3 h
  simp
  exact_mod_cast this
 clear h3
 go_enter Tryz.func124,Tryz.ntmps124
 go_wp2_with (first|(go_at_call 152;refine (rightW _ (by omega) (by omega) _).mono ?_;rintro e w' ⟨rfl,rfl⟩))
 go_ret2
 exact⟨rfl,rfl⟩
theorem take_range (s:ByteArray) (k:Int) (w:World) (h:¬ (1≤k∧k≤8)) :
  Calls Tryz.prog 163 #[.string s,.int .i64 k] w fun e w'=>e=.returned (.tuple #[.int .u64 0,.string ByteArray.empty,.int .i64 1])∧w=w':=by
 have H:=hid h;clear h
 go_enter Tryz.func163,Tryz.ntmps163
 go_wp2_with (first|(go_at_call 152;refine (rightW_no _ H.out _).mono ?_;rintro e w' ⟨rfl,rfl⟩))
 go_ret3
 exact⟨rfl,rfl⟩
theorem take_more (s:ByteArray) (k:Nat) (w:World) (h1:1≤k) (h2:k≤8) (h3:s.size<k) :
  Calls Tryz.prog 163 #[.string s,.int .i64 k] w fun e w'=>e=.returned (.tuple #[.int .u64 0,.string ByteArray.empty,.int .i64 3])∧w=w':=by
 go_enter Tryz.func163,Tryz.ntmps163
 go_wp2_with (first|(go_at_call 152;refine (rightW _ (by omega) (by omega) _).mono ?_;rintro e w' ⟨rfl,rfl⟩))
 go_ret3
 exact⟨rfl,rfl⟩
theorem take_snoc (s:ByteArray) (k:Nat) (h:k<s.size):s.data.toList.take (k+1)=s.data.toList.take k++[s[k]]:=by
 rw [List.take_succ_eq_append_getElem (by simpa using h)];rfl
theorem num_small (l:List UInt8) (i:Nat) (h:i≤7):num (l.take i)<72057594037927936:=by
 have h1:=num_lt (l.take i);have h2:(l.take i).length≤7:=by rw [List.length_take];omega
 have h3:=Nat.pow_le_pow_right (show 256>0 by omega) h2;omega
theorem or_byte (m:Nat) (b:UInt8) (h:m<72057594037927936):bits BinOp.or IntKind.u64 ((m:Int)*256) (IntKind.u64.wrap (b.toNat:Int))=((m*256+b.toNat:Nat):Int):=by
 have hb:=b.toNat_lt;have hw:IntKind.u64.wrap (b.toNat:Int)=((b.toNat:Nat):Int):=by rw [IntKind.wrap_u64];omega
 have e:((m:Int)*256)=((m*256:Nat):Int):=by omega
 rw [hw,e,bits_or_u64_nat _ _ (by omega) (by omega)]
 congr 1
 have:=Nat.shiftLeft_add_eq_or_of_lt (a:=m) (b:=b.toNat) (i:=8) (by omega);rw [Nat.shiftLeft_eq] at this;exact this.symm
theorem take_yes (s:ByteArray) (k:Nat) (w:World) (h1:1≤k) (h2:k≤8) (h3:k≤s.size) (h4:s.size≤maxLen) :
  Calls Tryz.prog 163 #[.string s,.int .i64 k] w fun e w'=>e=.returned (.tuple #[.int .u64 (num (s.data.toList.take k):Nat),.string (s.extract k s.size),.int .i64 0])∧∃ q,w'=w.drewN q:=by
 unfold maxLen at h4;have hd:decide (s.size<k)=false:=by simp;omega
 go_enter Tryz.func163,Tryz.ntmps163
 go_wp2_with (first|(go_at_call 152;refine (rightW _ (by omega) (by omega) _).mono ?_;rintro e w' ⟨rfl,rfl⟩))
 go_loop [7,17] (fun t v=>∃ i:Nat,i≤k∧v=.int .i64 i∧t=.int .u64 (num (s.data.toList.take i):Nat)) (fun _ v=>k-(intOf v).toNat)
 case atStart=>exact⟨0,Nat.zero_le _,rfl,rfl⟩
 case round =>
  obtain⟨i,hi,rfl,rfl⟩:=hrel;by_cases hlt:i<k
  ·have hb:=num_small s.data.toList i (by omega);have hx:i<s.size:=by omega
   have HS:Hid (bits BinOp.or IntKind.u64 ((num (s.data.toList.take i):Int)*256) (IntKind.u64.wrap ((s[i]).toNat:Int))=((num (s.data.toList.take (i+1)):Nat):Int)):=by
    rw [take_snoc s i hx,num_snoc];exact or_byte _ _ hb
   go_wp2
   go_round
   case rel=>exact⟨i+1,by omega,by go_num,congrArg (Value.int .u64) HS.out⟩
   case measure=>simp [intOf];omega
  ·obtain rfl:i=k:=by omega
   go_wp2
   go_quiet (fail)
   go_wp2
   go_ret3
   exact⟨rfl,_,rfl⟩
def bs (l:List UInt8):ByteArray:=⟨l.toArray⟩
def numOk (n:Nat) (k:Int):Bool:=decide (1≤k∧k≤8∧n<256 ^ k.toNat)
def nB (n:Nat) (k:Int):ByteArray:=if numOk n k then bs (be k.toNat n) else ByteArray.empty
def nE (n:Nat) (k:Int):Int:=if numOk n k then 0 else 1
def tN (s:ByteArray) (k:Int):Int:=if 1≤k∧k≤8∧k.toNat≤s.size then (num (s.data.toList.take k.toNat):Nat) else 0
def tR (s:ByteArray) (k:Int):ByteArray:=if 1≤k∧k≤8∧k.toNat≤s.size then s.extract k.toNat s.size else ByteArray.empty
def tE (s:ByteArray) (k:Int):Int:=if 1≤k∧k≤8 then (if k.toNat≤s.size then 0 else 3) else 1
theorem ret2 {k:IntKind}{a a':ByteArray}{b b':Int}(h1:a=a') (h2:b=b'):Ending.returned (.tuple #[.string a,.int k b])=.returned (.tuple #[.string a',.int k b']):=by rw [h1,h2]
theorem ret3 {k k':IntKind}{a a':ByteArray}{b b' c c':Int}(h0:c=c') (h1:a=a') (h2:b=b'):Ending.returned (.tuple #[.int k' c,.string a,.int k b])=.returned (.tuple #[.int k' c',.string a',.int k b']):=by rw [h0,h1,h2]
theorem below_drewN' (w:World) (q:Nat):Below w.heap.size w (w.drewN q):=by
 exact⟨rfl,rfl,rfl,Nat.le_refl _,fun _ _=>rfl⟩
theorem number_any (n:Nat) (k:Int) (w:World) (h0:n<18446744073709551616) :
  Calls Tryz.prog 124 #[.int .u64 n,.int .i64 k] w fun e w'=>e=.returned (.tuple #[.string (nB n k),.int .i64 (nE n k)])∧Below w.heap.size w w':=by
 by_cases hk:1≤k∧k≤8
 ·obtain⟨m,rfl⟩:∃ m:Nat,k=m:=⟨k.toNat,by omega⟩;by_cases hn:n<256 ^ m
  ·have e:numOk n m=true:=by unfold numOk;simp only [decide_eq_true_eq,Int.toNat_natCast];exact⟨hk.1,hk.2,hn⟩
   refine (number_yes n m w h0 (by omega) (by omega) (by rw [pow_256];exact hn)).mono fun e w' ⟨he,hw⟩=>⟨he.trans (ret2 ?_ ?_),hw⟩
   ·rw [nB,if_pos ‹_›,Int.toNat_natCast];rfl
   ·rw [nE,if_pos ‹_›]
  ·have e:¬ numOk n m=true:=by unfold numOk;simp only [decide_eq_true_eq,Int.toNat_natCast];exact fun h=>hn h.2.2
   refine (number_big n m w h0 (by omega) (by omega) hn).mono fun e w' ⟨he,hw⟩=>⟨he.trans (ret2 ?_ ?_),hw▸Below.refl _ _⟩
   ·rw [nB,if_neg ‹_›]
   ·rw [nE,if_neg ‹_›]
 ·have e:¬ numOk n k=true:=by unfold numOk;simp only [decide_eq_true_eq];exact fun h=>hk ⟨h.1,h.2.1⟩
  refine (number_range n k w hk).mono fun e w' ⟨he,hw⟩=>⟨he.trans (ret2 ?_ ?_),hw▸Below.refl _ _⟩
  ·rw [nB,if_neg ‹_›]
  ·rw [nE,if_neg ‹_›]
theorem take_any (s:ByteArray) (k:Int) (w:World) (h4:s.size≤maxLen) :
  Calls Tryz.prog 163 #[.string s,.int .i64 k] w fun e w'=>e=.returned (.tuple #[.int .u64 (tN s k),.string (tR s k),.int .i64 (tE s k)])∧Below w.heap.size w w':=by
 by_cases hk:1≤k∧k≤8
 ·obtain⟨m,rfl⟩:∃ m:Nat,k=m:=⟨k.toNat,by omega⟩;by_cases hn:m≤s.size
  ·have hc:1≤(m:Int)∧(m:Int)≤8∧(m:Int).toNat≤s.size:=⟨hk.1,hk.2,by simpa using hn⟩;refine (take_yes s m w (by omega) (by omega) hn h4).mono fun e w' ⟨he,q,hw⟩=>⟨he.trans (ret3 ?_ ?_ ?_),hw▸below_drewN' _ _⟩
   ·rw [tN,if_pos hc,Int.toNat_natCast]
   ·rw [tR,if_pos hc,Int.toNat_natCast]
   ·rw [tE,if_pos hk,if_pos hc.2.2]
  ·have hc:¬ (1≤(m:Int)∧(m:Int)≤8∧(m:Int).toNat≤s.size):=fun h=>hn (by simpa using h.2.2)
   refine (take_more s m w (by omega) (by omega) (by omega)).mono fun e w' ⟨he,hw⟩=>⟨he.trans (ret3 ?_ ?_ ?_),hw▸Below.refl _ _⟩
   ·rw [tN,if_neg hc]
   ·rw [tR,if_neg hc]
   ·rw [tE,if_pos hk,if_neg (by simpa using hn)]
 ·have hc:¬ (1≤k∧k≤8∧k.toNat≤s.size):=fun h=>hk ⟨h.1,h.2.1⟩
  refine (take_range s k w hk).mono fun e w' ⟨he,hw⟩=>⟨he.trans (ret3 ?_ ?_ ?_),hw▸Below.refl _ _⟩
  ·rw [tN,if_neg hc]
  ·rw [tR,if_neg hc]
  ·rw [tE,if_neg hk]
theorem text_yes (t:ByteArray) (w:World) (h:t.size≤65535) :
  Calls Tryz.prog 85 #[.string t] w fun e w'=>e=.returned (.tuple #[.string (bs (be 2 t.size)++t),.int .i64 0])∧Below w.heap.size w w':=by
 have hok:numOk t.size 2=true:=by unfold numOk;rw [decide_eq_true_eq];exact⟨by omega,by omega,by show t.size<65536;omega⟩
 have e1:nB t.size 2=bs (be 2 t.size):=by rw [nB,if_pos hok];rfl
 have e2:nE t.size 2=0:=by rw [nE,if_pos hok]
 have hc:=(number_any t.size 2 w (by omega));rw [e1,e2] at hc;have hs:(bs (be 2 t.size)).size=2:=by show (be 2 t.size).toArray.size=2;rw [List.size_toArray,be_length]
 have hz:(bs (be 2 t.size)).size≤2:=by omega
 clear e1 e2 hok hs
 go_enter Tryz.func85,Tryz.ntmps85
 go_wp2_with (first|(go_at_call 124;refine hc.mono ?_;rintro e w' ⟨rfl,hbel⟩))
 go_ret2
 exact⟨rfl,hbel⟩
theorem text_long (t:ByteArray) (w:World) (h:65535<t.size) :
  Calls Tryz.prog 85 #[.string t] w fun e w'=>e=.returned (.tuple #[.string ByteArray.empty,.int .i64 2])∧w=w':=by
 go_enter Tryz.func85,Tryz.ntmps85
 go_wp2
 go_ret2
 exact⟨rfl,rfl⟩
def uN (s:ByteArray):Nat:=num (s.data.toList.take 2)
def uOk (s:ByteArray):Bool:=decide (2≤s.size∧uN s≤s.size-2)
def uT (s:ByteArray):ByteArray:=if uOk s then (s.extract 2 s.size).extract 0 (uN s) else ByteArray.empty
def uR (s:ByteArray):ByteArray:=if uOk s then (s.extract 2 s.size).extract (uN s) (s.size-2) else ByteArray.empty
def uE (s:ByteArray):Int:=if uOk s then 0 else 3
def xB (t:ByteArray):ByteArray:=if t.size≤65535 then bs (be 2 t.size)++t else ByteArray.empty
def xE (t:ByteArray):Int:=if t.size≤65535 then 0 else 2
theorem ret3s {k:IntKind}{a a':ByteArray}{b b':Int}{c c':ByteArray}(h0:c=c') (h1:a=a') (h2:b=b'):Ending.returned (.tuple #[.string c,.string a,.int k b])=.returned (.tuple #[.string c',.string a',.int k b']):=by rw [h0,h1,h2]
theorem text_any (t:ByteArray) (w:World) :
  Calls Tryz.prog 85 #[.string t] w fun e w'=>e=.returned (.tuple #[.string (xB t),.int .i64 (xE t)])∧Below w.heap.size w w':=by
 by_cases h:t.size≤65535
 ·refine (text_yes t w h).mono fun e w' ⟨he,hw⟩=>⟨he.trans (ret2 ?_ ?_),hw⟩
  ·rw [xB,if_pos h]
  ·rw [xE,if_pos h]
 ·refine (text_long t w (by omega)).mono fun e w' ⟨he,hw⟩=>⟨he.trans (ret2 ?_ ?_),hw▸Below.refl _ _⟩
  ·rw [xB,if_neg h]
  ·rw [xE,if_neg h]
theorem taketext_any (s:ByteArray) (w:World) (h4:s.size≤maxLen) :
  Calls Tryz.prog 192 #[.string s] w fun e w'=>e=.returned (.tuple #[.string (uT s),.string (uR s),.int .i64 (uE s)])∧Below w.heap.size w w':=by
 by_cases h2:2≤s.size
 ·have hc:=take_yes s 2 w (by omega) (by omega) h2 h4;unfold maxLen at h4;obtain⟨n,hn⟩:∃ n,n=uN s:=⟨_,rfl⟩;rw [show num (s.data.toList.take 2)=n from hn.symm] at hc;have HN:=hid hn;clear hn;by_cases h3:n≤s.size-2
  ·have hd:decide (s.size-2<n)=false:=by simp;omega
   go_enter Tryz.func192,Tryz.ntmps192
   go_wp2_with (first|(go_at_call 163;refine hc.mono ?_;rintro e w' ⟨rfl,q,rfl⟩))
   go_quiet (fail)
   go_wp2
   go_ret3
   have hok:uOk s=true:=by unfold uOk;rw [decide_eq_true_eq,← HN.out];exact⟨h2,h3⟩
   refine⟨ret3s ?_ ?_ ?_,⟨rfl,rfl,rfl,Nat.le_refl _,fun _ _=>rfl⟩⟩
   ·rw [uT,if_pos hok,← HN.out]
   ·rw [uR,if_pos hok,← HN.out]
   ·rw [uE,if_pos hok]
  ·have hd:s.size-2<n:=by omega
   go_enter Tryz.func192,Tryz.ntmps192
   go_wp2_with (first|(go_at_call 163;refine hc.mono ?_;rintro e w' ⟨rfl,q,rfl⟩))
   go_ret3
   have hok:¬ uOk s=true:=by unfold uOk;rw [decide_eq_true_eq,← HN.out];exact fun h=>h3 h.2
   refine⟨ret3s ?_ ?_ ?_,below_drewN' w q⟩
   ·rw [uT,if_neg hok];rfl
   ·rw [uR,if_neg hok];rfl
   ·rw [uE,if_neg hok]
 ·have hc:=take_more s 2 w (by omega) (by omega) (by omega);have hok:¬ uOk s=true:=by unfold uOk;rw [decide_eq_true_eq];exact fun h=>h2 h.1
  have HO:=hid hok;clear hok
  go_enter Tryz.func192,Tryz.ntmps192
  go_wp2_with (first|(go_at_call 163;refine hc.mono ?_;rintro e w' ⟨rfl,rfl⟩))
  go_ret3
  refine⟨ret3s ?_ ?_ ?_,Below.refl _ _⟩
  ·rw [uT,if_neg HO.out];rfl
  ·rw [uR,if_neg HO.out];rfl
  ·rw [uE,if_neg HO.out]
theorem bs_append (a b:List UInt8):bs a++bs b=bs (a++b):=by
 apply ByteArray.ext;simp [bs]
theorem bs_size (l:List UInt8):(bs l).size=l.length:=by show l.toArray.size=_;rw [List.size_toArray]
theorem be_cons (i n:Nat):UInt8.ofNat (n / 256 ^ i)::be i n=be (i+1) n:=by
 induction i generalizing n with
 | zero=>simp [be]
 | succ i ih =>
  rw [be,← List.cons_append,be,← ih (n / 256),Nat.div_div_eq_div_mul,Nat.pow_succ,Nat.mul_comm]
theorem below_q (w w1:World) (q:Nat) (h:Below w.heap.size w w1):Below w.heap.size w (w1.drewN q):=⟨h.os,h.tape,h.output,h.size,h.block⟩
theorem mod_pow_succ (n k:Nat):n%256 ^ (k+1)=(n / 256 ^ k%256)*256 ^ k+n%256 ^ k:=by
 rw [Nat.pow_succ,Nat.mod_mul,Nat.mul_comm (256 ^ k),Nat.add_comm]
theorem bytesLess_be (k m n:Nat):Op.bytesLess (be k m) (be k n)=decide (m%256 ^ k<n%256 ^ k):=by
 induction k with
 | zero=>simp [be,Op.bytesLess,Nat.mod_one]
 | succ k ih =>
  have hp:0<256 ^ k:=Nat.pow_pos (by omega);have hm:=Nat.mod_lt m hp;have hn:=Nat.mod_lt n hp;rw [← be_cons,← be_cons,mod_pow_succ m k,mod_pow_succ n k];show (decide (UInt8.ofNat (m / 256 ^ k)<UInt8.ofNat (n / 256 ^ k))||(UInt8.ofNat (m / 256 ^ k)==UInt8.ofNat (n / 256 ^ k)&&Op.bytesLess (be k m) (be k n)))=_
  rw [ih,Bool.eq_iff_iff];have hlt:UInt8.ofNat (m / 256 ^ k)<UInt8.ofNat (n / 256 ^ k)↔m / 256 ^ k%256<n / 256 ^ k%256:=by
   rw [UInt8.lt_iff_toNat_lt];simp
  have heq:UInt8.ofNat (m / 256 ^ k)=UInt8.ofNat (n / 256 ^ k)↔m / 256 ^ k%256=n / 256 ^ k%256:=by
   rw [← UInt8.toNat_inj];simp
  simp only [Bool.or_eq_true,Bool.and_eq_true,decide_eq_true_eq,beq_iff_eq,hlt,heq];generalize m / 256 ^ k%256=a;generalize n / 256 ^ k%256=b;generalize hA:m%256 ^ k=c at *;generalize hB:n%256 ^ k=d at *;generalize 256 ^ k=q at *;constructor
  ·rintro (h | ⟨h1,h2⟩)
   ·have:(a+1)*q≤b*q:=Nat.mul_le_mul_right _ h;rw [Nat.add_mul] at this;omega
   ·subst h1;omega
  ·intro h;rcases Nat.lt_trichotomy a b with h1 | h1 | h1
   ·exact Or.inl h1
   ·subst h1;exact Or.inr ⟨rfl,by omega⟩
   ·have:(b+1)*q≤a*q:=Nat.mul_le_mul_right _ h1;rw [Nat.add_mul] at this;omega
theorem bs_list (l:List UInt8):(bs l).toList=l:=by rw [ByteArray.toList_eq];rfl
theorem bs_data (l:List UInt8):(bs l).data.toList=l:=rfl
theorem numOk_iff {n:Nat}{k:Int}:numOk n k=true↔1≤k∧k≤8∧n<256 ^ k.toNat:=by unfold numOk;rw [decide_eq_true_eq]
theorem nB_ok {n:Nat}{k:Int}(h:numOk n k=true):nB n k=bs (be k.toNat n):=by rw [nB,if_pos h]
theorem nB_size {n:Nat}{k:Int}(h:numOk n k=true):((nB n k).size:Int)=k:=by
 have:=numOk_iff.1 h;rw [nB_ok h,bs_size,be_length];omega
theorem append_take (a:List UInt8) (r:ByteArray) (n:Nat) (h:n=a.length):(bs a++r).data.toList.take n=a:=by
 rw [ByteArray.data_append,Array.toList_append,bs_data,h,List.take_left]
theorem tN_back {n:Nat}{k:Int}(h:numOk n k=true) (r:ByteArray):tN (nB n k++r) k=n:=by
 obtain⟨h1,h2,h3⟩:=numOk_iff.1 h;rw [nB_ok h,tN,if_pos ⟨h1,h2,by rw [ByteArray.size_append,bs_size,be_length];omega⟩,append_take _ _ _ (by rw [be_length]),num_be _ _ h3]
theorem tR_back {n:Nat}{k:Int}(h:numOk n k=true) (r:ByteArray):tR (nB n k++r) k=r:=by
 obtain⟨h1,h2,h3⟩:=numOk_iff.1 h;rw [nB_ok h,tR,if_pos ⟨h1,h2,by rw [ByteArray.size_append,bs_size,be_length];omega⟩];exact ByteArray.extract_append_eq_right (by rw [bs_size,be_length]) (by rw [ByteArray.size_append])
theorem tE_back {n:Nat}{k:Int}(h:numOk n k=true) (r:ByteArray):tE (nB n k++r) k=0:=by
 obtain⟨h1,h2,h3⟩:=numOk_iff.1 h;rw [nB_ok h,tE,if_pos ⟨h1,h2⟩,if_pos (by rw [ByteArray.size_append,bs_size,be_length];omega)]
theorem xB_size {t:ByteArray}(h:t.size≤65535):(xB t).size=t.size+2:=by
 rw [xB,if_pos h,ByteArray.size_append,bs_size,be_length];omega
theorem xB_app {t:ByteArray}(h:t.size≤65535) (r:ByteArray):xB t++r=bs (be 2 t.size)++(t++r):=by
 rw [xB,if_pos h,ByteArray.append_assoc]
theorem uN_back {t:ByteArray}(h:t.size≤65535) (r:ByteArray):uN (xB t++r)=t.size:=by
 rw [uN,xB_app h,append_take _ _ _ (by rw [be_length]),num_be _ _ (by omega)]
theorem uOk_back {t:ByteArray}(h:t.size≤65535) (r:ByteArray):uOk (xB t++r)=true:=by
 unfold uOk;rw [decide_eq_true_eq,uN_back h,ByteArray.size_append,xB_size h];omega
theorem uCut {t:ByteArray}(h:t.size≤65535) (r:ByteArray):(xB t++r).extract 2 (xB t++r).size=t++r:=by
 rw [xB_app h];exact ByteArray.extract_append_eq_right (by rw [bs_size,be_length]) (by rw [ByteArray.size_append])
theorem uT_back {t:ByteArray}(h:t.size≤65535) (r:ByteArray):uT (xB t++r)=t:=by
 rw [uT,if_pos (uOk_back h r),uN_back h,uCut h];exact ByteArray.extract_append_eq_left rfl
theorem uR_back {t:ByteArray}(h:t.size≤65535) (r:ByteArray):uR (xB t++r)=r:=by
 rw [uR,if_pos (uOk_back h r),uN_back h,uCut h];exact ByteArray.extract_append_eq_right rfl (by rw [ByteArray.size_append,xB_size h];omega)
theorem uE_back {t:ByteArray}(h:t.size≤65535) (r:ByteArray):uE (xB t++r)=0:=by rw [uE,if_pos (uOk_back h r)]
end Go.Proofs.YtopepebcnaikiaaGreatDoor.Pk
namespace Go.Proofs.YtopepebcnaikiaaGreatDoor.Ph
open Lib (hid)
def nm (l:List UInt8):Bool:=!l.isEmpty&&decide (l.length≤24)&&!(l==[46])&&!(l==[46,46])&&!l.contains 47&&!l.contains 0
theorem nm_iff {l:List UInt8}:nm l=true↔l≠[]∧l.length≤24∧l≠[46]∧l≠[46,46]∧47 ∉ l∧0 ∉ l:=by
 unfold nm;cases l with
 | nil=>simp
 | cons a l=>simp [and_assoc,Classical.or_iff_not_imp_left]
def nb (s:ByteArray):Bool:=nm s.data.toList
theorem nm_len {l:List UInt8}(h:nm l=true):1≤l.length∧l.length≤24:=by
 obtain⟨h1,h2,_⟩:=nm_iff.1 h;refine⟨?_,h2⟩;cases l with
 | nil=>exact absurd rfl h1
 | cons a l=>simp
def cut:List UInt8→List (List UInt8)
 | []=>[[]]
 | c::l=>if c=47 then []::cut l else (c::(cut l).headD [])::(cut l).tail
theorem cut_ne (l:List UInt8):cut l≠[]:=by
 cases l with
 | nil=>simp [cut]
 | cons c l=>unfold cut;split<;>simp
theorem cut_head (l:List UInt8):cut l=(cut l).headD []::(cut l).tail:=by
 cases h:cut l with
 | nil=>exact absurd h (cut_ne l)
 | cons a r=>simp
theorem cut_none {l:List UInt8}(h:47 ∉ l):cut l=[l]:=by
 induction l with
 | nil=>rfl
 | cons c l ih =>
  rw [List.mem_cons,not_or] at h;rw [cut,if_neg (fun e=>h.1 e.symm),ih h.2];rfl
theorem cut_app {l:List UInt8}(r:List UInt8) (h:47 ∉ l):cut (l++47::r)=l::cut r:=by
 induction l with
 | nil=>simp [cut]
 | cons c l ih =>
  rw [List.mem_cons,not_or] at h;rw [List.cons_append,cut,if_neg (fun e=>h.1 e.symm),ih h.2];rfl
def joi:List (List UInt8)→List UInt8
 | []=>[]
 | x::r=>if r=[] then x else x++47::joi r
theorem joi_one (x:List UInt8):joi [x]=x:=by simp [joi]
theorem joi_cons {x:List UInt8}{r:List (List UInt8)}(h:r≠[]):joi (x::r)=x++47::joi r:=by simp [joi,h]
theorem joi_cut (l:List UInt8):joi (cut l)=l:=by
 induction l with
 | nil=>rfl
 | cons c l ih =>
  unfold cut;split
  ·rename_i h;rw [joi_cons (cut_ne l),ih,h];rfl
  ·rw [cut_head l] at ih;by_cases ht:(cut l).tail=[]
   ·rw [ht] at ih ⊢;rw [joi_one] at ih ⊢;rw [ih]
   ·rw [joi_cons ht] at ih ⊢;rw [List.cons_append,ih]
def spN (p:List UInt8):List (List UInt8):=if 256<p.length∨p=[47]∨p.head?≠some 47∨(cut p.tail).all nm=false then [] else cut p.tail
def spE (p:List UInt8):Int:=if 256<p.length then 2 else if p=[47] then 0 else if p.head?≠some 47∨(cut p.tail).all nm=false then 10 else 0
theorem sp_err {p:List UInt8}(h:spE p≠0):spN p=[]:=by
 unfold spE at h;unfold spN;by_cases h1:256<p.length
 ·rw [if_pos (.inl h1)]
 ·by_cases h2:p=[47]
  ·rw [if_pos (.inr (.inl h2))]
  ·by_cases h3:p.head?≠some 47∨(cut p.tail).all nm=false
   ·rw [if_pos (.inr (.inr h3))]
   ·rw [if_neg h1,if_neg h2,if_neg h3] at h;exact absurd rfl h
theorem sp_ok {p:List UInt8}(h:spE p=0):p.length≤256∧(spN p).all nm=true∧p=47::joi (spN p):=by
 unfold spE at h;unfold spN;by_cases h1:256<p.length
 ·rw [if_pos h1] at h;exact absurd h (by decide)
 ·rw [if_neg h1] at h;refine⟨by omega,?_⟩;by_cases h2:p=[47]
  ·rw [if_pos (.inr (.inl h2))];subst h2;exact⟨rfl,rfl⟩
  ·rw [if_neg h2] at h;by_cases h3:p.head?≠some 47∨(cut p.tail).all nm=false
   ·rw [if_pos h3] at h;exact absurd h (by decide)
   ·rw [if_neg (by rintro (h | h | h);exact h1 h;exact h2 h;exact h3 h),joi_cut];obtain⟨h4,h5⟩:=not_or.1 h3;have h4:p.head?=some 47:=Classical.not_not.1 h4;refine⟨by simpa using h5,?_⟩;cases p with
    | nil=>simp at h4
    | cons a p=>simp at h4;subst h4;rfl
end Go.Proofs.YtopepebcnaikiaaGreatDoor.Ph
namespace Go.Proofs.YtopepebcnaikiaaGreatDoor.Ino
open Lib (hid)
open Pk (be num be_length num_be num_lt num_snoc bs bs_size nB nE numOk numOk_iff tN tR tE uN uOk uT uR uE xB xE nB_ok tN_back tR_back uT_back uR_back uE_back xB_size be_cons)
theorem numOk_of {n k:Nat}(h1:1≤k) (h2:k≤8) (h:n<256 ^ k):numOk n (k:Int)=true:=numOk_iff.2 ⟨by omega,by omega,by simpa using h⟩
theorem nB_of {n k:Nat}(h1:1≤k) (h2:k≤8) (h:n<256 ^ k):nB n (k:Int)=bs (be k n):=by rw [nB_ok (numOk_of h1 h2 h)];simp
theorem tN_lt (s:ByteArray) (k:Nat) (h2:k≤8):0≤tN s (k:Int)∧tN s (k:Int)<(256 ^ k:Nat):=by
 unfold tN;split
 ·have h:=num_lt (s.data.toList.take k);have h3:256 ^ (s.data.toList.take k).length≤256 ^ k:=Nat.pow_le_pow_right (by omega) (by rw [List.length_take];omega);refine⟨by omega,?_⟩;have e:((k:Int)).toNat=k:=by simp
  rw [e];omega
 ·have:0<256 ^ k:=Nat.pow_pos (by omega);omega
theorem tR_le (s:ByteArray) (k:Int):(tR s k).size≤s.size:=by
 unfold tR;split
 ·rw [ByteArray.size_extract];omega
 ·exact Nat.zero_le _
structure In where
 K:Nat
 M:Nat
 L:Nat
 S:Nat
 T:ByteArray
def In.lim (n:In):Prop:=n.K<256∧n.M<65536∧n.L<4294967296∧n.S<4294967296
def zIn:In:=⟨0,0,0,0,ByteArray.empty⟩
def tgt (t:ByteArray):Bool:=decide (1≤t.size)&&decide (t.size≤64)&&!t.data.toList.contains 0
def okI (n:In):Bool :=
 if n.K=1 then decide (n.L=1)&&decide (n.S=0)&&decide (n.T.size=0)
 else if n.K=2 then decide (1≤n.L)&&decide (n.S≤65536)&&decide (n.T.size=0)
 else if n.K=3 then decide (1≤n.L)&&tgt n.T&&decide (n.S=n.T.size) else false
theorem okI_iff {n:In}:okI n=true↔(n.K=1∧n.L=1∧n.S=0∧n.T.size=0)∨(n.K=2∧1≤n.L∧n.S≤65536∧n.T.size=0)∨(n.K=3∧1≤n.L∧tgt n.T=true∧n.S=n.T.size):=by
 unfold okI;by_cases h1:n.K=1
 ·rw [if_pos h1];simp only [Bool.and_eq_true,decide_eq_true_eq];omega
 ·rw [if_neg h1];by_cases h2:n.K=2
  ·rw [if_pos h2];simp only [Bool.and_eq_true,decide_eq_true_eq];omega
  ·rw [if_neg h2];by_cases h3:n.K=3
   ·rw [if_pos h3];simp only [Bool.and_eq_true,decide_eq_true_eq];simp [h1,h2,h3,and_assoc]
   ·rw [if_neg h3];simp [h1,h2,h3]
theorem tgt_size {t:ByteArray}(h:tgt t=true):1≤t.size∧t.size≤64:=by
 unfold tgt at h;simp only [Bool.and_eq_true,decide_eq_true_eq] at h;exact h.1
theorem okI_size {n:In}(h:okI n=true):n.T.size≤64∧n.K<4:=by
 rcases okI_iff.1 h with h | h | h
 ·omega
 ·omega
 ·have:=tgt_size h.2.2.1;omega
def wrI (n:In):ByteArray:=bs (be 1 n.K)++bs (be 2 n.M)++bs (be 4 n.L)++bs (be 4 n.S)++xB n.T
def tkI (s:ByteArray):In:=⟨(tN s 1).toNat,(tN (tR s 1) 2).toNat,(tN (tR (tR s 1) 2) 4).toNat,(tN (tR (tR (tR s 1) 2) 4) 4).toNat,uT (tR (tR (tR (tR s 1) 2) 4) 4)⟩
theorem tN1 (s:ByteArray):0≤tN s 1∧tN s 1<256:=tN_lt s 1 (by omega)
theorem tN2 (s:ByteArray):0≤tN s 2∧tN s 2<65536:=tN_lt s 2 (by omega)
theorem tN4 (s:ByteArray):0≤tN s 4∧tN s 4<4294967296:=tN_lt s 4 (by omega)
theorem tkI_lim (s:ByteArray):(tkI s).lim:=by
 have h1:=tN1 s;have h2:=tN2 (tR s 1);have h3:=tN4 (tR (tR s 1) 2);have h4:=tN4 (tR (tR (tR s 1) 2) 4);refine⟨?_,?_,?_,?_⟩<;>simp only [tkI]<;>omega
theorem wrI_eq (n:In):wrI n=bs (be 1 n.K)++(bs (be 2 n.M)++(bs (be 4 n.L)++(bs (be 4 n.S)++xB n.T))):=by
 unfold wrI;simp only [ByteArray.append_assoc]
theorem num_back (k n:Nat) (h1:1≤k) (h2:k≤8) (h:n<256 ^ k) (r:ByteArray):tN (bs (be k n)++r) (k:Int)=n∧tR (bs (be k n)++r) (k:Int)=r:=by
 have h3:=tN_back (numOk_of h1 h2 h) r;have h4:=tR_back (numOk_of h1 h2 h) r;rw [nB_of h1 h2 h] at h3 h4;exact⟨h3,h4⟩
theorem rest_back {n:In}(h:n.lim):tR (wrI n) 1=bs (be 2 n.M)++(bs (be 4 n.L)++(bs (be 4 n.S)++xB n.T))∧tR (tR (wrI n) 1) 2=bs (be 4 n.L)++(bs (be 4 n.S)++xB n.T)∧tR (tR (tR (wrI n) 1) 2) 4=bs (be 4 n.S)++xB n.T∧tR (tR (tR (tR (wrI n) 1) 2) 4) 4=xB n.T:=by
 obtain⟨l1,l2,l3,l4⟩:=h;have a1:tR (wrI n) 1=bs (be 2 n.M)++(bs (be 4 n.L)++(bs (be 4 n.S)++xB n.T)):=by rw [wrI_eq];exact (num_back 1 n.K (by omega) (by omega) (by simpa using l1) _).2
 have a2:tR (tR (wrI n) 1) 2=bs (be 4 n.L)++(bs (be 4 n.S)++xB n.T):=by rw [a1];exact (num_back 2 n.M (by omega) (by omega) (by simpa using l2) _).2
 have a3:tR (tR (tR (wrI n) 1) 2) 4=bs (be 4 n.S)++xB n.T:=by rw [a2];exact (num_back 4 n.L (by omega) (by omega) (by simpa using l3) _).2
 have a4:tR (tR (tR (tR (wrI n) 1) 2) 4) 4=xB n.T:=by rw [a3];exact (num_back 4 n.S (by omega) (by omega) (by simpa using l4) _).2
 exact⟨a1,a2,a3,a4⟩
theorem append_none (a:ByteArray):a++ByteArray.empty=a:=by
 apply ByteArray.ext;rw [ByteArray.data_append];exact Array.append_empty
theorem tk_wr {n:In}(h:n.lim) (ht:n.T.size≤65535):tkI (wrI n)=n:=by
 obtain⟨a1,a2,a3,a4⟩:=rest_back h;obtain⟨l1,l2,l3,l4⟩:=h;have b1:tN (wrI n) 1=n.K:=by rw [wrI_eq];exact (num_back 1 n.K (by omega) (by omega) (by simpa using l1) _).1
 have b2:tN (tR (wrI n) 1) 2=n.M:=by rw [a1];exact (num_back 2 n.M (by omega) (by omega) (by simpa using l2) _).1
 have b3:tN (tR (tR (wrI n) 1) 2) 4=n.L:=by rw [a2];exact (num_back 4 n.L (by omega) (by omega) (by simpa using l3) _).1
 have b4:tN (tR (tR (tR (wrI n) 1) 2) 4) 4=n.S:=by rw [a3];exact (num_back 4 n.S (by omega) (by omega) (by simpa using l4) _).1
 have b5:uT (tR (tR (tR (tR (wrI n) 1) 2) 4) 4)=n.T:=by
  rw [a4];have:=uT_back ht ByteArray.empty
  rwa [append_none] at this
 unfold tkI;rw [b1,b2,b3,b4,b5];simp
def deI (s:ByteArray):In:=if okI (tkI s)=true∧wrI (tkI s)=s then tkI s else zIn
def deIE (s:ByteArray):Int:=if okI (tkI s)=true∧wrI (tkI s)=s then 0 else 4
theorem deI_back {n:In}(h:n.lim) (hk:okI n=true):deI (wrI n)=n∧deIE (wrI n)=0:=by
 have e:=tk_wr h (by have:=(okI_size hk).1;omega);unfold deI deIE;rw [e,if_pos ⟨hk,rfl⟩,if_pos ⟨hk,rfl⟩];exact⟨rfl,rfl⟩
theorem deI_ok {s:ByteArray}(h:deIE s=0):okI (deI s)=true∧wrI (deI s)=s∧(deI s).lim:=by
 unfold deIE at h;unfold deI;by_cases hc:okI (tkI s)=true∧wrI (tkI s)=s
 ·rw [if_pos hc];exact⟨hc.1,hc.2,tkI_lim s⟩
 ·rw [if_neg hc] at h;exact absurd h (by decide)
theorem wrI_size (n:In) (h:n.T.size≤65535):(wrI n).size=13+n.T.size:=by
 unfold wrI;simp only [ByteArray.size_append,bs_size,be_length,xB_size h];omega
end Go.Proofs.YtopepebcnaikiaaGreatDoor.Ino
namespace Go.Proofs.YtopepebcnaikiaaGreatDoor.Ino
open Lib (hid)
open Pk (be num be_length num_be num_lt num_snoc bs bs_size nB nE numOk numOk_iff tN tR tE uN uOk uT uR uE xB xE nB_ok tN_back tR_back uT_back uR_back uE_back xB_size be_cons bs_append bytesLess_be bs_data bs_list)
open Ph (nm nb)
structure Ky where
 K:Nat
 I:Nat
 N:ByteArray
 C:Nat
def Ky.lim (k:Ky):Prop:=k.K<256∧k.I<4294967296∧k.C<4294967296
def zKy:Ky:=⟨0,0,ByteArray.empty,0⟩
def lt (K:Nat):List UInt8:=if K=1 then [105] else if K=2 then [100] else if K=3 then [99] else if K=4 then [120] else []
def okK (k:Ky):Bool :=
 decide (1≤k.I)&&(if k.K=1 then decide (k.N.size=0)&&decide (k.C=0)
  else if k.K=2∨k.K=4 then nb k.N&&decide (k.C=0)
  else if k.K=3 then decide (k.N.size=0)&&decide (k.C<512) else false)
theorem okK_iff {k:Ky}:okK k=true↔1≤k.I∧((k.K=1∧k.N.size=0∧k.C=0)∨((k.K=2∨k.K=4)∧nb k.N=true∧k.C=0)∨(k.K=3∧k.N.size=0∧k.C<512)):=by
 unfold okK;by_cases h1:k.K=1
 ·simp [h1]
 ·by_cases h2:k.K=2∨k.K=4
  ·rw [if_neg h1,if_pos h2];have h3:¬ k.K=3:=by omega
   simp [h1,h2,h3]
  ·by_cases h3:k.K=3
   ·simp [h3]
   ·rw [if_neg h1,if_neg h2,if_neg h3];simp [h1,h2,h3]
def pfx (K I:Nat):ByteArray:=if lt K=[] then ByteArray.empty else bs (lt K)++bs (be 4 I)
def wrK (k:Ky):ByteArray:=if k.K=3 then pfx k.K k.I++k.N++bs (be 4 k.C) else pfx k.K k.I++k.N
def kd (s:ByteArray):Nat:=match s.data.toList with
 | c::_=>if c=105 then 1 else if c=100 then 2 else if c=99 then 3 else if c=120 then 4 else 0
 | []=>0
def rs (s:ByteArray):ByteArray:=if kd s=0 then s else s.extract 1 s.size
def tkK (s:ByteArray):Ky:=⟨kd s,(tN (rs s) 4).toNat,if kd s=2∨kd s=4 then tR (rs s) 4 else ByteArray.empty,if kd s=3 then (tN (tR (rs s) 4) 4).toNat else 0⟩
def deK (s:ByteArray):Ky:=if okK (tkK s)=true∧wrK (tkK s)=s then tkK s else zKy
def deKE (s:ByteArray):Int:=if okK (tkK s)=true∧wrK (tkK s)=s then 0 else 4
theorem tkK_lim (s:ByteArray):(tkK s).lim:=by
 have h3:=tN4 (rs s);have h4:=tN4 (tR (rs s) 4);refine⟨?_,?_,?_⟩
 ·show kd s<256
  unfold kd;split
  ·repeat' split
   all_goals omega
  ·omega
 ·simp only [tkK];omega
 ·simp only [tkK];split<;>omega
theorem kd_app {K:Nat}(h:lt K≠[]) (r:ByteArray):kd (bs (lt K)++r)=K∧rs (bs (lt K)++r)=r∧(lt K).length=1:=by
 have key:∀ c:UInt8,(bs [c]++r).data.toList=c::r.data.toList:=fun c=>by rw [ByteArray.data_append,Array.toList_append];rfl
 have cut:∀ c:UInt8,(bs [c]++r).extract 1 (bs [c]++r).size=r:=fun c=>ByteArray.extract_append_eq_right (by rw [bs_size];rfl) (by rw [ByteArray.size_append])
 have e:(K=1∧lt K=[105])∨(K=2∧lt K=[100])∨(K=3∧lt K=[99])∨(K=4∧lt K=[120]):=by
  unfold lt at h ⊢;by_cases h1:K=1
  ·simp [h1]
  ·by_cases h2:K=2
   ·simp [h2]
   ·by_cases h3:K=3
    ·simp [h3]
    ·by_cases h4:K=4
     ·simp [h4]
     ·simp [h1,h2,h3,h4] at h
 have go:∀ c:UInt8,lt K=[c]→(kd (bs [c]++r)=K)→K≠0→kd (bs (lt K)++r)=K∧rs (bs (lt K)++r)=r∧(lt K).length=1:=by
  intro c e hk h0;rw [e];refine⟨hk,?_,rfl⟩;unfold rs;rw [hk,if_neg h0,cut]
 rcases e with ⟨rfl,e⟩ | ⟨rfl,e⟩ | ⟨rfl,e⟩ | ⟨rfl,e⟩
 ·exact go 105 e (by unfold kd;rw [key];rfl) (by omega)
 ·exact go 100 e (by unfold kd;rw [key];rfl) (by omega)
 ·exact go 99 e (by unfold kd;rw [key];rfl) (by omega)
 ·exact go 120 e (by unfold kd;rw [key];rfl) (by omega)
theorem lt_of {K:Nat}(h:1≤K) (h2:K≤4):lt K≠[]:=by
 rcases (show K=1∨K=2∨K=3∨K=4 by omega) with rfl | rfl | rfl | rfl<;>decide
theorem okK_kind {k:Ky}(h:okK k=true):1≤k.K∧k.K≤4:=by
 rcases (okK_iff.1 h).2 with h | h | h<;>omega
theorem nb_size {s:ByteArray}(h:nb s=true):1≤s.size∧s.size≤24:=by
 have:=Ph.nm_len h;rw [Array.length_toList] at this;exact this
theorem size0 {s:ByteArray}(h:s.size=0):s=ByteArray.empty:=by
 apply ByteArray.ext;exact Array.eq_empty_of_size_eq_zero h
theorem wrK_eq {k:Ky}(h:okK k=true):wrK k=bs (lt k.K)++(bs (be 4 k.I)++(if k.K=3 then bs (be 4 k.C) else k.N)):=by
 unfold wrK pfx;obtain⟨h1,h2⟩:=okK_kind h;rw [if_neg (lt_of h1 h2)];by_cases h3:k.K=3
 ·have hn:k.N.size=0:=by rcases (okK_iff.1 h).2 with h | h | h<;>omega
  rw [if_pos h3,if_pos h3,size0 hn,append_none,ByteArray.append_assoc]
 ·rw [if_neg h3,if_neg h3,ByteArray.append_assoc]
theorem tk_wrK {k:Ky}(hl:k.lim) (h:okK k=true):tkK (wrK k)=k:=by
 have hk:=okK_kind h;have e:=wrK_eq h;have hp:=kd_app (lt_of hk.1 hk.2) (bs (be 4 k.I)++(if k.K=3 then bs (be 4 k.C) else k.N));rw [← e] at hp;have hn:=num_back 4 k.I (by omega) (by omega) (by simpa using hl.2.1) (if k.K=3 then bs (be 4 k.C) else k.N);have hc:=num_back 4 k.C (by omega) (by omega) (by simpa using hl.2.2) ByteArray.empty;rw [append_none] at hc;unfold tkK;rw [hp.1,hp.2.1,show tN (bs (be 4 k.I)++(if k.K=3 then bs (be 4 k.C) else k.N)) 4=_ from hn.1,show tR (bs (be 4 k.I)++(if k.K=3 then bs (be 4 k.C) else k.N)) 4=_ from hn.2];have hb:=(okK_iff.1 h).2;obtain⟨K,I,N,C⟩:=k;simp only at hb hc ⊢;by_cases h3:K=3
 ·have hn0:N.size=0:=by rcases hb with h | h | h<;>omega
  rw [if_pos h3,if_neg (by omega),if_pos h3,show tN (bs (be 4 C)) 4=_ from hc.1,size0 hn0];simp
 ·rw [if_neg h3,if_neg h3];have hc0:C=0:=by rcases hb with h | h | h<;>omega
  by_cases h24:K=2∨K=4
  ·rw [if_pos h24,hc0];simp
  ·rw [if_neg h24,hc0];have hn0:N.size=0:=by rcases hb with h | h | h<;>omega
   rw [size0 hn0];simp
theorem deK_back {k:Ky}(hl:k.lim) (hk:okK k=true):deK (wrK k)=k∧deKE (wrK k)=0:=by
 have e:=tk_wrK hl hk;unfold deK deKE;rw [e,if_pos ⟨hk,rfl⟩,if_pos ⟨hk,rfl⟩];exact⟨rfl,rfl⟩
theorem deK_ok {s:ByteArray}(h:deKE s=0):okK (deK s)=true∧wrK (deK s)=s∧(deK s).lim:=by
 unfold deKE at h;unfold deK;by_cases hc:okK (tkK s)=true∧wrK (tkK s)=s
 ·rw [if_pos hc];exact⟨hc.1,hc.2,tkK_lim s⟩
 ·rw [if_neg hc] at h;exact absurd h (by decide)
def rkN (s:ByteArray):Ky:=⟨kd s,(tN (s.extract 1 s.size) 4).toNat,if kd s=3 then ByteArray.empty else tR (s.extract 1 s.size) 4,if kd s=3 then (tN (tR (s.extract 1 s.size) 4) 4).toNat else 0⟩
def rkB (s:ByteArray):Prop:=5≤s.size∧kd s≠0∧(kd s=3→tE (tR (s.extract 1 s.size) 4) 4=0∧tR (tR (s.extract 1 s.size) 4) 4=ByteArray.empty)∧okK (rkN s)=true
theorem kd_le (s:ByteArray):kd s≤4:=by
 unfold kd;split
 ·repeat' split
  all_goals omega
 ·omega
theorem pfx_ok {k:Ky}(h:okK k=true):pfx k.K k.I=bs (lt k.K)++bs (be 4 k.I)∧(pfx k.K k.I).size=5:=by
 obtain⟨h1,h2⟩:=okK_kind h;unfold pfx;rw [if_neg (lt_of h1 h2)];refine⟨rfl,?_⟩;rw [ByteArray.size_append,bs_size,bs_size,be_length,(kd_app (lt_of h1 h2) ByteArray.empty).2.2]
theorem wrK_pfx {k:Ky}(h:okK k=true):wrK k=pfx k.K k.I++(if k.K=3 then bs (be 4 k.C) else k.N)∧(wrK k).extract 0 5=pfx k.K k.I∧5≤(wrK k).size∧(wrK k).size≤29:=by
 obtain⟨e,hz⟩:=pfx_ok h;have e2:=wrK_eq h;rw [← ByteArray.append_assoc,← e] at e2;refine⟨e2,?_,?_,?_⟩
 ·rw [e2];exact ByteArray.extract_append_eq_left hz.symm
 ·rw [e2,ByteArray.size_append,hz];omega
 ·rw [e2,ByteArray.size_append,hz];by_cases h3:k.K=3
  ·rw [if_pos h3,bs_size,be_length];omega
  ·rw [if_neg h3];rcases (okK_iff.1 h).2 with h | h | h
   ·omega
   ·have:=nb_size h.2.1;omega
   ·omega
theorem wrK_inj {a b:Ky}(la:a.lim) (lb:b.lim) (ha:okK a=true) (hb:okK b=true) (h:wrK a=wrK b):a=b:=by
 have e1:=tk_wrK la ha;have e2:=tk_wrK lb hb;rw [h] at e1;exact e1.symm.trans e2
theorem pfx_inj {a b:Ky}(la:a.lim) (lb:b.lim) (ha:okK a=true) (hb:okK b=true) (h:pfx a.K a.I=pfx b.K b.I):a.K=b.K∧a.I=b.I:=by
 have ka:=okK_kind ha;have kb:=okK_kind hb;have e1:=kd_app (lt_of ka.1 ka.2) (bs (be 4 a.I));have e2:=kd_app (lt_of kb.1 kb.2) (bs (be 4 b.I));rw [← (pfx_ok ha).1] at e1;rw [← (pfx_ok hb).1] at e2;rw [h] at e1;refine⟨e1.1.symm.trans e2.1,?_⟩;have h4:bs (be 4 a.I)=bs (be 4 b.I):=e1.2.1.symm.trans e2.2.1;have h5:be 4 a.I=be 4 b.I:=by
  have:=congrArg (fun s:ByteArray=>s.data.toList) h4;exact this
 have h6:=congrArg num h5;rw [num_be _ _ (by simpa using la.2.1),num_be _ _ (by simpa using lb.2.1)] at h6;exact h6
end Go.Proofs.YtopepebcnaikiaaGreatDoor.Ino
namespace Go.Proofs.YtopepebcnaikiaaGreatDoor.By
open Lib (hid)
open St
def bl (a b:List UInt8):Bool:=Op.bytesLess a b
theorem bl_cons (a b:UInt8) (x y:List UInt8):bl (a::x) (b::y)=true↔a<b∨(a=b∧bl x y=true):=by
 simp [bl,Op.bytesLess]
theorem u8_tri (a b:UInt8):a<b∨a=b∨b<a:=by
 rcases Nat.lt_trichotomy a.toNat b.toNat with h | h | h
 ·exact .inl (UInt8.lt_iff_toNat_lt.2 h)
 ·exact .inr (.inl (UInt8.toNat.inj h))
 ·exact .inr (.inr (UInt8.lt_iff_toNat_lt.2 h))
theorem u8_irrefl {a:UInt8}(h:a<a):False:=absurd (UInt8.lt_iff_toNat_lt.1 h) (Nat.lt_irrefl _)
theorem u8_trans {a b c:UInt8}(h:a<b) (h':b<c):a<c:=UInt8.lt_iff_toNat_lt.2 (Nat.lt_trans (UInt8.lt_iff_toNat_lt.1 h) (UInt8.lt_iff_toNat_lt.1 h'))
theorem bl_asymm:∀ a b:List UInt8,bl a b=true→bl b a=false
 | [],[],h=>by cases h
 | [],_::_,_=>rfl
 | _::_,[],h=>by cases h
 | a::x,b::y,h=>by
  rw [Bool.eq_false_iff];intro h';rcases (bl_cons _ _ _ _).1 h with h1 | ⟨rfl,h1⟩<;>rcases (bl_cons _ _ _ _).1 h' with h2 | ⟨e,h2⟩
  ·exact u8_irrefl (u8_trans h1 h2)
  ·subst e;exact u8_irrefl h1
  ·exact u8_irrefl h2
  ·rw [bl_asymm x y h1] at h2;cases h2
theorem bl_trans:∀ a b c:List UInt8,bl a b=true→bl b c=true→bl a c=true
 | [],[],_,h,_=>by cases h
 | _::_,[],_,h,_=>by cases h
 | _,_::_,[],_,h=>by cases h
 | [],_::_,_::_,_,_=>rfl
 | a::x,b::y,c::z,h,h'=>by
  rw [bl_cons];rcases (bl_cons _ _ _ _).1 h with h1 | ⟨rfl,h1⟩<;>rcases (bl_cons _ _ _ _).1 h' with h2 | ⟨rfl,h2⟩
  ·exact .inl (u8_trans h1 h2)
  ·exact .inl h1
  ·exact .inl h2
  ·exact .inr ⟨rfl,bl_trans x y z h1 h2⟩
theorem bl_tri:∀ a b:List UInt8,bl a b=false→bl b a=false→a=b
 | [],[],_,_=>rfl
 | [],_::_,h,_=>by cases h
 | _::_,[],_,h=>by cases h
 | a::x,b::y,h,h'=>by
  have n1:¬ (a<b∨(a=b∧bl x y=true)):=fun e=>by rw [(bl_cons a b x y).2 e] at h;cases h
  have n2:¬ (b<a∨(b=a∧bl y x=true)):=fun e=>by rw [(bl_cons b a y x).2 e] at h';cases h'
  rcases u8_tri a b with e | e | e
  ·exact absurd (.inl e) n1
  ·subst e;rw [bl_tri x y (by rw [Bool.eq_false_iff];exact fun e=>n1 (.inr ⟨rfl,e⟩)) (by rw [Bool.eq_false_iff];exact fun e=>n2 (.inr ⟨rfl,e⟩))]
  ·exact absurd (.inl e) n2
theorem blOrd:Ord bl:=⟨bl_asymm,bl_trans,bl_tri⟩
open Lib (compareBytes)
theorem u8_eq {a b:UInt8}(h:¬ a<b) (h':¬ b<a):a=b:=by
 rcases u8_tri a b with e | e | e
 ·exact absurd e h
 ·exact e
 ·exact absurd e h'
theorem cmp_lt:∀ a b:List UInt8,compareBytes a b<0↔bl a b=true
 | [],[]=>by simp [compareBytes,bl,Op.bytesLess]
 | [],_::_=>by simp [compareBytes,bl,Op.bytesLess]
 | _::_,[]=>by simp [compareBytes,bl,Op.bytesLess]
 | a::x,b::y=>by
  rw [bl_cons,compareBytes];split
  ·rename_i h;simp [h]
  ·rename_i h;split
   ·rename_i h';constructor
    ·intro e;omega
    ·rintro (e | ⟨e,_⟩)
     ·exact absurd e h
     ·subst e;exact absurd h' h
   ·rename_i h';have e:a=b:=u8_eq h h';rw [cmp_lt x y];subst e;simp [h]
theorem cmp_eq:∀ a b:List UInt8,compareBytes a b=0↔a=b
 | [],[]=>by simp [compareBytes]
 | [],_::_=>by simp [compareBytes]
 | _::_,[]=>by simp [compareBytes]
 | a::x,b::y=>by
  rw [compareBytes];split
  ·rename_i h;constructor
   ·intro e;omega
   ·intro e;cases e;exact absurd h (fun h=>u8_irrefl h)
  ·rename_i h;split
   ·rename_i h';constructor
    ·intro e;omega
    ·intro e;cases e;exact absurd h' h
   ·rename_i h';have e:a=b:=u8_eq h h';rw [cmp_eq x y,e];simp
end Go.Proofs.YtopepebcnaikiaaGreatDoor.By
namespace Go.Proofs.YtopepebcnaikiaaGreatDoor.Rg
open Lib (hid)
theorem take_at {P:Program}{ops:Array Oper}{Q:Exit→Act→World→Prop}{md:Region.Mode}{S:World→Prop}{fuel:Nat}{listed:Array Bool}{tmps:Array Value}{w:World}(i n:Nat) (v:Value){oi:Oper}(hi:ops[i]?=some oi) (hd:oi.dst=some n)
  (hs:Region.noSelect ops=true) (hf:Region.free md ops listed i=true) (hr:(Region.ready md ops listed).contains i=true)
  (hQ:∀ c a w,Q (.panic c) (a.put oi.dst v) w→Q (.panic c) a w) (hy:YieldsIf P ops S oi v { tmps:=tmps,defers:=[] }) (hS:S w)
  (h:wpAnyH P md ops Q S fuel (listed.setIfInBounds i true) { tmps:=tmps.setIfInBounds n v,defers:=[] } w):wpAnyH P md ops Q S (fuel+1) listed { tmps:=tmps,defers:=[] } w:=by
 refine wpAnyH_take hi hs hf hr hQ hy hS ?_;rw [hd];exact h
theorem all_at {P:Program}{ops:Array Oper}{Q:Exit→Act→World→Prop}{md:Region.Mode}{S:World→Prop}{fuel:Nat}{listed:Array Bool}{tmps:Array Value}{w:World}{rs:List Nat}(i n:Nat) (v:Value) (w':World){oi:Oper}(hi:ops[i]?=some oi) (hd:oi.dst=some n)
  (hw:Region.wanted oi (yielded ops tmps)=true) (hrun:(execOp (Act.eval { tmps:=tmps,defers:=[] }) oi).run P w=.ok (.value v) w') (hS:S w')
  (h:S w'→wpAnyH P md ops Q S fuel (listed.setIfInBounds i true) { tmps:=tmps.setIfInBounds n v,defers:=[] } w')
  (hs:AllReadyH P md ops Q S fuel listed { tmps:=tmps,defers:=[] } w rs):AllReadyH P md ops Q S fuel listed { tmps:=tmps,defers:=[] } w (i::rs) :=
 AllReadyH.cons hi (fun K' hK=>by
  rw [if_pos hw];unfold Oper.wp;rw [hrun,Oper.upon_value,hd];exact hK.out _ _ hS h) hs
theorem all_wp {P:Program}{ops:Array Oper}{Q:Exit→Act→World→Prop}{md:Region.Mode}{S:World→Prop}{fuel:Nat}{listed:Array Bool}{a:Act}{w:World}{rs:List Nat}(i:Nat) (a':Act) (w':World){oi:Oper}(hi:ops[i]?=some oi)
  (hw:Region.wanted oi (yielded ops a.tmps)=true) (hwp:∀ K':Act→World→Prop,K' a' w'→Oper.wp P oi a w K' Q) (hS:S w')
  (h:S w'→wpAnyH P md ops Q S fuel (listed.setIfInBounds i true) a' w')
  (hs:AllReadyH P md ops Q S fuel listed a w rs):AllReadyH P md ops Q S fuel listed a w (i::rs) :=
 AllReadyH.cons hi (fun K' hK=>by
  rw [if_pos hw];exact hwp K' (hK.out _ _ hS h)) hs
theorem all_nil {P:Program}{ops:Array Oper}{Q:Exit→Act→World→Prop}{md:Region.Mode}{S:World→Prop}{fuel:Nat}{listed:Array Bool}{a:Act}{w:World}:AllReadyH P md ops Q S fuel listed a w []:=AllReadyH.nil
theorem load_run {P:Program}{ev:Operand→Value}{o:Oper}{w:World}(ty:TypeId) (x:Operand) (ho:o.op=.load ty x) (b off:Nat) (hx:ev x=.pointer (some ⟨b,off,none⟩)) (cs:List Value) (d:TypeDesc) (hc:w.rangeAt b off cs)
  (hu:P.underlying ty=some d) (hd:d.isRow=true) (hi:(P.info? ty).map (·.size)=some cs.length):(execOp ev o).run P w=.ok (.value (.agg cs.toArray)) w:=by
 unfold execOp;simp only [ho,hx,Instr.loadAt,Instr.sureAddr,Sem.run_bind,Sem.run_pure,Result.andThen_ok,run_loadVar_mid w b off ty cs d hc hu hd hi]
end Go.Proofs.YtopepebcnaikiaaGreatDoor.Rg
namespace Go.Proofs.YtopepebcnaikiaaGreatDoor.It
open Lib (hid)
open Go.ChangeShapes Go.WideShapes Go.ChangeAt Go.RowKit
open Ar Rg St
structure Itm where
 k:ByteArray
 v:ByteArray
def enc (c:Itm):List Value:=[.string c.k,.string c.v]
theorem enc_len (x:Itm):(enc x).length=2:=rfl
def key (c:Itm):List UInt8:=c.k.data.toList
def okKey (k:ByteArray):Bool:=decide (k.size≠0)&&decide (k.size≤48)
theorem rightKey_any (k:ByteArray) (w:World) :
  Calls Tryz.prog 73 #[.string k] w fun e w'=>e=.returned (.bool (okKey k))∧w=w':=by
 by_cases h0:k.size=0
 ·have e0:okKey k=false:=by simp [okKey,h0]
  have hk:k={ data:=#[] }:=by
   obtain⟨d⟩:=k
   congr
   exact Array.eq_empty_of_size_eq_zero h0
  rw [e0];subst hk
  go_enter Tryz.func73,Tryz.ntmps73
  go_wp2_with fail
  go_ret
  exact⟨rfl,rfl⟩
 ·have hk:k.toList.isEmpty=false:=by
   rw [Bool.eq_false_iff];intro h;have h2:k.toList=[]:=List.isEmpty_iff.1 h;rw [ByteArray.toList_eq] at h2;have h3:k.data.size=0:=by rw [← Array.length_toList,h2];rfl
   exact h0 h3
  have e0:okKey k=decide ((k.size:Int)≤48):=by
   unfold okKey;rw [decide_eq_true (show k.size≠0 from h0),Bool.true_and];exact decide_eq_decide.2 (by omega)
  rw [e0]
  go_enter Tryz.func73,Tryz.ntmps73
  go_wp2_with fail
  go_ret
  exact⟨rfl,rfl⟩
def okI (x:Itm):Bool:=okKey x.k&&decide (x.v.size≤160)
def rtFrom:Option Itm→List Itm→Bool
 | _,[]=>true
 | none,x::r=>okI x&&rtFrom (some x) r
 | some y,x::r=>okI x&&(By.bl (key y) (key x)&&rtFrom (some x) r)
def rt (D:List Itm):Bool:=rtFrom none D
theorem take_last {D:List Itm}{k:Nat}{y:Itm}(h:D[k]?=some y):(D.take (k+1)).getLast?=some y:=by
 rw [List.getLast?_take];simp [h]
theorem drop_at {D:List Itm}{k:Nat}{y:Itm}(h:D[k]?=some y):D.drop k=y::D.drop (k+1):=by
 obtain⟨hk,e⟩:=List.getElem?_eq_some_iff.1 h;rw [List.drop_eq_getElem_cons hk,e]
def RtAt (D:List Itm) (i:Nat):Prop:=rt D=rtFrom ((D.take i).getLast?) (D.drop i)
theorem RtAt.zero (D:List Itm):RtAt D 0:=rfl
theorem RtAt.last {D:List Itm}{i:Nat}(h:RtAt D i) (hi:D.length≤i):rt D=true:=by
 unfold RtAt at h;rw [h,List.drop_eq_nil_of_le hi];cases (List.take i D).getLast?<;>rfl
theorem RtAt.bad {D:List Itm}{i:Nat}{x:Itm}(h:RtAt D i) (hx:D[i]?=some x) (hb:okI x=false):rt D=false:=by
 unfold RtAt at h;rw [h,drop_at hx];cases (List.take i D).getLast?<;>simp [rtFrom,hb]
theorem RtAt.first {D:List Itm}{x:Itm}(h:RtAt D 0) (hx:D[0]?=some x) (hb:okI x=true):RtAt D 1:=by
 unfold RtAt at h ⊢;rw [h,drop_at hx,take_last hx];show (okI x&&rtFrom (some x) (List.drop 1 D))=_
 rw [hb,Bool.true_and]
theorem RtAt.more {D:List Itm}{k:Nat}{x y:Itm}(h:RtAt D (k+1)) (hy:D[k]?=some y) (hx:D[k+1]?=some x) (hb:okI x=true) (hl:By.bl (key y) (key x)=true):RtAt D (k+2):=by
 unfold RtAt at h ⊢;rw [h,drop_at hx,take_last hx,take_last hy];show (okI x&&(By.bl (key y) (key x)&&rtFrom (some x) (List.drop (k+2) D)))=_
 rw [hb,hl,Bool.true_and,Bool.true_and]
theorem RtAt.down {D:List Itm}{k:Nat}{x y:Itm}(h:RtAt D (k+1)) (hy:D[k]?=some y) (hx:D[k+1]?=some x) (hl:By.bl (key y) (key x)=false):rt D=false:=by
 unfold RtAt at h;rw [h,drop_at hx,take_last hy];show (okI x&&(By.bl (key y) (key x)&&_))=_
 rw [hl,Bool.false_and,Bool.and_false]
theorem str_le (a b:ByteArray):(Op.bytesLess a.toList b.toList||a.toList==b.toList)=!By.bl b.data.toList a.data.toList:=by
 rw [ByteArray.toList_eq,ByteArray.toList_eq];show (By.bl a.data.toList b.data.toList||_)=_
 generalize a.data.toList=x;generalize b.data.toList=y;cases h:By.bl y x
 ·cases h2:By.bl x y
  ·have:=By.blOrd.tri x y h2 h;subst this;simp
  ·rfl
 ·rw [By.blOrd.asymm y x h,Bool.false_or];rw [Bool.not_true,beq_eq_false_iff_ne];exact (By.blOrd.ne h).symm
theorem below_drewN {B:Nat}{w w':World}(h:Below B w w') (n:Nat):Below B w (w'.drewN n):=⟨h.os,h.tape,h.output,h.size,h.block⟩
theorem rightList_any (D:List Itm) (A:Option Addr) (n cap B:Nat) (hn:n=D.length) (hm:n≤281474976710656) (w:World) (hB:B≤w.heap.size) (hD:Ls enc 2 w B A D) :
  Calls Tryz.prog 37 #[.slice A n cap] w fun e w'=>e=.returned (.bool (rt D))∧Below w.heap.size w w':=by
 have HN:=hid hn;have HD:=hid hD;clear hn hD
 go_enter Tryz.func37,Tryz.ntmps37
 go_wp2_with fail
 go_loopw [7] (fun v wr=>∃ i:Nat,i≤n∧v=.int .i64 i∧Hid (RtAt D i)∧Hid (Below w.heap.size w wr)) (fun v _=>n-(intOf v).toNat)
 case atStart=>exact⟨0,Nat.zero_le _,by go_num,RtAt.zero D,Below.refl _ _⟩
 case round =>
  obtain⟨i,hi,rfl,hrt,hbel⟩:=hrel;by_cases hlt:i<n
  ·obtain⟨x,hx⟩:∃ x,D[i]?=some x:=⟨_,List.getElem?_eq_getElem (by rw [← HN.out];exact hlt)⟩;have hL:=HD.out.below ((Hid.out hbel).mono hB);obtain⟨b,o,hAe,hb,hr⟩:=hL i x hx;have hbs:b<wr.heap.size:=Nat.lt_of_lt_of_le hb (Nat.le_trans hB (Hid.out hbel).size);have hc0:wr.cell? ⟨b,o+i*2,none⟩=some (.string x.k):=hr 0 _ rfl;have hc1:wr.cell? ⟨b,o+i*2+1,none⟩=some (.string x.v):=hr 1 _ rfl;have HL:=hid hL;clear hL hr;subst hAe;have HBN:=hid (show Below w.heap.size w (wr.alloc (.cells #[.string x.k,.string x.v] 90)) from (Hid.out hbel).alloc (Hid.out hbel).size _);obtain⟨q,hq⟩:∃ q,q=okKey x.k:=⟨_,rfl⟩;have hqc:=rightKey_any x.k;rw [← hq] at hqc;have HQC:=hid hqc;clear hqc;by_cases hok:okI x=true
   ·have hq1:q=true:=by rw [hq];simp [okI] at hok;exact hok.1
    have hv:x.v.size≤160:=by simp [okI] at hok;exact hok.2
    have hv1:(x.v.size:Int)≤160:=by omega
    subst hq1;clear hq
    go_wp2_with (go_at_call 73;refine (HQC.out _).mono ?_;rintro e w1 ⟨rfl,rfl⟩)
    have hcx:(wr.alloc (.cells #[.string x.k,.string x.v] 90)).cell? ⟨wr.heap.size,0,none⟩=some (.string x.k):=by simp
    by_cases hi0:i=0
    ·subst hi0;have HRT:=hid ((Hid.out hrt).first hx hok);clear hrt hx hi;generalize wr.alloc _=W1 at *
     go_quiet (fail)
     have HB2:=hid (below_drewN HBN.out nq);clear HBN hbel;generalize World.drewN _ _=W2 at *
     go_wp2
     exact⟨⟨1,by omega,by go_num,HRT.out,HB2.out⟩,by simp [intOf]<;>omega⟩
    ·obtain⟨k,hk⟩:∃ k,i=k+1:=⟨i-1,by omega⟩;have hk1:(i:Int)-1=(k:Int):=by omega
     have hk2:(0:Int)<(i:Int):=by omega
     have hk3:(k:Int)<(n:Int):=by omega
     obtain⟨y,hy⟩:∃ y,D[k]?=some y:=⟨_,List.getElem?_eq_getElem (by rw [← HN.out];omega)⟩;obtain⟨b2,o2,hAe,hb2,hr⟩:=HL.out k y hy;cases hAe;have hcy:(wr.alloc (.cells #[.string x.k,.string x.v] 90)).cell? ⟨b,o+k*2,none⟩=some (.string y.k):=by
      rw [World.cell?_alloc_lt _ _ _ hbs];exact hr 0 _ rfl
     subst hk;clear hr;by_cases hl:By.bl (key y) (key x)=true
     ·have hl1:(Op.bytesLess x.k.toList y.k.toList||x.k.toList==y.k.toList)=false:=by
       rw [str_le];show (!By.bl (key y) (key x))=false;rw [hl];rfl
      have HRT:=hid ((Hid.out hrt).more hy hx hok hl);clear hrt hx hy hl;generalize wr.alloc _=W1 at *
      go_quiet (fail)
      have HB2:=hid (below_drewN HBN.out nq);clear HBN hbel;generalize World.drewN _ _=W2 at *
      go_wp2
      exact⟨⟨k+2,by omega,by go_num,HRT.out,HB2.out⟩,by simp [intOf]<;>omega⟩
     ·have hl0:By.bl (key y) (key x)=false:=by simpa using hl
      have hl1:(Op.bytesLess x.k.toList y.k.toList||x.k.toList==y.k.toList)=true:=by
       rw [str_le];show (!By.bl (key y) (key x))=true;rw [hl0];rfl
      have HRT:=hid ((Hid.out hrt).down hy hx hl0);clear hrt hx hy hl hl0;generalize wr.alloc _=W1 at *
      go_quiet (fail)
      have HB2:=hid (below_drewN HBN.out nq);clear HBN hbel;generalize World.drewN _ _=W2 at *
      go_wp2
      go_ret
      exact⟨by rw [HRT.out];rfl,HB2.out⟩
   ·have hok1:okI x=false:=by simpa using hok
    have HF:=hid ((Hid.out hrt).bad hx hok1);by_cases hq1:q=true
    ·have hv:¬ x.v.size≤160:=by
      intro h;rw [okI,← hq,hq1,decide_eq_true h] at hok1;cases hok1
     have hv1:(160:Int)<(x.v.size:Int):=by omega
     subst hq1;clear hq
     go_wp2_with (go_at_call 73;refine (HQC.out _).mono ?_;rintro e w1 ⟨rfl,rfl⟩)
     go_ret
     exact⟨by rw [HF.out];rfl,HBN.out⟩
    ·have hq1:q=false:=by simpa using hq1
     subst hq1;clear hq
     go_wp2_with (go_at_call 73;refine (HQC.out _).mono ?_;rintro e w1 ⟨rfl,rfl⟩)
     go_ret
     exact⟨by rw [HF.out];rfl,HBN.out⟩
  ·have HF:=hid ((Hid.out hrt).last (by rw [← HN.out];omega))
   go_wp2
   go_ret
   exact⟨by rw [HF.out];rfl,Hid.out hbel⟩
end Go.Proofs.YtopepebcnaikiaaGreatDoor.It
namespace Go.Proofs.YtopepebcnaikiaaGreatDoor.Di
open Lib (hid)
open Ino
open It (Itm)
open Pk (be num be_length num_be num_lt bs bs_size nB nE tN tR tE xB_size)
open Ph (nb)
instance:DecidableEq Ky:=fun a b=>decidable_of_iff (decide (a.K=b.K)&&(decide (a.I=b.I)&&(decide (a.N=b.N)&&decide (a.C=b.C)))=true) (by
 obtain⟨a1,a2,a3,a4⟩:=a;obtain⟨b1,b2,b3,b4⟩:=b;simp)
structure Pt where
 k:Ky
 v:ByteArray
structure Vo where
 ino:Nat→Option In
 ent:Ky→Option Nat
 nmd:Nat→Nat
 abv:Nat→Nat
def numOf (v:ByteArray):Nat:=(tN v 4).toNat
theorem numOf_lt (v:ByteArray):numOf v<4294967296:=by
 have:=tN_lt v 4 (by omega);unfold numOf;have h:(256 ^ 4:Nat)=4294967296:=by decide
 rw [h] at this;have e:((4:Nat):Int)=4:=rfl;rw [e] at this;omega
def takeI (s:Vo) (p:Pt):Vo:=⟨fun i=>if i=p.k.I then some (deI p.v) else s.ino i,s.ent,s.nmd,s.abv⟩
def takeE (s:Vo) (p:Pt):Vo:=⟨s.ino,fun k=>if k=p.k then some (numOf p.v) else s.ent k,fun i=>if i=numOf p.v then (s.nmd i+1)%4294967296 else s.nmd i,fun i=>if i=numOf p.v then p.k.I else s.abv i⟩
def takeP (s:Vo) (p:Pt):Vo:=if p.k.K=1 then takeI s p else if p.k.K=2 then takeE s p else s
def lz (v:ByteArray):Bool:=(v.extract (v.size-1) v.size).toList==[0]
def okP (p:Pt):Bool :=
 if p.k.K=1 then decide (deIE p.v=0) else if p.k.K=2 then decide (tE p.v 4=0)&&(decide (tR p.v 4=ByteArray.empty)&&decide (2≤numOf p.v))
 else if p.k.K=3 then decide (p.v.size≠0)&&(decide (p.v.size≤128)&&!lz p.v) else decide (p.v.size≤64)
def vo0:Vo:=⟨fun _=>none,fun _=>none,fun _=>0,fun _=>0⟩
def vo (L:List Pt):Vo:=L.foldl takeP vo0
theorem vo_snoc (L:List Pt) (p:Pt):vo (L++[p])=takeP (vo L) p:=by unfold vo;rw [List.foldl_append];rfl
def ptOf (x:Itm):Pt:=⟨deK x.k,x.v⟩
def pts (L:List Itm):List Pt:=L.map ptOf
def okX (x:Itm):Bool:=decide (deKE x.k=0)&&okP (ptOf x)
def kind (s:Vo) (i:Nat):Nat:=match s.ino i with | some n=>n.K | none=>0
def stray (s:Vo) (p:Pt):Bool:=match s.ino p.k.I with
 | none=>true
 | some n=>if p.k.K=1 then decide (p.k.I≠1)&&decide (s.nmd p.k.I≠n.L)
  else if p.k.K=2 then decide (n.K≠1)||(s.ino ((s.ent p.k).getD 0)).isNone
  else if p.k.K=3 then decide (n.K≠2)||decide (n.S<p.k.C*128+p.v.size) else false
def up (s:Vo):Nat→Nat→Nat
 | 0,i=>i
 | k+1,i=>up s k (s.abv i)
def Up (s:Vo) (i:Nat):Prop:=∃ k,up s k i=1
theorem up_succ (s:Vo):∀ k i,up s (k+1) i=s.abv (up s k i)
 | 0,_=>rfl
 | k+1,i=>up_succ s k (s.abv i)
theorem up_add (s:Vo):∀ a b i,up s (a+b) i=up s a (up s b i)
 | a,0,i=>rfl
 | a,b+1,i=>by
  rw [show a+(b+1)=(a+b)+1 from rfl];show up s (a+b) (s.abv i)=up s a (up s b (s.abv i))
  exact up_add s a b _
theorem Up.one (s:Vo):Up s 1:=⟨0,rfl⟩
theorem Up.of_up {s:Vo}{k i:Nat}(h:Up s (up s k i)):Up s i:=by
 obtain⟨m,h⟩:=h;exact⟨m+k,by rw [up_add];exact h⟩
def AllUp (s:Vo):Prop:=∀ i n,s.ino i=some n→n.K=1→Up s i
structure Right (L:List Itm):Prop where
 rt:It.rt L=true
 ok:∀ x∈L,okX x=true
 root:kind (vo (pts L)) 1=1
 str:∀ p∈pts L,stray (vo (pts L)) p=false
 ups:AllUp (vo (pts L))
noncomputable def rgt (L:List Itm):Bool:=@decide (Right L) (Classical.propDecidable _)
theorem rgt_iff {L:List Itm}:rgt L=true↔Right L:=by unfold rgt;exact @decide_eq_true_iff _ (Classical.propDecidable _)
theorem snocRec {α:Type}{P:List α→Prop}(h0:P []) (h1:∀ L p,P L→P (L++[p])) (L:List α):P L:=by
 have key:∀ R:List α,P R.reverse:=by
  intro R;induction R with
  | nil=>exact h0
  | cons a R ih=>rw [List.reverse_cons];exact h1 _ _ ih
 have:=key L.reverse
 rwa [List.reverse_reverse] at this
theorem ino_of:∀ (L:List Pt){i:Nat}{n:In},(vo L).ino i=some n→∃ p∈L,p.k.K=1∧p.k.I=i∧n=deI p.v:=by
 intro L;induction L using snocRec with
 | h0=>intro i n h;cases h
 | h1 L p ih =>
  intro i n h;rw [vo_snoc] at h;have old:(vo L).ino i=some n→∃ p'∈L++[p],p'.k.K=1∧p'.k.I=i∧n=deI p'.v:=fun h=>by
   obtain⟨q,hq,r⟩:=ih h;exact⟨q,List.mem_append_left _ hq,r⟩
  unfold takeP at h;split at h
  ·rename_i h1;unfold takeI at h;dsimp only at h;split at h
   ·rename_i h2;cases h;exact⟨p,by simp,h1,h2.symm,rfl⟩
   ·exact old h
  ·split at h
   ·exact old h
   ·exact old h
theorem ino_is {L:List Pt}{p:Pt}(hp:p∈L) (h1:p.k.K=1):((vo L).ino p.k.I).isSome=true:=by
 induction L using snocRec with
 | h0=>cases hp
 | h1 L q ih =>
  rw [vo_snoc];have old:p∈L→((takeP (vo L) q).ino p.k.I).isSome=true:=fun h=>by
   have:=ih h;unfold takeP;split
   ·unfold takeI;dsimp only;split
    ·rfl
    ·exact this
   ·split<;>exact this
  rcases List.mem_append.1 hp with h | h
  ·exact old h
  ·obtain rfl:p=q:=by simpa using h
   unfold takeP;rw [if_pos h1];unfold takeI;dsimp only;rw [if_pos rfl];rfl
theorem ent_of:∀ (L:List Pt){k:Ky}{j:Nat},(vo L).ent k=some j→∃ p∈L,p.k.K=2∧p.k=k∧j=numOf p.v:=by
 intro L;induction L using snocRec with
 | h0=>intro i n h;cases h
 | h1 L p ih =>
  intro k j h;rw [vo_snoc] at h;have old:(vo L).ent k=some j→∃ p'∈L++[p],p'.k.K=2∧p'.k=k∧j=numOf p'.v:=fun h=>by
   obtain⟨q,hq,r⟩:=ih h;exact⟨q,List.mem_append_left _ hq,r⟩
  unfold takeP at h;split at h
  ·exact old h
  ·split at h
   ·rename_i h1;unfold takeE at h;dsimp only at h;split at h
    ·rename_i h2;cases h;exact⟨p,by simp,h1,h2.symm,rfl⟩
    ·exact old h
   ·exact old h
theorem ent_is {L:List Pt}{p:Pt}(hp:p∈L) (h2:p.k.K=2):((vo L).ent p.k).isSome=true:=by
 induction L using snocRec with
 | h0=>cases hp
 | h1 L q ih =>
  rw [vo_snoc];have old:p∈L→((takeP (vo L) q).ent p.k).isSome=true:=fun h=>by
   have:=ih h;unfold takeP;split
   ·exact this
   ·split
    ·unfold takeE;dsimp only;split
     ·rfl
     ·exact this
    ·exact this
  rcases List.mem_append.1 hp with h | h
  ·exact old h
  ·obtain rfl:p=q:=by simpa using h
   unfold takeP;rw [if_neg (by omega),if_pos h2];unfold takeE;dsimp only;rw [if_pos rfl];rfl
theorem nmd_of:∀ (L:List Pt){i:Nat},(vo L).nmd i≠0→∃ p∈L,p.k.K=2∧numOf p.v=i∧(vo L).abv i=p.k.I:=by
 intro L;induction L using snocRec with
 | h0=>intro i h;exact absurd rfl h
 | h1 L p ih =>
  intro i h;rw [vo_snoc] at h ⊢;have old:(vo L).nmd i≠0→(takeP (vo L) p).abv i=(vo L).abv i→∃ p'∈L++[p],p'.k.K=2∧numOf p'.v=i∧(takeP (vo L) p).abv i=p'.k.I:=fun h e=>by
   obtain⟨q,hq,r1,r2,r3⟩:=ih h;exact⟨q,List.mem_append_left _ hq,r1,r2,e.trans r3⟩
  by_cases h1:p.k.K=1
  ·have e:takeP (vo L) p=takeI (vo L) p:=by unfold takeP;rw [if_pos h1]
   exact old (by rw [e] at h;exact h) (by rw [e];rfl)
  ·by_cases h2:p.k.K=2
   ·have e:takeP (vo L) p=takeE (vo L) p:=by unfold takeP;rw [if_neg h1,if_pos h2]
    by_cases h3:i=numOf p.v
    ·refine⟨p,by simp,h2,h3.symm,?_⟩;rw [e];unfold takeE;dsimp only;rw [if_pos h3]
    ·refine old ?_ ?_
     ·rw [e] at h;unfold takeE at h;dsimp only at h;rwa [if_neg h3] at h
     ·rw [e];unfold takeE;dsimp only;rw [if_neg h3]
   ·have e:takeP (vo L) p=vo L:=by unfold takeP;rw [if_neg h1,if_neg h2]
    exact old (by rw [e] at h;exact h) (by rw [e])
theorem okI_dir {n:In}(h:okI n=true) (h1:n.K=1):n.L=1:=by
 unfold okI at h
 simp_all
theorem deI_ok {s:ByteArray}(h:deIE s=0):okI (deI s)=true:=by
 unfold deIE at h;unfold deI;split at h
 ·rename_i h1;rw [if_pos h1];exact h1.1
 ·cases h
theorem okP_1 {p:Pt}(h:okP p=true) (h1:p.k.K=1):deIE p.v=0:=by
 unfold okP at h;rw [if_pos h1] at h;exact of_decide_eq_true h
theorem okP_2 {p:Pt}(h:okP p=true) (h1:p.k.K=2):tE p.v 4=0∧tR p.v 4=ByteArray.empty∧2≤numOf p.v:=by
 unfold okP at h;rw [if_neg (by omega),if_pos h1] at h;simp only [Bool.and_eq_true,decide_eq_true_eq] at h;exact h
theorem stray_1 {s:Vo}{p:Pt}(h:stray s p=false) (h1:p.k.K=1){n:In}(hn:s.ino p.k.I=some n):p.k.I=1∨s.nmd p.k.I=n.L:=by
 unfold stray at h;rw [hn] at h;dsimp only at h;rw [if_pos h1] at h;by_cases e:p.k.I=1
 ·exact .inl e
 ·refine .inr ?_;simp only [e,ne_eq,not_false_eq_true,decide_true,Bool.true_and,decide_not,Bool.not_eq_false',decide_eq_true_eq] at h;exact h
theorem stray_2 {s:Vo}{p:Pt}(h:stray s p=false) (h1:p.k.K=2):kind s p.k.I=1∧∃ n,s.ino ((s.ent p.k).getD 0)=some n:=by
 unfold stray at h;unfold kind;cases e:s.ino p.k.I with
 | none=>rw [e] at h;cases h
 | some n =>
  rw [e] at h;dsimp only at h ⊢;rw [if_neg (by omega),if_pos h1] at h;obtain⟨h2,h3⟩:=Bool.or_eq_false_iff.1 h;refine⟨by simpa using h2,?_⟩;cases e2:s.ino ((s.ent p.k).getD 0) with
  | none=>rw [e2] at h3;cases h3
  | some m=>exact⟨m,rfl⟩
def Chn (s:Vo):Prop:=∀ i n,s.ino i=some n→n.K=1→i≠1→kind s (s.abv i)=1
theorem kind_some {s:Vo}{i:Nat}(h:kind s i≠0):∃ n,s.ino i=some n∧n.K=kind s i:=by
 unfold kind at h ⊢;cases e:s.ino i with
 | none=>rw [e] at h;exact absurd rfl h
 | some n=>exact⟨n,rfl,rfl⟩
theorem chn_of {L:List Pt}(hok:∀ p∈L,okP p=true) (hs:∀ p∈L,stray (vo L) p=false):Chn (vo L):=by
 intro i n hn h1 hi;obtain⟨p,hp,p1,rfl,rfl⟩:=ino_of L hn;have hl:=okI_dir (deI_ok (okP_1 (hok p hp) p1)) h1;rcases stray_1 (hs p hp) p1 hn with h | h
 ·exact absurd h hi
 ·obtain⟨q,hq,q2,_,q4⟩:=nmd_of L (i:=p.k.I) (by rw [h,hl];decide);rw [q4];exact (stray_2 (hs q hq) q2).1
theorem up_chain {s:Vo}(hc:Chn s){i k:Nat}(hi:kind s i=1) (hk:∀ t,t<k→up s t i≠1):∀ t,t≤k→kind s (up s t i)=1:=by
 intro t;induction t with
 | zero=>intro _;exact hi
 | succ t ih =>
  intro ht;have h:=ih (by omega);obtain⟨n,hn,h1⟩:=kind_some (s:=s) (i:=up s t i) (by rw [h];decide);rw [up_succ];exact hc _ n hn (by rw [h1,h]) (hk t (by omega))
theorem up_inj {s:Vo}{i k:Nat}(h1:up s k i=1) (hk:∀ t,t<k→up s t i≠1){a b:Nat}(ha:a<b) (hb:b≤k):up s a i≠up s b i:=by
 intro e;have e1:up s ((k-b)+b) i=1:=by rw [Nat.sub_add_cancel hb];exact h1
 rw [up_add,← e,← up_add] at e1;exact hk _ (by omega) e1
theorem first_one {s:Vo}{i:Nat}(h:Up s i):∃ k,up s k i=1∧∀ t,t<k→up s t i≠1:=by
 obtain⟨k,h⟩:=h;induction k using Nat.strongRecOn with
 | ind k ih =>
  by_cases hx:∃ t,t<k∧up s t i=1
  ·obtain⟨t,ht,e⟩:=hx;exact ih t ht e
  ·exact⟨k,h,fun t ht e=>hx ⟨t,ht,e⟩⟩
theorem up_soon {s:Vo}(hc:Chn s){N i:Nat}(hN:∀ ks:List Nat,ks.Nodup→(∀ j∈ks,(s.ino j).isSome=true)→ks.length≤N) (hi:kind s i=1) (h:Up s i):∃ k,k<N∧up s k i=1:=by
 obtain⟨k,h1,hk⟩:=first_one h;refine⟨k,?_,h1⟩;have:=hN ((List.range (k+1)).map fun t=>up s t i) (by
  rw [List.nodup_iff_pairwise_ne,List.pairwise_map];refine (List.pairwise_lt_range (n:=k+1)).imp_of_mem ?_;intro a b ha hb hab;exact up_inj h1 hk hab (by have:=List.mem_range.1 hb;omega)) (by
  intro j hj;obtain⟨t,ht,rfl⟩:=List.mem_map.1 hj;obtain⟨n,hn,_⟩:=kind_some (s:=s) (i:=up s t i) (by rw [up_chain hc hi hk t (by have:=List.mem_range.1 ht;omega)];decide);rw [hn];rfl)
 rw [List.length_map,List.length_range] at this;omega
end Go.Proofs.YtopepebcnaikiaaGreatDoor.Di
namespace Go.Proofs.YtopepebcnaikiaaGreatDoor.Ino
open Lib (hid)
open Go.ChangeShapes Go.WideShapes Go.ChangeAt Go.RowKit
open Pk (bs)
theorem once_disable (w:World):(callFunc 153 #[]).run Tryz.prog w=.ok (.value (.tuple #[])) w:=run_call_mark0 Tryz.func153 (by kernel_rfl) (by kernel_rfl) (by kernel_rfl) .disable (by kernel_rfl) w
theorem once_enable (w:World):(callFunc 155 #[]).run Tryz.prog w=.ok (.value (.tuple #[])) w:=run_call_mark0 Tryz.func155 (by kernel_rfl) (by kernel_rfl) (by kernel_rfl) .enable (by kernel_rfl) w
theorem once_acquire (a:Addr) (w:World):(callFunc 156 #[.pointer (some a)]).run Tryz.prog w=.ok (.value (.tuple #[])) w:=run_call_marked Tryz.func156 (by kernel_rfl) (by kernel_rfl) (by kernel_rfl) .acquire (by kernel_rfl) a w
theorem once_release (a:Addr) (w:World):(callFunc 158 #[.pointer (some a)]).run Tryz.prog w=.ok (.value (.tuple #[])) w:=run_call_marked Tryz.func158 (by kernel_rfl) (by kernel_rfl) (by kernel_rfl) .releaseMerge (by kernel_rfl) a w
theorem store_deferred (a:Addr) (x:Value) (u:FrameMode) (w:World) (hc:w.cell? a=some x) (hz:w.frozen? a=false) :
  CallsD Tryz.prog 89 #[.pointer (some a),.bool true] u w fun e u' w'=>u'=u∧(e=.returned (.tuple #[])∧w'=w.drew.setCell a (.int .u32 1)):=by
 have hc':w.drew.cell? a=some x:=by go_simp
 have hz':w.drew.frozen? a=false:=by go_simp
 have hst:=run_call_store (P:=Tryz.prog) Tryz.func128 (by kernel_rfl) (by kernel_rfl) (by kernel_rfl) (by kernel_rfl) (k:=.u32) (y:=1) hc' hz'
 go_enter_d Tryz.func89,Tryz.ntmps89
 go_wp2
 go_region_calls
 all_goals (go_end0;exact⟨rfl,rfl⟩)
theorem unlock_deferred (a:Addr) (u:FrameMode) (w:World) (hc:w.cell? a=some (.int .i32 1)) (hz:w.frozen? a=false) :
  CallsD Tryz.prog 88 #[.pointer (some a)] u w fun e u' w'=>u'=u∧(e=.returned (.tuple #[])∧w'=w.setCell a (.int .i32 0)):=by
 have hd:=once_disable;have he:=once_enable;have hr:=once_release;have hadd:=run_call_add (P:=Tryz.prog) Tryz.func159 (by kernel_rfl) (by kernel_rfl) (by kernel_rfl) .i32 (by kernel_rfl) (y:=-1) (s:=0) hc hz (by simp [go_sem];rfl);have hcv0:=run_convert_to_unsafe (P:=Tryz.prog) (src:=197) (dst:=189) Tryz.underlying197 Tryz.underlying189 (by kernel_rfl) hc;have hcv1:=run_convert_to_unsafe (P:=Tryz.prog) (src:=223) (dst:=189) Tryz.underlying223 Tryz.underlying189 (by kernel_rfl) hc
 go_enter_d Tryz.func88,Tryz.ntmps88
 go_wp2
 go_end0
 go_wp2
theorem lock_free (a:Addr) (w:World) (hc:w.cell? a=some (.int .i32 0)) (hz:w.frozen? a=false) :
  Calls Tryz.prog 87 #[.pointer (some a)] w fun e w'=>e=.returned (.tuple #[])∧w'=w.setCell a (.int .i32 1):=by
 have hd:=once_disable;have he:=once_enable;have ha:=once_acquire;have hcas:=run_call_cas_hit (P:=Tryz.prog) Tryz.func154 (by kernel_rfl) (by kernel_rfl) (by kernel_rfl) .i32 (by kernel_rfl) (y:=1) hc hz;have hc':(w.setCell a (.int .i32 1)).cell? a=some (.int .i32 1):=World.cell?_setCell_same w a _ hc;have hcv0:=run_convert_to_unsafe (P:=Tryz.prog) (src:=197) (dst:=189) Tryz.underlying197 Tryz.underlying189 (by kernel_rfl) hc';have hcv1:=run_convert_to_unsafe (P:=Tryz.prog) (src:=223) (dst:=189) Tryz.underlying223 Tryz.underlying189 (by kernel_rfl) hc'
 go_enter Tryz.func87,Tryz.ntmps87
 go_wp2
 first | go_end0 | (simp only [Exit.inBlock,Exit.then];refine bodyPost_ret (results_none rfl _ _ _) rfl ?_) | refine bodyPost_ret (results_none rfl _ _ _) rfl ?_
 go_wp2
def ltB (K:Nat):ByteArray:=bs (lt K)
def nmL:List Value:=[.string ByteArray.empty,.string (ltB 1),.string (ltB 2),.string (ltB 3),.string (ltB 4)]
def emL:List Value:=List.replicate 5 (.string ByteArray.empty)
def lRow (b:Bool):List Value:=if b then .int .u32 1::.int .i32 0::.int .u32 0::nmL else .int .u32 0::.int .i32 0::.int .u32 0::emL
theorem lRow_len (b:Bool):(lRow b).length=8:=by cases b<;>rfl
def LtAt (w:World) (g:Nat) (b:Bool):Prop:=w.rangeAt g 0 (lRow b)∧∀ i,i<8→w.frozen? ⟨g,i,none⟩=false
theorem LtAt.get {w:World}{g:Nat}{b:Bool}(h:LtAt w g b) (i:Nat){v:Value}(hv:(lRow b)[i]?=some v):w.cell? ⟨g,i,none⟩=some v:=by
 have:=h.1 i v hv
 rwa [Nat.zero_add] at this
def filled (w:World) (g:Nat):World:=((((w.setCell ⟨g,3,none⟩ (.string ⟨#[]⟩)).setCell ⟨g,4,none⟩ (.string ⟨#[105]⟩)).setCell ⟨g,5,none⟩ (.string ⟨#[100]⟩)).setCell ⟨g,6,none⟩ (.string ⟨#[99]⟩)).setCell ⟨g,7,none⟩ (.string ⟨#[120]⟩)
theorem fill_any (g:Nat) (x3 x4 x5 x6 x7:Value) (w:World) (c3:w.cell? ⟨g,3,none⟩=some x3) (c4:w.cell? ⟨g,4,none⟩=some x4) (c5:w.cell? ⟨g,5,none⟩=some x5) (c6:w.cell? ⟨g,6,none⟩=some x6) (c7:w.cell? ⟨g,7,none⟩=some x7)
  (f3:w.frozen? ⟨g,3,none⟩=false) (f4:w.frozen? ⟨g,4,none⟩=false) (f5:w.frozen? ⟨g,5,none⟩=false) (f6:w.frozen? ⟨g,6,none⟩=false) (f7:w.frozen? ⟨g,7,none⟩=false) :
  Calls Tryz.prog 151 #[.pointer (some ⟨g,0,none⟩)] w fun e w'=>e=.returned (.tuple #[])∧w'=filled w g:=by
 go_enter Tryz.func151,Tryz.ntmps151
 go_wp2
 go_end0
 exact⟨rfl,rfl⟩
def onced (w:World) (g:Nat):World:=((filled (w.setCell ⟨g,1,none⟩ (.int .i32 1)) g).drew.setCell ⟨g,0,none⟩ (.int .u32 1)).setCell ⟨g,1,none⟩ (.int .i32 0)
theorem filled_get {w:World}{g i:Nat}{v:Value}(h:w.cell? ⟨g,i,none⟩=some v) (hi:i<3):(filled w g).cell? ⟨g,i,none⟩=some v:=by
 unfold filled;rw [World.cell?_setCell_other _ _ _ _ (by simp<;>omega),World.cell?_setCell_other _ _ _ _ (by simp<;>omega),World.cell?_setCell_other _ _ _ _ (by simp<;>omega),World.cell?_setCell_other _ _ _ _ (by simp<;>omega),World.cell?_setCell_other _ _ _ _ (by simp<;>omega)];exact h
theorem filled_fro {w:World}{g:Nat}{a:Addr}:(filled w g).frozen? a=w.frozen? a:=by simp [filled]
theorem slow_any (g:Nat) (w:World) (h:LtAt w g false) :
  Calls Tryz.prog 52 #[.pointer (some ⟨g,0,none⟩),.func (.func 151) #[.pointer (some ⟨g,0,none⟩)] #[]] w fun e w'=>e=.returned (.tuple #[])∧w'=onced w g:=by
 have h0:w.cell? ⟨g,0,none⟩=some (.int .u32 0):=h.get 0 rfl;have h1:w.cell? ⟨g,1,none⟩=some (.int .i32 0):=h.get 1 rfl;have c:∀ i,3≤i→i<8→(w.setCell ⟨g,1,none⟩ (.int .i32 1)).cell? ⟨g,i,none⟩=some (.string ByteArray.empty):=by
  intro i h3 h8;rw [World.cell?_setCell_other _ _ _ _ (by simp<;>omega)];exact h.get i (by rcases (show i=3∨i=4∨i=5∨i=6∨i=7 by omega) with rfl | rfl | rfl | rfl | rfl<;>rfl)
 have f0:=h.2 0 (by omega);have f1:=h.2 1 (by omega);have z:∀ i,i<8→(w.setCell ⟨g,1,none⟩ (.int .i32 1)).frozen? ⟨g,i,none⟩=false:=by
  intro i hi;simp [h.2 i hi]
 have HF:=hid (fill_any g _ _ _ _ _ (w.setCell ⟨g,1,none⟩ (.int .i32 1)) (c 3 (by omega) (by omega)) (c 4 (by omega) (by omega)) (c 5 (by omega) (by omega)) (c 6 (by omega) (by omega)) (c 7 (by omega) (by omega)) (z 3 (by omega)) (z 4 (by omega)) (z 5 (by omega)) (z 6 (by omega)) (z 7 (by omega)));have k0:(filled (w.setCell ⟨g,1,none⟩ (.int .i32 1)) g).cell? ⟨g,0,none⟩=some (.int .u32 0):=filled_get (by rw [World.cell?_setCell_other _ _ _ _ (by simp)];exact h0) (by omega);have k1:(filled (w.setCell ⟨g,1,none⟩ (.int .i32 1)) g).cell? ⟨g,1,none⟩=some (.int .i32 1):=filled_get (World.cell?_setCell_same _ _ _ h1) (by omega);have g0:(filled (w.setCell ⟨g,1,none⟩ (.int .i32 1)) g).frozen? ⟨g,0,none⟩=false:=by rw [filled_fro];exact z 0 (by omega)
 have g1:(filled (w.setCell ⟨g,1,none⟩ (.int .i32 1)) g).frozen? ⟨g,1,none⟩=false:=by rw [filled_fro];exact z 1 (by omega)
 have hl:=run_call_load (P:=Tryz.prog) Tryz.func86 (by kernel_rfl) (by kernel_rfl) (by kernel_rfl) .u32 (by kernel_rfl) (w:=w.setCell ⟨g,1,none⟩ (.int .i32 1)) (a:=⟨g,0,none⟩) (x:=0) ((World.cell?_setCell_other _ ⟨g,1,none⟩ ⟨g,0,none⟩ _ (by simp)).trans h0);have hnot:∀ (x:Bool) (w:World),(Op.unary .not (.bool x)).run Tryz.prog w=.ok (.bool (!x)) w:=fun _ _=>rfl
 have K0:=hid k0;have K1:=hid k1;have G0:=hid g0;have G1:=hid g1;clear c z k0 k1 g0 g1 h
 go_enter_defers Tryz.func52,Tryz.ntmps52
 go_wp2_with (go_at_call 87;refine (lock_free ⟨g,1,none⟩ _ (by go_simp) (by go_simp)).mono ?_;rintro e w' ⟨rfl,rfl⟩)
 go_wp2_with (first | (go_at_call 51;go_in) | (go_at_call 151;refine HF.out.mono ?_;rintro e w' ⟨rfl,rfl⟩))
 refine leaves_cons (f:=89) (args:=#[.pointer (some ⟨g,0,none⟩),.bool true]) (by simp) (by simp [go_sem]) ?_;refine (store_deferred ⟨g,0,none⟩ (.int .u32 0) .returning _ K0.out G0.out).mono ?_;rintro e u' w'' ⟨rfl,rfl,rfl⟩;refine leaves_cons (f:=88) (args:=#[.pointer (some ⟨g,1,none⟩)]) (by simp [settle]) (by simp [go_sem]) ?_;refine (unlock_deferred ⟨g,1,none⟩ _ _ ?_ (by simp [G1.out])).mono ?_
 ·refine (World.cell?_setCell_other _ ⟨g,0,none⟩ ⟨g,1,none⟩ _ (by simp)).trans ?_;rw [World.cell?_drew];exact K1.out
 rintro e u' w'' ⟨rfl,rfl,rfl⟩;simp [Leaves,settle,results,Tryz.results52,onced]
theorem onced_get {w:World}{g:Nat}{b:Bool}(h:LtAt w g b):LtAt (onced w g) g true:=by
 have c:∀ i,i<8→(w.cell? ⟨g,i,none⟩).isSome=true:=fun i hi=>by
  rw [h.get i (List.getElem?_eq_getElem (by rw [lRow_len];exact hi))];rfl
 refine⟨?_,fun i hi=>?_⟩
 ·intro i v hv;rw [Nat.zero_add];have hi:i<8:=by have:=(List.getElem?_eq_some_iff.1 hv).1;rw [lRow_len] at this;exact this
  have key:∀ (W:World) (j:Nat) (u:Value),(∀ i,i<8→(W.cell? ⟨g,i,none⟩).isSome=true)→∀ i,i<8→((W.setCell ⟨g,j,none⟩ u).cell? ⟨g,i,none⟩).isSome=true:=by
   intro W j u hW i hi;by_cases hj:j=i
   ·subst hj;obtain⟨x,hx⟩:=Option.isSome_iff_exists.1 (hW j hi);rw [World.cell?_setCell_same _ _ _ hx];rfl
   ·rw [World.cell?_setCell_other _ _ _ _ (by simp [hj])];exact hW i hi
  have put:∀ (W:World) (j:Nat) (u:Value),(∀ i,i<8→(W.cell? ⟨g,i,none⟩).isSome=true)→j<8→(W.setCell ⟨g,j,none⟩ u).cell? ⟨g,j,none⟩=some u:=by
   intro W j u hW hj;obtain⟨x,hx⟩:=Option.isSome_iff_exists.1 (hW j hj);exact World.cell?_setCell_same _ _ _ hx
  have off:∀ (W:World) (j:Nat) (u:Value),j≠i→(W.setCell ⟨g,j,none⟩ u).cell? ⟨g,i,none⟩=W.cell? ⟨g,i,none⟩:=fun W j u hj=>World.cell?_setCell_other _ _ _ _ (by simp [hj])
  have s1:=key w 1 (.int .i32 1) c;have s2:=key _ 3 (.string ⟨#[]⟩) s1;have s3:=key _ 4 (.string ⟨#[105]⟩) s2;have s4:=key _ 5 (.string ⟨#[100]⟩) s3;have s5:=key _ 6 (.string ⟨#[99]⟩) s4;have s6:=key _ 7 (.string ⟨#[120]⟩) s5;have s7:∀ i,i<8→((filled (w.setCell ⟨g,1,none⟩ (.int .i32 1)) g).drew.cell? ⟨g,i,none⟩).isSome=true:=fun i hi=>by rw [World.cell?_drew];exact s6 i hi
  have s8:=key _ 0 (.int .u32 1) s7;unfold onced;rcases (show i=0∨i=1∨i=2∨i=3∨i=4∨i=5∨i=6∨i=7 by omega) with rfl | rfl | rfl | rfl | rfl | rfl | rfl | rfl
  ·rw [off _ 1 _ (by decide),put _ 0 _ s7 (by decide)];exact hv
  ·rw [put _ 1 _ s8 (by decide)];exact hv
  ·rw [off _ 1 _ (by decide),off _ 0 _ (by decide),World.cell?_drew];unfold filled;rw [off _ 7 _ (by decide),off _ 6 _ (by decide),off _ 5 _ (by decide),off _ 4 _ (by decide),off _ 3 _ (by decide),off _ 1 _ (by decide)];exact (h.get 2 (by cases b<;>rfl:(lRow b)[2]?=some (.int .u32 0))).trans hv
  ·rw [off _ 1 _ (by decide),off _ 0 _ (by decide),World.cell?_drew];unfold filled;rw [off _ 7 _ (by decide),off _ 6 _ (by decide),off _ 5 _ (by decide),off _ 4 _ (by decide),put _ 3 _ s1 (by decide)];exact hv
  ·rw [off _ 1 _ (by decide),off _ 0 _ (by decide),World.cell?_drew];unfold filled;rw [off _ 7 _ (by decide),off _ 6 _ (by decide),off _ 5 _ (by decide),put _ 4 _ s2 (by decide)];exact hv
  ·rw [off _ 1 _ (by decide),off _ 0 _ (by decide),World.cell?_drew];unfold filled;rw [off _ 7 _ (by decide),off _ 6 _ (by decide),put _ 5 _ s3 (by decide)];exact hv
  ·rw [off _ 1 _ (by decide),off _ 0 _ (by decide),World.cell?_drew];unfold filled;rw [off _ 7 _ (by decide),put _ 6 _ s4 (by decide)];exact hv
  ·rw [off _ 1 _ (by decide),off _ 0 _ (by decide),World.cell?_drew];unfold filled;rw [put _ 7 _ s5 (by decide)];exact hv
 ·simp [onced,filled_fro,h.2 i hi]
theorem onced_below (w:World) (g:Nat):Below g w (onced w g):=by
 unfold onced filled;exact ((((((((Below.refl g w).setCell (Nat.le_refl _) _).setCell (Nat.le_refl _) _).setCell (Nat.le_refl _) _).setCell (Nat.le_refl _) _).setCell (Nat.le_refl _) _).setCell (Nat.le_refl _) _).drew.setCell (Nat.le_refl _) _).setCell (Nat.le_refl _) _
theorem do_any (g:Nat) (b:Bool) (w:World) (h:LtAt w g b) :
  Calls Tryz.prog 32 #[.pointer (some ⟨g,0,none⟩),.func (.func 151) #[.pointer (some ⟨g,0,none⟩)] #[]] w fun e w'=>e=.returned (.tuple #[])∧LtAt w' g true∧Below g w w':=by
 have hnot:∀ (x:Bool) (w:World),(Op.unary .not (.bool x)).run Tryz.prog w=.ok (.bool (!x)) w:=fun _ _=>rfl
 cases b
 ·have h0:w.cell? ⟨g,0,none⟩=some (.int .u32 0):=h.get 0 rfl;have hl:=run_call_load (P:=Tryz.prog) Tryz.func86 (by kernel_rfl) (by kernel_rfl) (by kernel_rfl) .u32 (by kernel_rfl) h0;have HS:=hid (slow_any g w h);have HO:=hid (onced_get h);clear h
  go_enter Tryz.func32,Tryz.ntmps32
  go_wp2_with (first | (go_at_call 52;refine HS.out.mono ?_;rintro e w' ⟨rfl,rfl⟩) | (go_at_call 51;go_in))
  go_end0
  exact⟨rfl,HO.out,onced_below w g⟩
 ·have h0:w.cell? ⟨g,0,none⟩=some (.int .u32 1):=h.get 0 rfl;have hl:=run_call_load (P:=Tryz.prog) Tryz.func86 (by kernel_rfl) (by kernel_rfl) (by kernel_rfl) .u32 (by kernel_rfl) h0;have HO:=hid h;clear h
  go_enter Tryz.func32,Tryz.ntmps32
  go_wp2
  go_end0
  exact⟨rfl,HO.out,Below.refl _ _⟩
theorem made_get {w:World}{g K:Nat}(h:LtAt w g true) (hK:K<5):w.cell? ⟨g,3+K,none⟩=some (.string (ltB K)):=by
 refine h.get (3+K) ?_;rcases (show K=0∨K=1∨K=2∨K=3∨K=4 by omega) with rfl | rfl | rfl | rfl | rfl<;>rfl
theorem ltB_no {K:Nat}(h:¬ K<5):ltB K=ByteArray.empty:=by
 unfold ltB lt;rw [if_neg (by omega),if_neg (by omega),if_neg (by omega),if_neg (by omega)];rfl
theorem of_any (g K:Nat) (b:Bool) (hK:K<256) (w:World) (h:LtAt w g b) :
  Calls Tryz.prog 123 #[.pointer (some ⟨g,0,none⟩),.int .u8 K] w fun e w'=>e=.returned (.string (ltB K))∧LtAt w' g true∧Below g w w':=by
 have hmf:∀ (fn:Fn) (first cap:Array Value) (w:World),(Instr.makeFunc fn first cap).run Tryz.prog w=.ok (.func fn first cap) w:=fun _ _ _ _=>rfl
 have HD:=hid (do_any g b w h);clear h;by_cases h5:K<5
 ·have d:decide ((5:Int)≤(K:Int))=false:=by simp;omega
  go_enter Tryz.func123,Tryz.ntmps123
  go_wp2_with fail
  refine HD.out.mono ?_;rintro e w1 ⟨rfl,h1,hb⟩;have hc:=made_get h1 h5;have H1:=hid h1;clear h1
  go_wp2
  go_ret
  exact⟨rfl,H1.out,hb⟩
 ·have d:decide ((5:Int)≤(K:Int))=true:=by simp;omega
  have HE:=hid (ltB_no h5)
  go_enter Tryz.func123,Tryz.ntmps123
  go_wp2_with fail
  refine HD.out.mono ?_;rintro e w1 ⟨rfl,h1,hb⟩;have H1:=hid h1;clear h1
  go_wp2
  go_ret
  exact⟨by rw [HE.out];rfl,H1.out,hb⟩
end Go.Proofs.YtopepebcnaikiaaGreatDoor.Ino
namespace Go.Proofs.YtopepebcnaikiaaGreatDoor.Ph
open Lib (hid)
open Go.ChangeShapes Go.WideShapes Go.ChangeAt Go.RowKit
open BigFrame
def en1 (s:ByteArray):List Value:=[.string s]
theorem en1_len (s:ByteArray):(en1 s).length=1:=rfl
theorem en1_one (s:ByteArray):∀ u∈en1 s,u.oneCell'=true:=by
 intro u hu;simp [en1] at hu;subst hu;rfl
theorem one_cell {w:World}{B:Nat}{A:Option Addr}{D:List ByteArray}(h:Ar.Ls en1 1 w B A D){i:Nat}{x:ByteArray}(hx:D[i]?=some x):∃ b o,A=some ⟨b,o,none⟩∧b<B∧w.cell? ⟨b,o+i,none⟩=some (.string x):=by
 obtain⟨b,o,h1,h2,h3⟩:=h i x hx;refine⟨b,o,h1,h2,?_⟩;have:=h3 0 (.string x) rfl;rw [Nat.mul_one,Nat.add_zero] at this;exact this
def has (s:ByteArray) (c:UInt8):Bool:=s.data.toList.contains c
theorem tl (s:ByteArray):s.toList=s.data.toList:=by rw [ByteArray.toList_eq]
theorem nb_eq (s:ByteArray):nb s=(!s.toList.isEmpty&&decide (s.toList.length≤24)&&!(s.toList==[46])&&!(s.toList==[46,46])&&!has s 47&&!has s 0):=by
 unfold nb nm has;rw [tl]
theorem tl_len (s:ByteArray):s.toList.length=s.size:=by rw [tl,Array.length_toList];rfl
theorem name_any (s:ByteArray) (w:World)
  (HC:∀ c w,Calls Tryz.prog 79 #[.string s,.string ⟨#[c]⟩] w fun e w'=>e=.returned (.bool (has s c))∧w=w') :
  Calls Tryz.prog 43 #[.string s] w fun e w'=>e=.returned (.bool (nb s))∧w=w':=by
 have hn:=nb_eq s;rw [tl_len] at hn;have H1:=hid (HC 47);have H2:=hid (HC 0);clear HC;by_cases h1:s.toList=[]
 ·have e1:s.toList.isEmpty=true:=by rw [h1];rfl
  have HN:=hid (show nb s=false by rw [hn,e1];rfl);clear hn
  go_enter Tryz.func43,Tryz.ntmps43
  go_wp2
  go_ret
  exact⟨by rw [HN.out];rfl,rfl⟩
 ·have e1:s.toList.isEmpty=false:=by cases h:s.toList with | nil=>exact absurd h h1 | cons a l=>rfl
  by_cases h2:s.size≤24
  ·have d2:decide (24<(s.size:Int))=false:=by simp;omega
   by_cases h3:s.toList=[46]
   ·have e3:(s.toList==[46])=true:=by rw [h3];rfl
    have HN:=hid (show nb s=false by rw [hn,e3];simp);clear hn
    go_enter Tryz.func43,Tryz.ntmps43
    go_wp2
    go_ret
    exact⟨by rw [HN.out];rfl,rfl⟩
   ·have e3:(s.toList==[46])=false:=by simpa using h3
    by_cases h4:s.toList=[46,46]
    ·have e4:(s.toList==[46,46])=true:=by rw [h4];rfl
     have HN:=hid (show nb s=false by rw [hn,e4];simp);clear hn h4
     go_enter Tryz.func43,Tryz.ntmps43
     go_wp2
     go_ret
     exact⟨by rw [HN.out];rfl,rfl⟩
    ·have e4:(s.toList==[46,46])=false:=by simpa using h4
     cases h5:has s 47
     ·cases h6:has s 0;all_goals
       have HN:=hid (show nb s=_ by rw [hn,e1,e3,e4,h5,h6,decide_eq_true h2]);rw [h5] at H1;rw [h6] at H2;clear hn h5 h6
       go_enter Tryz.func43,Tryz.ntmps43
       go_wp2_with (go_at_call 79;first | ((with_reducible refine (H1.out _).mono ?_);rintro e w' ⟨rfl,rfl⟩) | ((with_reducible refine (H2.out _).mono ?_);rintro e w' ⟨rfl,rfl⟩))
       go_ret
       exact⟨by rw [HN.out];rfl,rfl⟩
     ·have HN:=hid (show nb s=false by rw [hn,h5];simp);rw [h5] at H1;clear hn h5
      go_enter Tryz.func43,Tryz.ntmps43
      go_wp2_with (go_at_call 79;refine (H1.out _).mono ?_;rintro e w' ⟨rfl,rfl⟩)
      go_ret
      exact⟨by rw [HN.out];rfl,rfl⟩
  ·have d2:decide (24<(s.size:Int))=true:=by simp;omega
   have HN:=hid (show nb s=false by rw [hn,decide_eq_false h2];simp);clear hn
   go_enter Tryz.func43,Tryz.ntmps43
   go_wp2
   go_ret
   exact⟨by rw [HN.out];rfl,rfl⟩
theorem has_iff {s:ByteArray}{c:UInt8}:has s c=true↔c∈s.data.toList:=by unfold has;simp
theorem has_take {s:ByteArray}{c:UInt8}{i:Nat}(h:i<s.size):(s.data.toList.take (i+1)).contains c=((s.data.toList.take i).contains c||(s[i]==c)):=by
 rw [List.take_succ_eq_append_getElem (by simpa using h),List.contains_eq_any_beq,List.contains_eq_any_beq,List.any_append];simp only [List.any_cons,List.any_nil,Bool.or_false]
 congr 1
 rw [Bool.eq_iff_iff,beq_iff_eq,beq_iff_eq];exact⟨fun h=>h.symm,fun h=>h.symm⟩
theorem byte_ne {b c:UInt8}(h:(b==c)=false):((b.toNat:Int)==(c.toNat:Int))=false:=by
 rw [beq_eq_false_iff_ne] at h ⊢;intro e;apply h;apply UInt8.toNat_inj.1;omega
theorem byte_eq {b c:UInt8}(h:(b==c)=true):((b.toNat:Int)==(c.toNat:Int))=true:=by
 rw [beq_iff_eq] at h ⊢;rw [h]
end Go.Proofs.YtopepebcnaikiaaGreatDoor.Ph
namespace Go.Proofs
open Go.Shelf
open Go.RowKit in
def Tryz.lays103_ren:Go.Shelf.Ren:=⟨fun | 103=>41 | 210=>78 | 206=>119 | n=>n,fun | 9=>9 | 4=>4 | 24=>111 | 3=>3 | n=>n,fun | n=>n⟩
theorem Tryz.lays103:Go.Proofs.Lays.n103 Tryz.prog Tryz.lays103_ren:={
 mixed:=by kernel_rfl
 f103:=Tryz.func41.trans (congrArg some (by kernel_rfl))
 f206:=Tryz.func119.trans (congrArg some (by kernel_rfl))
 f210:=Tryz.func78.trans (congrArg some (by kernel_rfl))
 t3:=Tryz.underlying3
 a3:=Tryz.isAgg3
 z3:=Tryz.sizeOf3
 v3:=Tryz.zeroValue3
 t4:=Tryz.underlying4
 a4:=Tryz.isAgg4
 z4:=Tryz.sizeOf4
 v4:=Tryz.zeroValue4
 t9:=Tryz.underlying9
 a9:=Tryz.isAgg9
 z9:=Tryz.sizeOf9
 v9:=Tryz.zeroValue9
 t24:=Tryz.underlying111
 a24:=Tryz.isAgg111
 z24:=Tryz.sizeOf111
 v24:=Tryz.zeroValue111 }
open Go.RowKit in
theorem Tryz.strings_CutPrefix (s p:ByteArray) (w:World) :
  Calls Tryz.prog 41 #[.string s,.string p] w fun e w'=>e=.returned (.tuple #[.string ⟨(Lib.trimPrefix s.data.toList p.data.toList).toArray⟩,.bool (Lib.hasPrefix s.data.toList p.data.toList)])∧w'=w:=Any.strings_CutPrefix Tryz.lays103 s p w
open Go.RowKit in
open Go.RowKit Go.Lib in
def Tryz.lays144_ren:Go.Shelf.Ren:=⟨fun | 144=>79 | 143=>120 | 219=>150 | 217=>175 | 225=>176 | 224=>177 | 267=>178 | 266=>194 | 314=>195 | n=>n,fun | 9=>9 | 4=>4 | 3=>3 | 5=>5 | 46=>218 | 146=>256 | 51=>29 | n=>n,fun | 1=>0 | n=>n⟩
theorem Tryz.lays144:Go.Proofs.Lays.n144 Tryz.prog Tryz.lays144_ren:={
 mixed:=by kernel_rfl
 f143:=Tryz.func120.trans (congrArg some (by kernel_rfl))
 f144:=Tryz.func79.trans (congrArg some (by kernel_rfl))
 f217:=Tryz.func175.trans (congrArg some (by kernel_rfl))
 f219:=Tryz.func150.trans (congrArg some (by kernel_rfl))
 f224:=Tryz.func177.trans (congrArg some (by kernel_rfl))
 f225:=Tryz.func176.trans (congrArg some (by kernel_rfl))
 f266:=Tryz.func194.trans (congrArg some (by kernel_rfl))
 f267:=Tryz.func178.trans (congrArg some (by kernel_rfl))
 f314:=Tryz.func195.trans (congrArg some (by kernel_rfl))
 t3:=Tryz.underlying3
 a3:=Tryz.isAgg3
 z3:=Tryz.sizeOf3
 v3:=Tryz.zeroValue3
 t4:=Tryz.underlying4
 a4:=Tryz.isAgg4
 z4:=Tryz.sizeOf4
 v4:=Tryz.zeroValue4
 t5:=Tryz.underlying5
 a5:=Tryz.isAgg5
 z5:=Tryz.sizeOf5
 v5:=Tryz.zeroValue5
 t9:=Tryz.underlying9
 a9:=Tryz.isAgg9
 z9:=Tryz.sizeOf9
 v9:=Tryz.zeroValue9
 t46:=Tryz.underlying218
 a46:=Tryz.isAgg218
 z46:=Tryz.sizeOf218
 v46:=Tryz.zeroValue218
 t51:=Tryz.underlying29
 a51:=Tryz.isAgg29
 z51:=Tryz.sizeOf29
 v51:=Tryz.zeroValue29
 t146:=Tryz.underlying256
 a146:=Tryz.isAgg256
 z146:=Tryz.sizeOf256
 v146:=Tryz.zeroValue256
 g1:=by kernel_rfl }
open Go.RowKit Go.Lib in
theorem Tryz.strings_Contains_one (s:ByteArray) (c:UInt8) (w:World) :
  Calls Tryz.prog 79 #[.string s,.string ⟨#[c]⟩] w fun e w'=>e=.returned (.bool (decide (0≤Lib.indexByte s.data.toList c)))∧w'=w:=Any.strings_Contains_one Tryz.lays144 s c w
end Go.Proofs
namespace Go.Proofs.YtopepebcnaikiaaGreatDoor.Ph
open Lib (hid)
open Go.ChangeShapes Go.WideShapes Go.ChangeAt Go.RowKit
open Ar
theorem ib (c:UInt8):∀ l:List UInt8,decide (0≤Lib.indexByte l c)=l.contains c
 | []=>rfl
 | b::l=>by
  have ih:=ib c l;have hg:=Lib.indexByte_ge l c;rw [List.contains_cons];unfold Lib.indexByte;by_cases h:b=c
  ·subst h;simp
  ·have h1:(b==c)=false:=by simpa using h
   have h2:(c==b)=false:=by simpa using fun e:c=b=>h e.symm
   rw [h1,h2,Bool.false_or,← ih];by_cases h3:Lib.indexByte l c=-1
   ·rw [h3];rfl
   ·have h4:(Lib.indexByte l c==-1)=false:=by simpa using h3
    rw [h4];simp only [Bool.false_eq_true,if_false];exact decide_eq_decide.2 (by omega)
theorem contains_any (s:ByteArray) (c:UInt8) (w:World):Calls Tryz.prog 79 #[.string s,.string ⟨#[c]⟩] w fun e w'=>e=.returned (.bool (has s c))∧w=w':=by
 refine (Tryz.strings_Contains_one s c w).mono ?_;rintro e w' ⟨rfl,rfl⟩;exact⟨by rw [ib];rfl,rfl⟩
def slashed (p:ByteArray):Bool:=p.data.toList.head?==some 47
def behind (p:ByteArray):ByteArray:=if slashed p then p.extract 1 p.size else p
theorem pre_slash (l:List UInt8):Lib.hasPrefix l [47]=(l.head?==some 47):=by
 cases l with
 | nil=>rfl
 | cons a l =>
  show ((47:UInt8)==a&&true)=(some a==some 47)
  rw [Bool.and_true];by_cases h:a=47
  ·subst h;rfl
  ·have h1:((47:UInt8)==a)=false:=by simpa using fun e:47=a=>h e.symm
   rw [h1];exact (beq_eq_false_iff_ne.2 (fun e=>h (by injection e))).symm
theorem cutPrefix_any (s:ByteArray) (w:World):Calls Tryz.prog 41 #[.string s,.string ⟨#[47]⟩] w fun e w'=>e=.returned (.tuple #[.string (behind s),.bool (slashed s)])∧w=w':=by
 refine (Tryz.strings_CutPrefix s ⟨#[47]⟩ w).mono ?_;rintro e w' ⟨rfl,rfl⟩;refine⟨?_,rfl⟩;have h1:Lib.hasPrefix s.data.toList [47]=slashed s:=pre_slash _;show Ending.returned (.tuple #[.string ⟨(Lib.trimPrefix s.data.toList [47]).toArray⟩,.bool (Lib.hasPrefix s.data.toList [47])])=_
 rw [h1]
 congr 4
 unfold Lib.trimPrefix behind;rw [h1];cases slashed s
 ·rfl
 ·simp only [if_true]
  congr 1
  apply ByteArray.ext;apply Array.toList_inj.1;rw [ByteArray.data_extract,Array.toList_extract,List.extract_eq_take_drop,List.take_of_length_le (by rw [List.length_drop,Array.length_toList];exact Nat.le_refl _)];rfl
end Go.Proofs.YtopepebcnaikiaaGreatDoor.Ph
namespace Go.Proofs.YtopepebcnaikiaaGreatDoor.Ino
open Lib (hid)
open Go.ChangeShapes Go.WideShapes Go.ChangeAt Go.RowKit
open Pk (be num be_length num_be num_lt bs bs_size nB nE tN tR tE uN uOk uT uR uE xB xE number_any take_any text_any taketext_any)
open Ph (has contains_any tl tl_len nb)
def cI (n:In):List Value:=[.int .u8 n.K,.int .u16 n.M,.int .u32 n.L,.int .u32 n.S,.string n.T]
def vI (n:In):Value:=.agg #[.int .u8 n.K,.int .u16 n.M,.int .u32 n.L,.int .u32 n.S,.string n.T]
def vK (k:Ky):Value:=.agg #[.int .u8 k.K,.int .u32 k.I,.string k.N,.int .u32 k.C]
theorem number_in (n k:Nat) (w:World) (h0:n<18446744073709551616) (h1:1≤k) (h2:k≤8) (h:n<256 ^ k) :
  Calls Tryz.prog 83 #[.int .u64 n,.int .i64 k] w fun e w'=>e=.returned (.string (bs (be k n)))∧Below w.heap.size w w':=by
 have HC:=hid (number_any n k w h0);rw [nB_of h1 h2 h] at HC;clear h
 go_enter Tryz.func83,Tryz.ntmps83
 go_wp2_with (go_at_call 124;refine HC.out.mono ?_;rintro e w' ⟨rfl,hb⟩)
 go_ret
 exact⟨rfl,hb⟩
theorem takeNumber_in (s:ByteArray) (k:Int) (w:World) (hs:s.size≤maxLen) :
  Calls Tryz.prog 162 #[.string s,.int .i64 k] w fun e w'=>e=.returned (.tuple #[.int .u64 (tN s k),.string (tR s k)])∧Below w.heap.size w w':=by
 have HC:=hid (take_any s k w hs)
 go_enter Tryz.func162,Tryz.ntmps162
 go_wp2_with (go_at_call 163;refine HC.out.mono ?_;rintro e w' ⟨rfl,hb⟩)
 go_ret2
 exact⟨rfl,hb⟩
theorem emp_iff (s:ByteArray):s.toList.isEmpty=decide (s.size=0):=by
 rw [Bool.eq_iff_iff,List.isEmpty_iff,decide_eq_true_iff];exact⟨fun h=>by rw [← tl_len,h];rfl,fun h=>List.eq_nil_of_length_eq_zero (by rw [tl_len];exact h)⟩
theorem emp_of {s:ByteArray}{q:Bool}(h:decide (s.size=0)=q):s.toList.isEmpty=q∧(!s.toList.isEmpty)=!q:=by rw [emp_iff,h];exact⟨rfl,rfl⟩
theorem emp_yes {s:ByteArray}(h:s.size=0):s.toList=[]:=List.eq_nil_of_length_eq_zero (by rw [tl_len];exact h)
theorem emp_no {s:ByteArray}(h:¬ s.size=0):¬ s.toList=[]:=fun e=>h (by rw [← tl_len,e];rfl)
theorem target_in (s:ByteArray) (w:World) :
  Calls Tryz.prog 125 #[.string s] w fun e w'=>e=.returned (.bool (tgt s))∧w=w':=by
 by_cases h1:s.size=0
 ·have HQ:=hid (show tgt s=false by unfold tgt;rw [decide_eq_false (by omega)];rfl);obtain⟨e1,e2⟩:=emp_of (decide_eq_true h1);have e3:=emp_yes h1;clear h1
  go_enter Tryz.func125,Tryz.ntmps125
  go_wp2
  go_ret
  exact⟨by rw [HQ.out];rfl,rfl⟩
 ·obtain⟨e1,e2⟩:=emp_of (decide_eq_false h1);have e3:=emp_no h1;by_cases h2:s.size≤64
  ·have d:decide ((s.size:Int)≤64)=true:=by simp;omega
   have HC:=hid (contains_any s 0);have hq:tgt s=!has s 0:=by unfold tgt;rw [decide_eq_true (by omega),decide_eq_true h2];rfl
   cases hz:has s 0;all_goals
    rw [hz] at hq HC;have HQ:=hid hq;clear hq hz h1
    go_enter Tryz.func125,Tryz.ntmps125
    go_wp2_with (go_at_call 79;refine (HC.out _).mono ?_;rintro e w' ⟨rfl,rfl⟩)
    go_ret
    exact⟨by rw [HQ.out];rfl,rfl⟩
  ·have d:decide ((s.size:Int)≤64)=false:=by simp;omega
   have HQ:=hid (show tgt s=false by unfold tgt;rw [decide_eq_false h2];simp);clear h1
   go_enter Tryz.func125,Tryz.ntmps125
   go_wp2
   go_ret
   exact⟨by rw [HQ.out];rfl,rfl⟩
theorem eqz {a b:Nat}{q:Bool}(h:decide (a=b)=q):((a:Int)==(b:Int))=q:=by
 rw [← h,Bool.eq_iff_iff,beq_iff_eq,decide_eq_true_iff];omega
theorem eqz0 {a:Nat}{q:Bool}(h:decide (a=0)=q):((a:Int)==0)=q:=eqz (b:=0) h
theorem eqz1 {a:Nat}{q:Bool}(h:decide (a=1)=q):((a:Int)==1)=q:=eqz (b:=1) h
theorem eqz2 {a:Nat}{q:Bool}(h:decide (a=2)=q):((a:Int)==2)=q:=eqz (b:=2) h
theorem eqz3 {a:Nat}{q:Bool}(h:decide (a=3)=q):((a:Int)==3)=q:=eqz (b:=3) h
theorem eqz4 {a:Nat}{q:Bool}(h:decide (a=4)=q):((a:Int)==4)=q:=eqz (b:=4) h
theorem lez {a b:Nat}{q:Bool}(h:decide (a≤b)=q):decide ((a:Int)≤(b:Int))=q:=by
 rw [← h];exact decide_eq_decide.2 (by omega)
theorem lez1 {a:Nat}{q:Bool}(h:decide (1≤a)=q):decide ((1:Int)≤(a:Int))=q:=lez (a:=1) h
theorem lezM {a:Nat}{q:Bool}(h:decide (a≤65536)=q):decide ((a:Int)≤65536)=q:=lez (b:=65536) h
theorem right_in (n:In) (hl:n.lim) (w:World) :
  Calls Tryz.prog 84 #[vI n] w fun e w'=>e=.returned (.bool (okI n))∧Below w.heap.size w w':=by
 obtain⟨K,M,L,S,T⟩:=n;obtain⟨l1,l2,l3,l4⟩:=hl;dsimp only at l1 l2 l3 l4;unfold vI;dsimp only;cases k1:decide (K=1)
 ·have K1:=eqz1 k1;have k1':=of_decide_eq_false k1;cases k2:decide (K=2)
  ·have K2:=eqz2 k2;have k2':=of_decide_eq_false k2;cases k3:decide (K=3)
   ·have K3:=eqz3 k3;have k3':=of_decide_eq_false k3;have hq:okI ⟨K,M,L,S,T⟩=false:=by unfold okI;dsimp only;rw [if_neg k1',if_neg k2',if_neg k3']
    have HQ:=hid (show okI ⟨K,M,L,S,T⟩=false by rw [hq]);clear hq k1 k2 k3 k1' k2' k3'
    go_enter Tryz.func84,Tryz.ntmps84
    go_wp2
    go_ret
    exact⟨by rw [HQ.out];rfl,(Below.refl _ _).alloc (Nat.le_refl _) _⟩
   ·have K3:=eqz3 k3;have k3':=of_decide_eq_true k3;have hq:okI ⟨K,M,L,S,T⟩=(decide (1≤L)&&tgt T&&decide (S=T.size)):=by unfold okI;dsimp only;rw [if_neg k1',if_neg k2',if_pos k3']
    clear k1 k2 k3 k1' k2' k3';have HC:=hid (target_in T);cases a1:decide (1≤L)
    ·have A1:=lez1 a1;rw [a1] at hq;have HQ:=hid (show okI ⟨K,M,L,S,T⟩=false by rw [hq];rfl);clear hq a1
     go_enter Tryz.func84,Tryz.ntmps84
     go_wp2
     go_ret
     exact⟨by rw [HQ.out];rfl,(Below.refl _ _).alloc (Nat.le_refl _) _⟩
    ·have A1:=lez1 a1;rw [a1] at hq;cases a2:tgt T
     ·rw [a2] at hq HC;have HQ:=hid (show okI ⟨K,M,L,S,T⟩=false by rw [hq];rfl);clear hq a1 a2
      go_enter Tryz.func84,Tryz.ntmps84
      go_wp2_with (go_at_call 125;refine (HC.out _).mono ?_;rintro e w' ⟨rfl,rfl⟩)
      go_ret
      exact⟨by rw [HQ.out];rfl,(Below.refl _ _).alloc (Nat.le_refl _) _⟩
     ·rw [a2] at hq HC;have hT:=(tgt_size a2).2;cases a3:decide (S=T.size)
      ·have A3:=eqz a3;rw [a3] at hq;have HQ:=hid (show okI ⟨K,M,L,S,T⟩=false by rw [hq];rfl);clear hq a1 a2 a3
       go_enter Tryz.func84,Tryz.ntmps84
       go_wp2_with (go_at_call 125;refine (HC.out _).mono ?_;rintro e w' ⟨rfl,rfl⟩)
       go_ret
       exact⟨by rw [HQ.out];rfl,(Below.refl _ _).alloc (Nat.le_refl _) _⟩
      ·have A3:=eqz a3;rw [a3] at hq;have HQ:=hid (show okI ⟨K,M,L,S,T⟩=true by rw [hq];rfl);clear hq a1 a2 a3
       go_enter Tryz.func84,Tryz.ntmps84
       go_wp2_with (go_at_call 125;refine (HC.out _).mono ?_;rintro e w' ⟨rfl,rfl⟩)
       go_ret
       exact⟨by rw [HQ.out];rfl,(Below.refl _ _).alloc (Nat.le_refl _) _⟩
  ·have K2:=eqz2 k2;have k2':=of_decide_eq_true k2;have hq:okI ⟨K,M,L,S,T⟩=(decide (1≤L)&&decide (S≤65536)&&decide (T.size=0)):=by unfold okI;dsimp only;rw [if_neg k1',if_pos k2']
   clear k1 k2 k1' k2';cases a1:decide (1≤L)
   ·have A1:=lez1 a1;rw [a1] at hq;have HQ:=hid (show okI ⟨K,M,L,S,T⟩=false by rw [hq];rfl);clear hq a1
    go_enter Tryz.func84,Tryz.ntmps84
    go_wp2
    go_ret
    exact⟨by rw [HQ.out];rfl,(Below.refl _ _).alloc (Nat.le_refl _) _⟩
   ·have A1:=lez1 a1;rw [a1] at hq;cases a2:decide (S≤65536)
    ·have A2:=lezM a2;rw [a2] at hq;have HQ:=hid (show okI ⟨K,M,L,S,T⟩=false by rw [hq];rfl);clear hq a1 a2
     go_enter Tryz.func84,Tryz.ntmps84
     go_wp2
     go_ret
     exact⟨by rw [HQ.out];rfl,(Below.refl _ _).alloc (Nat.le_refl _) _⟩
    ·have A2:=lezM a2;rw [a2] at hq;cases a3:decide (T.size=0)
     ·obtain⟨A3,A4⟩:=emp_of a3;have A5:=emp_no (of_decide_eq_false a3);rw [a3] at hq;have HQ:=hid (show okI ⟨K,M,L,S,T⟩=false by rw [hq];rfl);clear hq a1 a2 a3
      go_enter Tryz.func84,Tryz.ntmps84
      go_wp2
      go_ret
      exact⟨by rw [HQ.out];rfl,(Below.refl _ _).alloc (Nat.le_refl _) _⟩
     ·obtain⟨A3,A4⟩:=emp_of a3;have A5:=emp_yes (of_decide_eq_true a3);rw [a3] at hq;have HQ:=hid (show okI ⟨K,M,L,S,T⟩=true by rw [hq];rfl);clear hq a1 a2 a3
      go_enter Tryz.func84,Tryz.ntmps84
      go_wp2
      go_ret
      exact⟨by rw [HQ.out];rfl,(Below.refl _ _).alloc (Nat.le_refl _) _⟩
 ·have K1:=eqz1 k1;have k1':=of_decide_eq_true k1;have hq:okI ⟨K,M,L,S,T⟩=(decide (L=1)&&decide (S=0)&&decide (T.size=0)):=by unfold okI;dsimp only;rw [if_pos k1']
  clear k1 k1';cases a1:decide (L=1)
  ·have A1:=eqz1 a1;rw [a1] at hq;have HQ:=hid (show okI ⟨K,M,L,S,T⟩=false by rw [hq];rfl);clear hq a1
   go_enter Tryz.func84,Tryz.ntmps84
   go_wp2
   go_ret
   exact⟨by rw [HQ.out];rfl,(Below.refl _ _).alloc (Nat.le_refl _) _⟩
  ·have A1:=eqz1 a1;rw [a1] at hq;cases a2:decide (S=0)
   ·have A2:=eqz0 a2;rw [a2] at hq;have HQ:=hid (show okI ⟨K,M,L,S,T⟩=false by rw [hq];rfl);clear hq a1 a2
    go_enter Tryz.func84,Tryz.ntmps84
    go_wp2
    go_ret
    exact⟨by rw [HQ.out];rfl,(Below.refl _ _).alloc (Nat.le_refl _) _⟩
   ·have A2:=eqz0 a2;rw [a2] at hq;cases a3:decide (T.size=0)
    ·obtain⟨A3,A4⟩:=emp_of a3;have A5:=emp_no (of_decide_eq_false a3);rw [a3] at hq;have HQ:=hid (show okI ⟨K,M,L,S,T⟩=false by rw [hq];rfl);clear hq a1 a2 a3
     go_enter Tryz.func84,Tryz.ntmps84
     go_wp2
     go_ret
     exact⟨by rw [HQ.out];rfl,(Below.refl _ _).alloc (Nat.le_refl _) _⟩
    ·obtain⟨A3,A4⟩:=emp_of a3;have A5:=emp_yes (of_decide_eq_true a3);rw [a3] at hq;have HQ:=hid (show okI ⟨K,M,L,S,T⟩=true by rw [hq];rfl);clear hq a1 a2 a3
     go_enter Tryz.func84,Tryz.ntmps84
     go_wp2
     go_ret
     exact⟨by rw [HQ.out];rfl,(Below.refl _ _).alloc (Nat.le_refl _) _⟩
def chI (n:In):Int:=if okI n then 0 else 4
theorem check_in (n:In) (hl:n.lim) (w:World) :
  Calls Tryz.prog 49 #[vI n] w fun e w'=>e=.returned (.int .i64 (chI n))∧Below w.heap.size w w':=by
 obtain⟨K,M,L,S,T⟩:=n;have HC:=hid (right_in ⟨K,M,L,S,T⟩ hl);have B0:=hid ((Below.refl w.heap.size w).alloc (Nat.le_refl _) (.cells #[.int .u8 K,.int .u16 M,.int .u32 L,.int .u32 S,.string T] 35));unfold vI;dsimp only;cases hq:okI ⟨K,M,L,S,T⟩;all_goals
  rw [hq] at HC;have HQ:=hid (show chI ⟨K,M,L,S,T⟩=_ by unfold chI;rw [hq]);clear hq
  go_enter Tryz.func49,Tryz.ntmps49
  go_wp2_with (go_at_call 84;refine (HC.out _).mono ?_;rintro e w' ⟨rfl,hb⟩)
  go_ret
  exact⟨by rw [HQ.out];rfl,B0.out.trans (hb.mono B0.out.size)⟩
end Go.Proofs.YtopepebcnaikiaaGreatDoor.Ino
namespace Go.Proofs.YtopepebcnaikiaaGreatDoor.Di
open Lib (hid)
open Go.ChangeShapes Go.WideShapes Go.ChangeAt Go.RowKit Go.WideMaps Go.Maps
open Ino
open Mq (MT)
theorem u32_wf {n:Nat}(h:n<4294967296):(Lit.int .u32 (n:Int)).wf=true:=by
 have h1:IntKind.u32.min=0:=by decide
 have h2:IntKind.u32.max=4294967295:=by decide
 simp [Lit.wf,h1,h2];omega
theorem u8_wf {n:Nat}(h:n<256):(Lit.int .u8 (n:Int)).wf=true:=by
 have h1:IntKind.u8.min=0:=by decide
 have h2:IntKind.u8.max=255:=by decide
 simp [Lit.wf,h1,h2];omega
theorem keyLits_int {P:Program}{m:Nat}{t:TypeId}{q:IntKind}{n:Int}(ht:P.underlying t=some (.int q)) (hw:(Lit.int q n).wf=true):P.keyLits (m+1) t [.int q n]=some [.int q n]:=by
 unfold Program.keyLits;rw [ht];simp [hw]
theorem keyLits_str {P:Program}{m:Nat}{t:TypeId}{s:ByteArray}(ht:P.underlying t=some .string) (hs:s.size≤maxLen):P.keyLits (m+1) t [.string s]=some [.string s.data.toList]:=by
 unfold Program.keyLits;rw [ht];simp [hs]
def kokK (x:Ky):Prop:=x.lim∧x.N.size≤maxLen
theorem key_some (x:Ky) (h:kokK x):∃ l,keyOf Tryz.prog 99 (vK x)=some l:=by
 obtain⟨⟨h1,h2,h3⟩,h4⟩:=h;obtain⟨m,hm⟩:∃ m,Tryz.prog.types.size=m+1:=by
  have h0:decide (0<Tryz.prog.types.size)=true:=by kernel_rfl
  have:=of_decide_eq_true h0;exact⟨Tryz.prog.types.size-1,by omega⟩
 have e1:Tryz.prog.cellsOf 97=1:=by kernel_rfl
 have e2:Tryz.prog.cellsOf 29=1:=by kernel_rfl
 have e3:Tryz.prog.cellsOf 9=1:=by kernel_rfl
 have e4:Tryz.prog.cellsOf 99=4:=by kernel_rfl
 have hk:Tryz.prog.keyType 99=true:=by kernel_rfl
 unfold keyOf;rw [Tryz.underlying99];dsimp only;have hf:(vK x).formed Tryz.prog 99=true:=by
  unfold vK Value.formed;rw [Tryz.underlying99];dsimp only;rw [e4];rfl
 rw [hk,hf,hm];unfold Program.keyLits;rw [Tryz.underlying99];simp only [vK,Value.cells];rw [e4];simp [e1,e2,e3,keyLits_int Tryz.underlying97 (u8_wf h1),keyLits_int Tryz.underlying29 (u32_wf h2),keyLits_int Tryz.underlying29 (u32_wf h3),keyLits_str Tryz.underlying9 h4]
theorem keyedK:Keyed Tryz.prog 99:=Keyed.of_law (deep_law (m:=3) (by decide) (by kernel_rfl) (by kernel_rfl) (by rw [Tryz.underlying99]))
theorem keyedU:Keyed Tryz.prog 29:=int_keyed Tryz.underlying29
theorem keyU (x:Nat) (h:x<4294967296):∃ l,keyOf Tryz.prog 29 (.int .u32 x)=some l:=⟨_,keyOf_int_mk Tryz.underlying29 (u32_wf h)⟩
theorem nat_inj (q:IntKind) (x y:Nat) (h:Value.int q x=Value.int q y):x=y:=by cases h;rfl
theorem vI_inj (x y:In) (h:vI x=vI y):x=y:=by
 obtain⟨a1,a2,a3,a4,a5⟩:=x;obtain⟨b1,b2,b3,b4,b5⟩:=y;simp [vI] at h;obtain⟨h1,h2,h3,h4,h5⟩:=h;rw [h5,Int.ofNat.inj h1,Int.ofNat.inj h2,Int.ofNat.inj h3,Int.ofNat.inj h4]
theorem vK_inj (x y:Ky) (h:vK x=vK y):x=y:=by
 obtain⟨a1,a2,a3,a4⟩:=x;obtain⟨b1,b2,b3,b4⟩:=y;simp [vK] at h;obtain⟨h1,h2,h3,h4⟩:=h;rw [h3,Int.ofNat.inj h1,Int.ofNat.inj h2,Int.ofNat.inj h4]
theorem zeroU (w:World):(zeroValue 29).run Tryz.prog w=.ok (.int .u32 0) w:=by kernel_rfl
theorem zeroI (w:World):(zeroValue 35).run Tryz.prog w=.ok (.agg #[.int .u8 0,.int .u16 0,.int .u32 0,.int .u32 0,.string ⟨#[]⟩]) w:=by kernel_rfl
theorem zeroS (w:World):(zeroValue 65).run Tryz.prog w=.ok (.agg #[]) w:=by kernel_rfl
def mI:MT Tryz.prog Nat In:=⟨77,29,35,fun x=>.int .u32 x,vI,zIn,fun x=>x<4294967296,Tryz.underlying77,keyedU,zeroI,nat_inj _,vI_inj,keyU⟩
def mE:MT Tryz.prog Ky Nat:=⟨78,99,29,vK,fun x=>.int .u32 x,0,kokK,Tryz.underlying78,keyedK,zeroU,vK_inj,nat_inj _,key_some⟩
def mN:MT Tryz.prog Nat Nat:=⟨79,29,29,fun x=>.int .u32 x,fun x=>.int .u32 x,0,fun x=>x<4294967296,Tryz.underlying79,keyedU,zeroU,nat_inj _,nat_inj _,keyU⟩
def mU:MT Tryz.prog Nat Unit:=⟨158,29,65,fun x=>.int .u32 x,fun _=>.agg #[],(),fun x=>x<4294967296,Tryz.underlying158,keyedU,zeroS,nat_inj _,fun _ _ _=>rfl,keyU⟩
section
variable {w:World}{b n j:Nat}
theorem lookN {F:Nat→Option Nat}(h:mN.At w b n F) (hj:j<4294967296):(Instr.lookup 79 (.map (some b)) (.int .u32 (j:Int)) false).run Tryz.prog w=.ok (.int .u32 (((F j).getD 0:Nat):Int)) w:=h.look hj
theorem lookI {F:Nat→Option In}(h:mI.At w b n F) (hj:j<4294967296):(Instr.lookup 77 (.map (some b)) (.int .u32 (j:Int)) false).run Tryz.prog w=.ok (vI ((F j).getD zIn)) w:=h.look hj
theorem lookI_ok {F:Nat→Option In}(h:mI.At w b n F) (hj:j<4294967296):(Instr.lookup 77 (.map (some b)) (.int .u32 (j:Int)) true).run Tryz.prog w=.ok (.tuple #[vI ((F j).getD zIn),.bool (F j).isSome]) w:=h.look_ok hj
theorem lookE {F:Ky→Option Nat}(h:mE.At w b n F){k:Ky}(hk:kokK k):(Instr.lookup 78 (.map (some b)) (vK k) false).run Tryz.prog w=.ok (.int .u32 (((F k).getD 0:Nat):Int)) w:=h.look hk
theorem lookE_ok {F:Ky→Option Nat}(h:mE.At w b n F){k:Ky}(hk:kokK k):(Instr.lookup 78 (.map (some b)) (vK k) true).run Tryz.prog w=.ok (.tuple #[.int .u32 (((F k).getD 0:Nat):Int),.bool (F k).isSome]) w:=h.look_ok hk
theorem lookU_ok {F:Nat→Option Unit}(h:mU.At w b n F) (hj:j<4294967296):(Instr.lookup 158 (.map (some b)) (.int .u32 (j:Int)) true).run Tryz.prog w=.ok (.tuple #[.agg #[],.bool (F j).isSome]) w:=h.look_ok hj
theorem lookN_d {F:Nat→Option Nat}(h:mN.At w b n F) (hj:j<4294967296):(Instr.lookup 79 (.map (some b)) (.int .u32 (j:Int)) false).run Tryz.prog w.drew=.ok (.int .u32 (((F j).getD 0:Nat):Int)) w.drew:=lookN (w:=w.drew) (h.keep rfl) hj
theorem lookE_d {F:Ky→Option Nat}(h:mE.At w b n F){k:Ky}(hk:kokK k):(Instr.lookup 78 (.map (some b)) (vK k) false).run Tryz.prog w.drew=.ok (.int .u32 (((F k).getD 0:Nat):Int)) w.drew:=lookE (w:=w.drew) (h.keep rfl) hk
theorem lookE_okd {F:Ky→Option Nat}(h:mE.At w b n F){k:Ky}(hk:kokK k):(Instr.lookup 78 (.map (some b)) (vK k) true).run Tryz.prog w.drew=.ok (.tuple #[.int .u32 (((F k).getD 0:Nat):Int),.bool (F k).isSome]) w.drew:=lookE_ok (w:=w.drew) (h.keep rfl) hk
end
theorem allU (v:Value) (l:Lit) (h:keyOf Tryz.prog 29 v=some l):∃ x:Nat,v=.int .u32 x∧x<4294967296:=by
 obtain⟨x,rfl,_,hw⟩:=Maps.keyOf_int_inv Tryz.underlying29 h;have h1:IntKind.u32.min=0:=by decide
 have h2:IntKind.u32.max=4294967295:=by decide
 simp [Lit.wf,h1,h2] at hw;exact⟨x.toNat,by congr 1;omega,by omega⟩
structure VoOk (s:Vo):Prop where
 ino:∀ i n,s.ino i=some n→n.lim∧n.T.size≤maxLen
 ent:∀ k j,s.ent k=some j→j<4294967296
 nmd:∀ i,s.nmd i<4294967296
 abv:∀ i,s.abv i<4294967296
structure Ms (w:World) (bi be bn ba N:Nat) (s:Vo):Prop where
 i:mI.At w bi N s.ino
 e:mE.At w be N s.ent
 n:∃ F,mN.At w bn N F∧∀ x,s.nmd x=(F x).getD 0
 a:∃ F,mN.At w ba N F∧∀ x,s.abv x=(F x).getD 0
 ok:VoOk s
structure Off (X:Nat→Prop) (w w':World):Prop where
 os:w'.os=w.os
 tape:w'.tape=w.tape
 output:w'.output=w.output
 size:w.heap.size≤w'.heap.size
 block:∀ j,j<w.heap.size→¬ X j→w'.heap[j]?=w.heap[j]?
theorem Off.refl (X:Nat→Prop) (w:World):Off X w w:=⟨rfl,rfl,rfl,Nat.le_refl _,fun _ _ _=>rfl⟩
theorem Off.trans {X:Nat→Prop}{a b c:World}(h:Off X a b) (k:Off X b c):Off X a c:=⟨k.os.trans h.os,k.tape.trans h.tape,k.output.trans h.output,Nat.le_trans h.size k.size,fun j hj hx=>(k.block j (Nat.lt_of_lt_of_le hj h.size) hx).trans (h.block j hj hx)⟩
theorem Off.of_below {X:Nat→Prop}{w w':World}(h:Below w.heap.size w w'):Off X w w':=⟨h.os,h.tape,h.output,h.size,fun j hj _=>h.block j hj⟩
theorem Off.of_grown {X:Nat→Prop}{w w':World}{b:Nat}(h:w.grownBy w' (some b)) (hb:X b):Off X w w':=⟨h.os,h.tape,h.output,h.size,fun j hj hx=>h.block j hj fun e=>by cases e;exact hx hb⟩
theorem Off.below {X:Nat→Prop}{B:Nat}{w w':World}(h:Off X w w') (hB:B≤w.heap.size) (hX:∀ j,X j→B≤j):Below B w w':=⟨h.os,h.tape,h.output,h.size,fun j hj=>h.block j (Nat.lt_of_lt_of_le hj hB) fun hx=>by have:=hX j hx;omega⟩
def VC (w:World) (g:Nat) (it o1 o2 o3 rv pv m1 m2 m3 m4:Value):Prop:=w.heap[g]?=some (.cells #[it,o1,o2,o3,rv,pv,m1,m2,m3,m4] 81 (0,0))
def encP (p:Pt):List Value:=[.int .u8 p.k.K,.int .u32 p.k.I,.string p.k.N,.int .u32 p.k.C,.string p.v]
theorem encP_len (p:Pt):(encP p).length=5:=rfl
theorem encP_one (p:Pt):∀ u∈encP p,u.oneCell'=true:=by
 intro u hu;simp only [encP,List.mem_cons,List.not_mem_nil,or_false] at hu;rcases hu with rfl | rfl | rfl | rfl | rfl<;>rfl
def vP (p:Pt):Value:=.agg (encP p).toArray
def XM (bi be bn ba j:Nat):Prop:=j=bi∨j=be∨j=bn∨j=ba
structure VW (w:World) (g bi be bn ba N:Nat) (it o1 o2 o3 rv pv:Value) (s:Vo):Prop where
 c:VC w g it o1 o2 o3 rv pv (.map (some bi)) (.map (some be)) (.map (some bn)) (.map (some ba))
 m:Ms w bi be bn ba N s
 o:g<bi∧bi<be∧be<bn∧bn<ba
variable {w w':World}{g bi be bn ba N:Nat}{it o1 o2 o3 rv pv m1 m2 m3 m4:Value}{s s':Vo}
theorem VC.keep (h:VC w g it o1 o2 o3 rv pv m1 m2 m3 m4) (e:w'.heap[g]?=w.heap[g]?):VC w' g it o1 o2 o3 rv pv m1 m2 m3 m4:=e.trans h
theorem VC.lt (h:VC w g it o1 o2 o3 rv pv m1 m2 m3 m4):g<w.heap.size:=(Array.getElem?_eq_some_iff.1 h).1
theorem VC.cells (h:VC w g it o1 o2 o3 rv pv m1 m2 m3 m4):w.cell? ⟨g,0,none⟩=some it∧w.cell? ⟨g,4,none⟩=some rv∧w.cell? ⟨g,5,none⟩=some pv∧w.cell? ⟨g,6,none⟩=some m1∧w.cell? ⟨g,7,none⟩=some m2∧w.cell? ⟨g,8,none⟩=some m3∧w.cell? ⟨g,9,none⟩=some m4 :=
 ⟨cell_of_row _ _ 0 _ _ _ h,cell_of_row _ _ 4 _ _ _ h,cell_of_row _ _ 5 _ _ _ h,cell_of_row _ _ 6 _ _ _ h,cell_of_row _ _ 7 _ _ _ h,cell_of_row _ _ 8 _ _ _ h,cell_of_row _ _ 9 _ _ _ h⟩
theorem Ms.keep (h:Ms w bi be bn ba N s) (e:∀ j,XM bi be bn ba j→w'.heap[j]?=w.heap[j]?):Ms w' bi be bn ba N s:=by
 obtain⟨h1,h2,⟨F,h3,h4⟩,⟨G,h5,h6⟩,h7⟩:=h;exact⟨h1.keep (e _ (.inl rfl)),h2.keep (e _ (.inr (.inl rfl))),⟨F,h3.keep (e _ (.inr (.inr (.inl rfl)))),h4⟩,⟨G,h5.keep (e _ (.inr (.inr (.inr rfl)))),h6⟩,h7⟩
theorem Ms.lt (h:Ms w bi be bn ba N s):bi<w.heap.size∧be<w.heap.size∧bn<w.heap.size∧ba<w.heap.size:=by
 obtain⟨h1,h2,⟨F,h3,h4⟩,⟨G,h5,h6⟩,h7⟩:=h;exact⟨h1.lt,h2.lt,h3.lt,h5.lt⟩
theorem VW.go (h:VW w g bi be bn ba N it o1 o2 o3 rv pv s) (hb:Below w.heap.size w w'):VW w' g bi be bn ba N it o1 o2 o3 rv pv s:=by
 have hl:=h.m.lt;refine⟨h.c.keep (hb.block _ h.c.lt),h.m.keep fun j hj=>hb.block j ?_,h.o⟩;rcases hj with rfl | rfl | rfl | rfl
 ·exact hl.1
 ·exact hl.2.1
 ·exact hl.2.2.1
 ·exact hl.2.2.2
theorem VW.drew (h:VW w g bi be bn ba N it o1 o2 o3 rv pv s):VW w.drew g bi be bn ba N it o1 o2 o3 rv pv s:=h.go (Below.refl _ _).drew
theorem VW.off (h:VW w g bi be bn ba N it o1 o2 o3 rv pv s):¬ XM bi be bn ba g:=by
 have:=h.o;unfold XM;omega
end Go.Proofs.YtopepebcnaikiaaGreatDoor.Di
namespace Go.Proofs.YtopepebcnaikiaaGreatDoor.Rg
open Lib (hid)
open Go.RowKit
section
variable {P:Program}{ops:Array Oper}{md:Region.Mode}{S:World→Prop}
def Comes (P:Program) (S:World→Prop) (w:World) (v:Value):Result Next→Prop
 | .ok (.value u) w'=>u=v∧S w'
 | .ok .skip w'=>v=undef∧S w'
 | .ok (.enter f args) w'=>Calls P f args w' fun e w''=>e=.returned v∧S w''
 | _=>False
def OpG (P:Program) (ops:Array Oper) (S:World→Prop) (o:Oper) (v:Value) (a:Act):Prop :=
 (Region.wanted o (yielded ops a.tmps)=true∧∀ w,S w→Comes P S w v ((execOp a.eval o).run P w))∨(Region.wanted o (yielded ops a.tmps)=false∧v=undef)
theorem OpG.same {o:Oper}{v:Value}{a a':Act}(h:OpG P ops S o v a) (he:execOp a'.eval o=execOp a.eval o) (hw:Region.wanted o (yielded ops a'.tmps)=Region.wanted o (yielded ops a.tmps)):OpG P ops S o v a':=by
 unfold OpG at *;rw [he,hw];exact h
def stG (P:Program) (ops:Array Oper) (S:World→Prop) (i:Nat) (K:Act→Prop) (a:Act):Prop :=
 match ops[i]? with
 | none=>K a
 | some o=>∃ v,OpG P ops S o v a∧K (a.put o.dst v)
theorem stG_at {i:Nat}{o:Oper}(ho:ops[i]?=some o){K:Act→Prop}{a:Act}:stG P ops S i K a↔∃ v,OpG P ops S o v a∧K (a.put o.dst v):=by
 unfold stG;rw [ho]
theorem stG_mono {i:Nat}{K K':Act→Prop}{a:Act}(h:∀ a,K a→K' a) (hh:stG P ops S i K a):stG P ops S i K' a:=by
 unfold stG at *;split
 ·rename_i e;rw [e] at hh;exact h _ hh
 ·rename_i o e;rw [e] at hh;obtain⟨v,h1,h2⟩:=hh;exact⟨v,h1,h _ h2⟩
theorem OpG.wpOp {i:Nat}{o:Oper}{v:Value}{a:Act}{w:World}{Q:Exit→Act→World→Prop}{K:Act→World→Prop}(ho:ops[i]?=some o) (hg:OpG P ops S o v a) (hS:S w) (hK:∀ w',S w'→K (a.put o.dst v) w'):wpOp P ops Q i K a w:=by
 unfold Go.wpOp;rw [ho];rcases hg with ⟨hw,hc⟩ | ⟨hw,rfl⟩
 ·have hc:=hc w hS;simp only [hw,if_true];refine .inl ?_;unfold Oper.wp;generalize (execOp a.eval o).run P w=r at *;cases r with
  | ok n w' =>
   cases n<;>simp only [Comes] at hc<;>simp only [Oper.upon]
   case value u=>obtain⟨rfl,h⟩:=hc;exact hK _ h
   case skip=>obtain⟨rfl,h⟩:=hc;exact hK _ h
   case enter f args=>exact hc.mono fun e w'' ⟨he,h⟩=>by subst he;exact hK _ h
  | halt x w'=>simp only [Comes] at hc
 ·simp only [hw,Bool.false_eq_true,if_false];exact hK _ hS
def anyG (P:Program) (md:Region.Mode) (ops:Array Oper) (S:World→Prop) (Q:Act→Prop):Nat→Array Bool→Act→Prop
 | 0,listed,a=>Region.ready md ops listed=[]∧Q a
 | fuel+1,listed,a=>(Region.ready md ops listed=[]→Q a)∧∀ i∈Region.ready md ops listed,stG P ops S i (anyG P md ops S Q fuel (listed.setIfInBounds i true)) a
theorem wpAny_of_G {Q:Act→Prop}{Q':Exit→Act→World→Prop}(hQ:∀ a w,Q a→S w→Q' .normal a w):∀ (fuel:Nat) (listed:Array Bool) (a:Act) (w:World),S w→anyG P md ops S Q fuel listed a→wpAny P md ops Q' fuel listed a w
 | 0,_,_,_,hS,h=>⟨h.1,hQ _ _ h.2 hS⟩
 | fuel+1,listed,a,w,hS,h=>⟨fun h0=>hQ _ _ (h.1 h0) hS,fun i hi=>by
   have h1:=h.2 i hi;cases ho:ops[i]? with
   | none=>unfold stG at h1;rw [ho] at h1;unfold wpOp;rw [ho];exact wpAny_of_G hQ fuel _ _ _ hS h1
   | some o =>
    obtain⟨v,hg,hn⟩:=(stG_at ho).1 h1;exact hg.wpOp ho hS fun w' hS'=>wpAny_of_G hQ fuel _ _ _ hS' hn⟩
theorem stG_put {j:Nat}{oi oj:Oper}{v:Value}(hj:ops[j]?=some oj) (hap:oi.apart ops oj=true) (hsi:∀ cs b,oi.op≠.select cs b) (hsj:∀ cs b,oj.op≠.select cs b){K:Act→Prop}{a:Act}
  (hy:OpG P ops S oi v a) (h:stG P ops S j K (a.put oi.dst v)):stG P ops S j (fun a'=>OpG P ops S oi v a'∧K (a'.put oi.dst v)) a:=by
 obtain⟨h1,h2,h3⟩:=Oper.apart_spec hap;obtain⟨u,hg,hk⟩:=(stG_at hj).1 h;refine (stG_at hj).2 ⟨u,?_,hy.same (execOp_put oi hsi a oj.dst u h3) (wanted_put oi a oj.dst u h3),?_⟩
 ·unfold OpG at *;rw [wanted_put oj a oi.dst v h1,execOp_put oj hsj a oi.dst v h1] at hg;exact hg
 ·rw [← Act.put_comm a v u h2];exact hk
theorem anyG_first {Q:Act→Prop}{i:Nat}{oi:Oper}{v:Value}(hi:ops[i]?=some oi) (hsel:∀ (j:Nat) (o:Oper) cs b,ops[j]?=some o→o.op≠.select cs b) (fuel:Nat) :
  ∀ (listed:Array Bool) (a:Act),
   (∀ j oj,ops[j]?=some oj→j≠i→listed.getD j true=false→(∀ e∈oj.after,Region.binds md e=true→e.on≠i)→oi.apart ops oj=true) →
   i∈Region.ready md ops listed→OpG P ops S oi v a→anyG P md ops S Q fuel (listed.setIfInBounds i true) (a.put oi.dst v)→anyG P md ops S Q (fuel+1) listed a:=by
 induction fuel with
 | zero =>
  intro listed a _ hr hy H;refine⟨fun h=>(by rw [h] at hr;cases hr),fun j hj=>?_⟩;by_cases e:j=i
  ·subst e;exact (stG_at hi).2 ⟨v,hy,H⟩
  ·have:=ready_mono hj e;rw [H.1] at this;cases this
 | succ fuel ih =>
  intro listed a hfree hr hy H;refine⟨fun h=>(by rw [h] at hr;cases hr),fun j hj=>?_⟩;by_cases e:j=i
  ·subst e;exact (stG_at hi).2 ⟨v,hy,H⟩
  ·obtain⟨hun,oj,hoj,hall⟩:=mem_ready.1 hj;have hnot:∀ x∈oj.after,Region.binds md x=true→x.on≠i:=fun x hx hb he=>by
    have q1:=hall x hx hb;have q0:=(mem_ready.1 hr).1;rw [he] at q1;rcases Nat.lt_or_ge i listed.size with h' | h'
    ·simp [h'] at q0 q1;rw [q0] at q1;cases q1
    ·simp [Array.getElem?_eq_none h'] at q1
   refine stG_mono (fun a' h3=>ih _ a' (fun k ok hk hki hku hno=>hfree k ok hk hki ?_ hno) (ready_mono hr (Ne.symm e)) h3.1 ?_)
    (stG_put hoj (hfree j oj hoj e hun hnot) (fun cs b=>hsel i oi cs b hi) (fun cs b=>hsel j oj cs b hoj) hy (H.2 j (ready_mono hj e)))
   ·by_cases hjk:j=k
    ·subst hjk;exact hun
    ·rw [getD_set_ne true hjk] at hku;exact hku
   ·rw [Array.setIfInBounds_comm _ _ e];exact h3.2
def wpG (P:Program) (ops:Array Oper) (S:World→Prop) (Q:Act→Prop):List Oper→Act→Prop
 | [],a=>Q a
 | o::rest,a=>∃ v,OpG P ops S o v a∧wpG P ops S Q rest (a.put o.dst v)
theorem anyG_lex {Q:Act→Prop}(hs:Region.noSelect ops=true):∀ (l:List Oper) (k:Nat) (listed:Array Bool) (a:Act),(∀ j,l[j]?=ops[k+j]?) →
  Region.lexFrom md ops l.length k listed=true→wpG P ops S Q l a→anyG P md ops S Q l.length listed a
 | [],_,_,_,_,hB,h=>⟨by simpa [Region.lexFrom] using hB,h⟩
 | o::l,k,listed,a,hl,hB,⟨v,hy,hn⟩=>by
  have h0:ops[k]?=some o:=by simpa using (hl 0).symm
  simp only [List.length_cons,Region.lexFrom,Bool.and_eq_true] at hB;exact anyG_first h0 (Region.noSelect_spec hs) l.length listed a (Region.free_spec h0 hB.1.2) (by simpa using hB.1.1) hy
   (anyG_lex hs l (k+1) _ _ (fun j=>by have:=hl (j+1);simpa [Nat.add_assoc,Nat.add_comm 1 j] using this) hB.2 hn)
theorem wp_region_G (S:World→Prop){id:Nat}{Q:Exit→Act→World→Prop}{a:Act}{w:World}{l:List Oper}(hm:P.follows .mixedOrders=true) (hB:Region.lexB .any l.toArray=true) (hS:S w.drew)
  (h:wpG P l.toArray S (fun a'=>∀ w',S w'→Q .normal a' w') l a):(Code.region id l.toArray true).wp P Q a w:=by
 simp only [Region.lexB,Bool.and_eq_true] at hB;refine wp_region_any hm (wpAny_of_G (S:=S) (Q:=fun a'=>∀ w',S w'→Q .normal a' w') (fun _ _ h hS=>h _ hS) _ _ _ _ hS ?_);have:=anyG_lex (md:=.any) (P:=P) (S:=S) hB.1 l 0 (Array.replicate l.toArray.size false) a (by simp) (by simpa using hB.2) h;simpa using this
variable {Q:Act→Prop}{o:Oper}{rest:List Oper}
theorem wpG_nil {a:Act}(h:Q a):wpG P ops S Q [] a:=h
theorem wpG_val {tmps:Array Value}{n:Nat}(v:Value) (hd:o.dst=some n) (hw:Region.wanted o (yielded ops tmps)=true) (hv:∀ w,S w→(execOp (Act.eval { tmps:=tmps,defers:=[] }) o).run P w=.ok (.value v) w)
  (h:wpG P ops S Q rest { tmps:=tmps.setIfInBounds n v,defers:=[] }):wpG P ops S Q (o::rest) { tmps:=tmps,defers:=[] } :=
 ⟨v,.inl ⟨hw,fun w hS=>by rw [hv w hS];exact⟨rfl,hS⟩⟩,by rw [hd];exact h⟩
theorem wpG_call {tmps:Array Value}{n:Nat}(v:Value) (f:FuncId) (args:Array Value) (hd:o.dst=some n) (hw:Region.wanted o (yielded ops tmps)=true) (hv:∀ w,(execOp (Act.eval { tmps:=tmps,defers:=[] }) o).run P w=.ok (.enter f args) w)
  (hc:∀ w,S w→Calls P f args w fun e w'=>e=.returned v∧S w')
  (h:wpG P ops S Q rest { tmps:=tmps.setIfInBounds n v,defers:=[] }):wpG P ops S Q (o::rest) { tmps:=tmps,defers:=[] } :=
 ⟨v,.inl ⟨hw,fun w hS=>by rw [hv w];exact hc w hS⟩,by rw [hd];exact h⟩
end
end Go.Proofs.YtopepebcnaikiaaGreatDoor.Rg
