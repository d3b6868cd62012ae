import Derived.Test.YtopepebcnaikiaaGreatDoorRows
import Derived.Test.YtopepebcnaikiaaGreatDoorGb1
import Derived.Test.YtopepebcnaikiaaGreatDoorGb2
import Derived.Lib.Strings
import Derived.Lib.Bytealg
import Derived.LoopTactic
import Derived.OwnWalk
import Derived.BigQuiet
import Derived.WalkLawsBesides
import Derived.WalkSpells
import Derived.Lib.Hide
set_option maxRecDepth 100000
set_option maxHeartbeats 20000000
set_option linter.unusedVariables false
set_option linter.unusedSimpArgs false
set_option maxRecDepth 100000
namespace Go.Proofs.YtopepebcnaikiaaGreatDoor
theorem Gb3a {α:Type}(l:List α)(i:Nat)(x:α):l.toArray.setIfInBounds i x=(l.set i x).toArray:=List.setIfInBounds_toArray ..
theorem Gb3b {α:Type}{a b:α}{l:List α}:(a::l).set 0 b=b::l:=List.set_cons_zero
theorem Gb3c {α:Type}{a b:α}{l:List α}{n:Nat}:(a::l).set (n+1) b=a::l.set n b:=List.set_cons_succ
end Go.Proofs.YtopepebcnaikiaaGreatDoor
namespace Go.Proofs.YtopepebcnaikiaaGreatDoor.Ph
open Lib (hid)
open Go.ChangeShapes Go.WideShapes Go.ChangeAt Go.RowKit
open BigFrame
open Ar
def spB (p:ByteArray):List ByteArray:=(spN p.data.toList).map bsL
def spX (p:ByteArray):Int:=spE p.data.toList
theorem map_all (l:List (List UInt8)):(l.map bsL).all nb=l.all nm:=by
 induction l with
 | nil=>rfl
 | cons x r ih=>rw [List.map_cons,List.all_cons,List.all_cons,ih];rfl
theorem sz_len (p:ByteArray):p.data.toList.length=p.size:=by rw [Array.length_toList];rfl
theorem sp_long {p:ByteArray}(h:256<p.size):spX p=2∧spB p=[]:=by
 have h1:256<p.data.toList.length:=by rw [sz_len];exact h
 have e:spX p=2:=by unfold spX spE;rw [if_pos h1]
 refine⟨e,?_⟩;unfold spB;rw [sp_err (by unfold spX at e;rw [e];decide)];rfl
theorem sp_root {p:ByteArray}(h:p.toList=[47]):spX p=0∧spB p=[]:=by
 rw [tl] at h;unfold spX spB;rw [h];exact⟨rfl,rfl⟩
theorem sp_no {p:ByteArray}(h1:p.size≤256) (h2:¬ p.toList=[47]) (h3:p.data.toList.head?≠some 47):spX p=10∧spB p=[]:=by
 rw [tl] at h2;have e:spX p=10:=by unfold spX spE;rw [if_neg (by rw [sz_len];omega),if_neg h2,if_pos (.inl h3)]
 refine⟨e,?_⟩;unfold spB;rw [sp_err (by unfold spX at e;rw [e];decide)];rfl
theorem behind_cut {p:ByteArray}:cutB (p.extract 1 p.size)=(cut p.data.toList.tail).map bsL:=by
 unfold cutB;rw [extract_list,List.take_of_length_le (by rw [List.length_drop,Array.length_toList];exact Nat.le_refl _),List.drop_one]
theorem sp_bad {p:ByteArray}(h1:p.size≤256) (h2:¬ p.toList=[47]) (h4:(cutB (p.extract 1 p.size)).all nb=false):spX p=10∧spB p=[]:=by
 rw [tl] at h2;rw [behind_cut,map_all] at h4;have e:spX p=10:=by unfold spX spE;rw [if_neg (by rw [sz_len];omega),if_neg h2,if_pos (.inr h4)]
 refine⟨e,?_⟩;unfold spB;rw [sp_err (by unfold spX at e;rw [e];decide)];rfl
theorem sp_yes {p:ByteArray}(h1:p.size≤256) (h2:¬ p.toList=[47]) (h3:p.data.toList.head?=some 47) (h4:(cutB (p.extract 1 p.size)).all nb=true):spX p=0∧spB p=cutB (p.extract 1 p.size):=by
 rw [tl] at h2;rw [behind_cut,map_all] at h4;have hl:¬ 256<p.data.toList.length:=by rw [sz_len];omega
 have hno:¬ (p.data.toList.head?≠some 47∨(cut p.data.toList.tail).all nm=false):=by
  rintro (h | h)
  ·exact h h3
  ·rw [h4] at h;cases h
 unfold spX spB spE spN;rw [if_neg hl,if_neg h2,if_neg hno,if_neg (by rintro (h | h | h);exact hl h;exact h2 h;exact hno h),behind_cut];exact⟨rfl,rfl⟩
theorem behind_size (p:ByteArray):(behind p).size≤p.size:=by
 unfold behind;split
 ·rw [ByteArray.size_extract];omega
 ·exact Nat.le_refl _
def SplitPost (w:World) (p:ByteArray) (e:Ending) (w':World):Prop:=∃ v,e=.returned (.tuple #[v,.int .i64 (spX p)])∧MkS w w' v (spB p)
theorem SplitPost.no {w w':World}{p:ByteArray}{x:Int}(h:spX p=x∧spB p=[]) (hb:Below w.heap.size w w'):SplitPost w p (.returned (.tuple #[.slice none 0 0,.int .i64 x])) w':=by
 refine⟨.slice none 0 0,by rw [h.1],?_⟩;rw [h.2];exact Mk.nil hb
theorem split_any (p:ByteArray) (hp:p.size≤maxLen) (w:World):Calls Tryz.prog 26 #[.string p] w (SplitPost w p):=by
 unfold maxLen at hp;by_cases h1:p.size≤256
 ·have d1:decide (256<(p.size:Int))=false:=by simp;omega
  by_cases h2:p.toList=[47]
  ·have HS:=hid (sp_root h2);have e2:(p.toList==[47])=true:=by rw [h2];rfl
   go_enter Tryz.func26,Tryz.ntmps26
   go_wp2
   go_ret2
   exact SplitPost.no HS.out (Below.refl _ _)
  ·have e2:(p.toList==[47])=false:=by simpa using h2
   cases h3:slashed p
   ·have HS:=hid (sp_no h1 h2 (by intro h;unfold slashed at h3;rw [h] at h3;simp at h3));have HC:=hid (cutPrefix_any p w);rw [h3] at HC;have hbz:=behind_size p;clear h3 h2
    go_enter Tryz.func26,Tryz.ntmps26
    go_wp2_with (first|(go_at_call 41;refine HC.out.mono ?_;rintro e w' ⟨rfl,rfl⟩)|(go_at_call 42;refine (parts_any _ (by omega) _).mono ?_;rintro e w2 ⟨v,rfl,hM⟩;have HM:=hid hM;clear hM))
    go_ret2
    exact SplitPost.no HS.out HM.out.2
   ·have hb:behind p=p.extract 1 p.size:=by unfold behind;rw [if_pos h3]
    have hh:p.data.toList.head?=some 47:=by unfold slashed at h3;rwa [beq_iff_eq] at h3
    have HC:=hid (cutPrefix_any p w);rw [h3,hb] at HC;have hbz:(p.extract 1 p.size).size≤256:=by rw [ByteArray.size_extract];omega
    have HY:=hid (sp_yes h1 h2 hh);have HB:=hid (sp_bad h1 h2);clear h3 h2 hb hh
    go_enter Tryz.func26,Tryz.ntmps26
    go_wp2_with (go_at_call 41;refine HC.out.mono ?_;rintro e w' ⟨rfl,rfl⟩)
    refine (parts_any _ (by omega) _).mono ?_;rintro e w2 ⟨v,rfl,hM⟩;obtain⟨A,c,rfl,hc1,hc2,hL⟩:=hM.ls en1_len;have HM:=hid hM;have HL:=hid hL;obtain⟨m,hm⟩:∃ m,m=(cutB (p.extract 1 p.size)).length:=⟨_,rfl⟩;rw [← hm] at hc1;unfold maxLen at hc2;have HA:=hid (allNames_any (cutB (p.extract 1 p.size)) A m c w2.heap.size hm (by omega) w2 (Nat.le_refl _) hL);rw [← hm] at HM;rw [← hm];clear hM hL HL hm;cases hq:(cutB (p.extract 1 p.size)).all nb
    ·rw [hq] at HA;have HS:=hid (HB.out hq);clear hq HB HY
     go_wp2_with (go_at_call 27;refine HA.out.mono ?_;rintro e w' ⟨rfl,rfl⟩)
     go_ret2
     exact SplitPost.no HS.out HM.out.2
    ·rw [hq] at HA;have HS:=hid (HY.out hq);clear hq HB HY
     go_wp2_with (go_at_call 27;refine HA.out.mono ?_;rintro e w' ⟨rfl,rfl⟩)
     go_ret2
     refine⟨_,by rw [HS.out.1];rfl,?_⟩;rw [HS.out.2];exact HM.out
 ·have d1:decide (256<(p.size:Int))=true:=by simp;omega
  have HS:=hid (sp_long (p:=p) (by omega))
  go_enter Tryz.func26,Tryz.ntmps26
  go_wp2
  go_ret2
  exact SplitPost.no HS.out (Below.refl _ _)
end Go.Proofs.YtopepebcnaikiaaGreatDoor.Ph
namespace Go.Proofs.YtopepebcnaikiaaGreatDoor.Di
open Lib (hid)
open Ino
open It (Itm)
open Ph (nb spB spX)
def tgtOf (s:Vo) (i:Nat):ByteArray:=match s.ino i with | some n=>n.T | none=>ByteArray.empty
def wkN (s:Vo) (fo:Bool) (nx:ByteArray→List ByteArray→Nat×Int):Nat→List ByteArray→Nat×Int
 | a,[]=>(a,0)
 | a,x::xs=>if kind s a≠1 then (0,12) else
  match s.ent ⟨2,a,x,0⟩ with
  | none=>(0,5)
  | some j=>if (decide (kind s j≠3)||(xs.isEmpty&&!fo))=true then wkN s fo nx j xs else nx (tgtOf s j) xs
def wkL (s:Vo) (fo:Bool):Nat→Nat→List ByteArray→Nat×Int
 | 0,a,xs=>wkN s fo (fun _ _=>(0,15)) a xs
 | r+1,a,xs=>wkN s fo (fun t ys=>if spX t=0 then wkL s fo r 1 (spB t++ys) else (0,spX t)) a xs
theorem wkL_nil (s:Vo) (fo:Bool) (r a:Nat):wkL s fo r a []=(a,0):=by cases r<;>rfl
theorem wkL_cons (s:Vo) (fo:Bool) (r a:Nat) (x:ByteArray) (xs:List ByteArray):wkL s fo r a (x::xs)=if kind s a≠1 then (0,12) else
  match s.ent ⟨2,a,x,0⟩ with
  | none=>(0,5)
  | some j=>if (decide (kind s j≠3)||(xs.isEmpty&&!fo))=true then wkL s fo r j xs else
   match r with
   | 0=>(0,15)
   | r+1=>if spX (tgtOf s j)=0 then wkL s fo r 1 (spB (tgtOf s j)++xs) else (0,spX (tgtOf s j)):=by cases r<;>rfl
def one (s:Vo) (y:ByteArray) (p:Nat×Int):Nat×Int:=if p.2=0 then (if kind s p.1≠1 then (0,12) else match s.ent ⟨2,p.1,y,0⟩ with | none=>(0,5) | some j=>(j,0)) else p
theorem one_ok (s:Vo) (y:ByteArray) (a:Nat):one s y (a,0)=(if kind s a≠1 then (0,12) else match s.ent ⟨2,a,y,0⟩ with | none=>(0,5) | some j=>(j,0):Nat×Int):=by
 unfold one;rw [if_pos rfl]
theorem wkN_snoc (s:Vo) (y:ByteArray){nx nx':ByteArray→List ByteArray→Nat×Int}(h:∀ t ys,nx' t (ys++[y])=one s y (nx t ys)):∀ (xs:List ByteArray) (a:Nat),wkN s false nx' a (xs++[y])=one s y (wkN s true nx a xs)
 | [],a=>by
  rw [List.nil_append,show wkN s true nx a []=(a,0) from rfl,one_ok];simp only [wkN];by_cases hk:kind s a≠1
  ·rw [if_pos hk,if_pos hk]
  ·rw [if_neg hk,if_neg hk];cases s.ent ⟨2,a,y,0⟩ with
   | none=>rfl
   | some j=>simp [wkN]
 | x::xs,a=>by
  simp only [List.cons_append,wkN];by_cases hk:kind s a≠1
  ·rw [if_pos hk,if_pos hk];rfl
  ·rw [if_neg hk,if_neg hk];cases s.ent ⟨2,a,x,0⟩ with
   | none=>rfl
   | some j =>
    dsimp only;have e1:(xs++[y]).isEmpty=false:=by cases xs<;>rfl
    rw [e1];cases hj:decide (kind s j≠3)
    ·simp only [Bool.false_and,Bool.false_or,Bool.not_true,Bool.and_false,Bool.false_eq_true,if_false];exact h _ _
    ·simp only [Bool.true_or,if_true];exact wkN_snoc s y h xs j
theorem wkL_snoc (s:Vo) (y:ByteArray):∀ (r:Nat) (xs:List ByteArray) (a:Nat),wkL s false r a (xs++[y])=one s y (wkL s true r a xs)
 | 0,xs,a=>wkN_snoc s y (fun _ _=>rfl) xs a
 | r+1,xs,a=>wkN_snoc s y (fun t ys=>by
  split
  ·rw [← List.append_assoc];exact wkL_snoc s y r _ 1
  ·rename_i h;unfold one;rw [if_neg h]) xs a
def LnkR (s:Vo) (p q:Nat×Int):Prop:=(p.2=0→kind s p.1≠3∧(s.ino p.1).isSome=true∧q.2=0)∧(q.2≠0→p.2=q.2)∧(q.2=0→(s.ino q.1).isSome=true∧(kind s q.1=3∨(p.2=0∧p.1=q.1)))
theorem LnkR.err (s:Vo) (e:Int) (h:e≠0):LnkR s (0,e) (0,e):=⟨fun h2=>absurd h2 h,fun _=>rfl,fun h2=>absurd h2 h⟩
theorem wkN_lnk (s:Vo) (hE:∀ k j,s.ent k=some j→(s.ino j).isSome=true){nx nx':ByteArray→List ByteArray→Nat×Int}(h:∀ t ys,LnkR s (nx t ys) (nx' t ys)):∀ (xs:List ByteArray) (a:Nat),kind s a≠3→(s.ino a).isSome=true→LnkR s (wkN s true nx a xs) (wkN s false nx' a xs)
 | [],a,h3,hi=>⟨fun _=>⟨h3,hi,rfl⟩,fun e=>absurd rfl e,fun _=>⟨hi,.inr ⟨rfl,rfl⟩⟩⟩
 | x::xs,a,h3,hi=>by
  simp only [wkN];by_cases hk:kind s a≠1
  ·rw [if_pos hk,if_pos hk];exact LnkR.err s 12 (by decide)
  ·rw [if_neg hk,if_neg hk];cases he:s.ent ⟨2,a,x,0⟩ with
   | none=>exact LnkR.err s 5 (by decide)
   | some j =>
    dsimp only;have hj:=hE _ _ he;by_cases hj3:kind s j=3
    ·have e1:decide (kind s j≠3)=false:=by simp [hj3]
     rw [e1];cases xs with
     | nil =>
      simp only [List.isEmpty_nil,Bool.not_true,Bool.and_false,Bool.or_false,Bool.false_eq_true,if_false,Bool.not_false,Bool.and_true,Bool.false_or,if_true];have hn:=h (tgtOf s j) [];exact⟨fun e=>⟨(hn.1 e).1,(hn.1 e).2.1,rfl⟩,fun e=>absurd rfl e,fun _=>⟨hj,.inl hj3⟩⟩
     | cons z zs=>exact h _ _
    ·have e1:decide (kind s j≠3)=true:=by simp [hj3]
     rw [e1];simp only [Bool.true_or,if_true];exact wkN_lnk s hE h xs j hj3 hj
theorem wkL_lnk (s:Vo) (hE:∀ k j,s.ent k=some j→(s.ino j).isSome=true) (hr:kind s 1=1):∀ (r:Nat) (xs:List ByteArray) (a:Nat),kind s a≠3→(s.ino a).isSome=true→LnkR s (wkL s true r a xs) (wkL s false r a xs)
 | 0,xs,a,h3,hi=>wkN_lnk s hE (fun _ _=>LnkR.err s 15 (by decide)) xs a h3 hi
 | r+1,xs,a,h3,hi=>wkN_lnk s hE (fun t ys=>by
  split
  ·refine wkL_lnk s hE hr r _ 1 (by rw [hr];decide) ?_;obtain⟨n,hn,_⟩:=kind_some (s:=s) (i:=1) (by rw [hr];decide);rw [hn];rfl
  ·rename_i h;exact LnkR.err s _ h) xs a h3 hi
end Go.Proofs.YtopepebcnaikiaaGreatDoor.Di
namespace Go.Proofs.YtopepebcnaikiaaGreatDoor.Di
open Lib (hid)
open Go.ChangeShapes Go.WideShapes Go.ChangeAt Go.RowKit
open BigFrame
open Ar Rg
open Ino
open It (Itm)
open Ph (en1 en1_len en1_one MkS catS spB spX)
variable {w w' wr:World}{g bi be bn ba bu N M bb:Nat}{it o1 o2 o3 rv pv m1 m2 m3 m4 v:Value}{s s':Vo}{ps:List Pt}{U:Nat→Option Unit}
theorem cut_len:∀ l:List UInt8,(Ph.cut l).length≤l.length+1
 | []=>by simp [Ph.cut]
 | b::l=>by
  have ih:=cut_len l;unfold Ph.cut;split
  ·simp only [List.length_cons];omega
  ·simp only [List.length_cons,List.length_tail];omega
theorem spB_len (p:ByteArray):(spB p).length≤256:=by
 unfold Ph.spB Ph.spN;rw [List.length_map];split
 ·exact Nat.zero_le _
 ·rename_i h;have h1:¬ 256<p.data.toList.length:=fun h2=>h (.inl h2)
  have h2:=cut_len p.data.toList.tail;have h3:p.data.toList.tail.length≤p.data.toList.length-1:=by rw [List.length_tail];exact Nat.le_refl _
  have h4:p.data.toList≠[]:=fun e=>h (.inr (.inr (.inl (by rw [e];simp))))
  have h5:0<p.data.toList.length:=List.length_pos_iff.2 h4;omega
theorem sp_sizes {p:ByteArray}(h:spX p=0):∀ x∈spB p,x.size≤maxLen:=by
 have h1:=(Ph.sp_ok (p:=p.data.toList) h).2.1;intro x hx;unfold Ph.spB at hx;obtain⟨l,hl,rfl⟩:=List.mem_map.1 hx;have h2:Ph.nm l=true:=List.all_eq_true.1 h1 l hl;unfold Ph.nm at h2;simp only [Bool.and_eq_true,decide_eq_true_eq] at h2;show (Ph.bsL l).size≤_
 have h3:(Ph.bsL l).size=l.length:=by simp [Ph.bsL,ByteArray.size]
 have h4:=h2.1.1.1.1.2;rw [h3];unfold maxLen;omega
def WkPost (s:Vo) (fo:Bool) (names:List ByteArray) (w:World) (e:Ending) (w':World):Prop:=e=.returned (.tuple #[.int .u32 ((wkL s fo 8 1 names).1:Nat),.int .i64 (wkL s fo 8 1 names).2])∧Below w.heap.size w w'
theorem tgt_get (s:Vo) (i:Nat):tgtOf s i=((s.ino i).getD zIn).T:=by
 unfold tgtOf;cases s.ino i<;>rfl
theorem wk_nil {s:Vo}{fo:Bool}{r a:Nat}{R:Nat×Int}(h:wkL s fo r a []=R):R.1=a∧R.2=0:=by
 rw [wkL_nil] at h;subst h;exact⟨rfl,rfl⟩
theorem wk_file {s:Vo}{fo:Bool}{r a:Nat}{x:ByteArray}{xs:List ByteArray}{R:Nat×Int}(h:wkL s fo r a (x::xs)=R) (hk:kind s a≠1):R.1=0∧R.2=12:=by
 rw [wkL_cons,if_pos hk] at h;subst h;exact⟨rfl,rfl⟩
theorem wk_none {s:Vo}{fo:Bool}{r a:Nat}{x:ByteArray}{xs:List ByteArray}{R:Nat×Int}(h:wkL s fo r a (x::xs)=R) (hk:kind s a=1) (he:s.ent ⟨2,a,x,0⟩=none):R.1=0∧R.2=5:=by
 rw [wkL_cons,if_neg (by rw [hk];decide),he] at h;subst h;exact⟨rfl,rfl⟩
theorem wk_on {s:Vo}{fo:Bool}{r a j:Nat}{x:ByteArray}{xs:List ByteArray}{R:Nat×Int}(h:wkL s fo r a (x::xs)=R) (hk:kind s a=1) (he:s.ent ⟨2,a,x,0⟩=some j) (hc:(decide (kind s j≠3)||(xs.isEmpty&&!fo))=true):wkL s fo r j xs=R:=by
 rw [wkL_cons,if_neg (by rw [hk];decide),he] at h;dsimp only at h;rw [if_pos hc] at h;exact h
theorem wk_loop {s:Vo}{fo:Bool}{a j:Nat}{x:ByteArray}{xs:List ByteArray}{R:Nat×Int}(h:wkL s fo 0 a (x::xs)=R) (hk:kind s a=1) (he:s.ent ⟨2,a,x,0⟩=some j) (hc:(decide (kind s j≠3)||(xs.isEmpty&&!fo))=false):R.1=0∧R.2=15:=by
 rw [wkL_cons,if_neg (by rw [hk];decide),he] at h;dsimp only at h;rw [hc,if_neg (by decide)] at h;subst h;exact⟨rfl,rfl⟩
theorem wk_bad {s:Vo}{fo:Bool}{r a j:Nat}{x:ByteArray}{xs:List ByteArray}{R:Nat×Int}(h:wkL s fo (r+1) a (x::xs)=R) (hk:kind s a=1) (he:s.ent ⟨2,a,x,0⟩=some j) (hc:(decide (kind s j≠3)||(xs.isEmpty&&!fo))=false) (hb:spX (tgtOf s j)≠0):R.1=0∧R.2=spX (tgtOf s j):=by
 rw [wkL_cons,if_neg (by rw [hk];decide),he] at h;dsimp only at h;rw [hc,if_neg (by decide),if_neg hb] at h;subst h;exact⟨rfl,rfl⟩
theorem wk_link {s:Vo}{fo:Bool}{r a j:Nat}{x:ByteArray}{xs:List ByteArray}{R:Nat×Int}(h:wkL s fo (r+1) a (x::xs)=R) (hk:kind s a=1) (he:s.ent ⟨2,a,x,0⟩=some j) (hc:(decide (kind s j≠3)||(xs.isEmpty&&!fo))=false) (hb:spX (tgtOf s j)=0):wkL s fo r 1 (spB (tgtOf s j)++xs)=R:=by
 rw [wkL_cons,if_neg (by rw [hk];decide),he] at h;dsimp only at h;rw [hc,if_neg (by decide),if_pos hb] at h;exact h
theorem walk_any (hV:VW w g bi be bn ba N it o1 o2 o3 rv pv s) (fo:Bool) (names:List ByteArray) (A:Option Addr) (n c:Nat) (hn:n=names.length) (hc:n≤c) (hcm:c≤maxLen) (hm:n≤1048577) (hL:Ls en1 1 w w.heap.size A names) (hsz:∀ x∈names,x.size≤maxLen) (hT:∀ i n,s.ino i=some n→n.T.size≤maxLen) :
  Calls Tryz.prog 187 #[.pointer (some ⟨g,0,none⟩),.slice A n c,.bool fo] w (WkPost s fo names w):=by
 have HV:=hid hV;have HN:=hid hn;have HL:=hid hL;have HSZ:=hid hsz;have HCC:=hid (And.intro hc hcm);have HKT:=hid hT;obtain⟨R,hR⟩:∃ R,wkL s fo 8 1 names=R:=⟨_,rfl⟩;have HR0:=hid hR;unfold WkPost;rw [hR];obtain⟨R1,R2⟩:=R;clear hV hn hL hsz hc hcm hR hT;dsimp only
 go_enter Tryz.func187,Tryz.ntmps187
 go_wp2_with fail
 go_loopw [1,8,9] (fun v1 v8 v9 wr=>∃ (a r l n1 c1:Nat) (A1:Option Addr) (xs:List ByteArray),v1=.slice A1 n1 c1∧v8=.int .u32 (a:Int)∧v9=.int .i64 (l:Int)∧l+r=8∧a<4294967296∧n1+256*r≤2097152∧Hid (n1=xs.length)∧Hid (n1≤c1∧c1≤maxLen)∧Hid (Ls en1 1 wr wr.heap.size A1 xs)∧Hid (∀ x∈xs,x.size≤maxLen)∧Hid (wkL s fo r a xs=(R1,R2))∧Hid (Below w.heap.size w wr)) (fun v1 v8 v9 _=>300*(8-(intOf v9).toNat)+slN v1)
 case atStart=>exact⟨1,8,0,n,c,A,names,rfl,rfl,rfl,rfl,by decide,by omega,HN.out,HCC.out,HL.out,HSZ.out,HR0.out,Below.refl _ _⟩
 case round =>
  obtain⟨a,r,l,n1,c1,A1,xs,rfl,rfl,rfl,hlr,ha,hb,hx1,hx2,hx3,hx4,hx5,hx6⟩:=hrel;have HX1:=hid (Hid.out hx1);have HX2:=hid (Hid.out hx2);have HX3:=hid (Hid.out hx3);have HX4:=hid (Hid.out hx4);have HX5:=hid (Hid.out hx5);have HB:=hid (Hid.out hx6);clear hx1 hx2 hx3 hx4 hx5 hx6 HL HN HR0 HSZ HCC;have HV1:=hid (HV.out.go HB.out);by_cases hn0:n1=0
  ·subst hn0;have hnil:xs=[]:=List.eq_nil_of_length_eq_zero HX1.out.symm;subst hnil;have HE:=hid (wk_nil HX5.out)
   go_wp2_with fail
   go_ret2
   exact⟨by rw [show R1=a from HE.out.1,show R2=0 from HE.out.2];rfl,HB.out⟩
  ·obtain⟨x,xs,rfl⟩:∃ x ys,xs=x::ys:=by
    cases xs with
    | nil=>exact absurd HX1.out hn0
    | cons x ys=>exact⟨x,ys,rfl⟩
   obtain⟨m,rfl⟩:∃ m,n1=m+1:=⟨n1-1,by omega⟩;obtain⟨nr,hnr⟩:∃ nr,(s.ino a).getD zIn=nr:=⟨_,rfl⟩;obtain⟨nK,nM,nL,nS,nT⟩:=nr;have hlk:(Instr.lookup 77 (.map (some bi)) (.int .u32 (a:Int)) false).run Tryz.prog wr=.ok (.agg #[.int .u8 nK,.int .u16 nM,.int .u32 nL,.int .u32 nS,.string nT]) wr:=by have:=lookI HV1.out.m.i ha;rw [hnr] at this;exact this
   have hfd:∀ wx:World,(Instr.field 35 (.agg #[.int .u8 nK,.int .u16 nM,.int .u32 nL,.int .u32 nS,.string nT]) 0).run Tryz.prog wx=.ok (.int .u8 nK) wx:=(fun _=>by kernel_rfl);have HKA:=hid (show kind s a=nK by rw [kind_get,hnr]);have c6:wr.cell? ⟨g,6,none⟩=some (.map (some bi)):=HV1.out.c.cells.2.2.2.1;clear hn0 hnr;by_cases hk:nK=1
   ·have HK1:=hid (HKA.out.trans hk);have e1:((nK:Int) != 1)=false:=by rw [bne,eqz1 (decide_eq_true hk)];rfl
    clear hk;obtain⟨b0,o0,hA1,hb0,hr0⟩:=HX3.out 0 x rfl;subst hA1;have e0:wr.cell? ⟨b0,o0,none⟩=some (.string x):=by have:=hr0 0 _ rfl;rw [Nat.zero_mul,Nat.add_zero] at this;exact this
    obtain⟨th,hth⟩:∃ th,(s.ent ⟨2,a,x,0⟩).isSome=th:=⟨_,rfl⟩;obtain⟨j,hj⟩:∃ j,(s.ent ⟨2,a,x,0⟩).getD 0=j:=⟨_,rfl⟩;have hle:(Instr.lookup 78 (.map (some be)) (.agg #[.int .u8 2,.int .u32 (a:Int),.string x,.int .u32 0]) true).run Tryz.prog wr.drew=.ok (.tuple #[.int .u32 (j:Int),.bool th]) wr.drew:=by
     have:=lookE_okd HV1.out.m.e (k:=⟨2,a,x,0⟩) ⟨⟨(show (2:Nat)<256 by decide),ha,(show (0:Nat)<4294967296 by decide)⟩,HX4.out x (by simp)⟩;rw [hj,hth] at this;exact this
    have c7:wr.cell? ⟨g,7,none⟩=some (.map (some be)):=HV1.out.c.cells.2.2.2.2.1;have hjl:j<4294967296:=by
     rw [← hj];cases e:s.ent ⟨2,a,x,0⟩ with
     | none=>exact (by decide:(0:Nat)<4294967296)
     | some c=>exact HV1.out.m.ok.ent _ _ e
    have HTH:=hid hth;have HJ:=hid hj;clear hr0 hth hj
    go_wp2_with fail
    refine wp_region_G (fun w'=>w'=wr.drew) (by kernel_rfl) (by kernel_rfl) rfl ?_;refine wpG_val (.pointer (some ⟨g,0,none⟩)) rfl (by rfl) (fun w' hSw=>by subst hSw;go_simp) ?_;simp only [Gb3a,Gb3b,Gb3c];refine wpG_val (.pointer (some ⟨g,0,none⟩)) rfl (by rfl) (fun w' hSw=>by subst hSw;go_simp) ?_;simp only [Gb3a,Gb3b,Gb3c];refine wpG_val (.pointer (some ⟨g,7,none⟩)) rfl (by rfl) (fun w' hSw=>by subst hSw;go_simp) ?_;simp only [Gb3a,Gb3b,Gb3c];refine wpG_val (.map (some be)) rfl (by rfl) (fun w' hSw=>by subst hSw;go_simp) ?_;simp only [Gb3a,Gb3b,Gb3c];refine wpG_val (.int .u32 (a:Int)) rfl (by rfl) (fun w' hSw=>by subst hSw;go_simp) ?_;simp only [Gb3a,Gb3b,Gb3c];refine wpG_val (.slice (some ⟨b0,o0,none⟩) (m+1) c1) rfl (by rfl) (fun w' hSw=>by subst hSw;go_simp) ?_;simp only [Gb3a,Gb3b,Gb3c];refine wpG_val (.pointer (some ⟨b0,o0,none⟩)) rfl (by rfl) (fun w' hSw=>by subst hSw;go_simp) ?_;simp only [Gb3a,Gb3b,Gb3c];refine wpG_val (.string x) rfl (by rfl) (fun w' hSw=>by subst hSw;go_simp) ?_;simp only [Gb3a,Gb3b,Gb3c];refine wpG_val (.agg #[.int .u8 2,.int .u32 (a:Int),.string x,.int .u32 0]) rfl (by rfl) (fun w' hSw=>by subst hSw;go_simp) ?_;simp only [Gb3a,Gb3b,Gb3c];refine wpG_val (.tuple #[.int .u32 (j:Int),.bool th]) rfl (by rfl) (fun w' hSw=>by subst hSw;go_simp) ?_;simp only [Gb3a,Gb3b,Gb3c];refine wpG_val (.tuple #[.int .u32 (j:Int),.bool th]) rfl (by rfl) (fun w' hSw=>by subst hSw;go_simp) ?_;simp only [Gb3a,Gb3b,Gb3c];refine wpG_val (.int .u32 (j:Int)) rfl (by rfl) (fun w' hSw=>by subst hSw;go_simp) ?_;simp only [Gb3a,Gb3b,Gb3c];refine wpG_val (.bool th) rfl (by rfl) (fun w' hSw=>by subst hSw;go_simp) ?_;simp only [Gb3a,Gb3b,Gb3c];refine wpG_val (.int .u32 (j:Int)) rfl (by rfl) (fun w' hSw=>by subst hSw;go_simp) ?_;simp only [Gb3a,Gb3b,Gb3c];refine wpG_val (.bool th) rfl (by rfl) (fun w' hSw=>by subst hSw;go_simp) ?_;simp only [Gb3a,Gb3b,Gb3c];refine wpG_nil ?_;intro wS hSw;subst hSw;have HVd:=hid HV1.out.drew;have HBd:=hid HB.out.drew;have HXd:=hid (show Ls en1 1 wr.drew wr.drew.heap.size (some ⟨b0,o0,none⟩) (x::xs) from HX3.out.below (Below.refl _ _).drew);clear hlk c6 c7 e0 hle HV1 HB HX3;generalize wr.drew=wd at *;cases th
    ·have HE:=hid (wk_none HX5.out HK1.out (by cases e:s.ent ⟨2,a,x,0⟩ with | none=>rfl | some k=>have:=HTH.out;rw [e] at this;cases this))
     go_wp2_with fail
     go_ret2
     exact⟨by rw [show R1=0 from HE.out.1,show R2=5 from HE.out.2];rfl,HBd.out⟩
    ·have HEJ:=hid (show s.ent ⟨2,a,x,0⟩=some j by cases e:s.ent ⟨2,a,x,0⟩ with | none=>(have:=HTH.out;rw [e] at this;cases this) | some k=>(have:=HJ.out;rw [e] at this;rw [← this];rfl));clear HTH HJ;obtain⟨A2,hA2⟩:∃ A2,(if c1=1 then some (⟨b0,o0,none⟩:Addr) else some ⟨b0,o0+1,none⟩)=A2:=⟨_,rfl⟩;have HA2:=hid hA2;clear hA2
     go_wp2_with fail
     refine wp_region_G (fun w'=>w'=wd.drew) (by kernel_rfl) (by kernel_rfl) rfl ?_;refine wpG_val (.int .u32 (j:Int)) rfl (by rfl) (fun w' hSw=>by subst hSw;go_simp) ?_;simp only [Gb3a,Gb3b,Gb3c];refine wpG_val (.slice (some ⟨b0,o0,none⟩) (m+1) c1) rfl (by rfl) (fun w' hSw=>by subst hSw;go_simp) ?_;simp only [Gb3a,Gb3b,Gb3c];refine wpG_val (.slice A2 m (c1-1)) rfl (by rfl) (fun w' hSw=>by subst hSw;have h2:=HA2.out;go_simp;intro h;omega) ?_;simp only [Gb3a,Gb3b,Gb3c];refine wpG_val (.int .u32 (j:Int)) rfl (by rfl) (fun w' hSw=>by subst hSw;go_simp) ?_;simp only [Gb3a,Gb3b,Gb3c];refine wpG_val (.slice A2 m (c1-1)) rfl (by rfl) (fun w' hSw=>by subst hSw;go_simp) ?_;simp only [Gb3a,Gb3b,Gb3c];refine wpG_nil ?_;intro wS hSw;subst hSw;have HVe:=hid HVd.out.drew;have HBe:=hid HBd.out.drew;have HXe:=hid (show Ls en1 1 wd.drew wd.drew.heap.size A2 xs from by
      have h1:=(HXd.out.below (Below.refl wd.heap.size wd).drew).drop (p:=1) HX1.out HX2.out.1 (by omega);have h2:(if c1=1 then some (⟨b0,o0,none⟩:Addr) else (some (⟨b0,o0,none⟩:Addr)).map (·.add (1*1)))=A2:=by
       rw [← HA2.out];split
       ·rfl
       ·rw [Option.map_some,Nat.mul_one,Ar.add_plain]
      rw [h2] at h1;exact h1)
     clear HVd HBd HXd HA2;generalize wd.drew=we at *;obtain⟨nr,hnr⟩:∃ nr,(s.ino j).getD zIn=nr:=⟨_,rfl⟩;obtain⟨jK,jM,jL,jS,jT⟩:=nr;have hlj:(Instr.lookup 77 (.map (some bi)) (.int .u32 (j:Int)) false).run Tryz.prog we=.ok (.agg #[.int .u8 jK,.int .u16 jM,.int .u32 jL,.int .u32 jS,.string jT]) we:=by have:=lookI HVe.out.m.i hjl;rw [hnr] at this;exact this
     have HKJ:=hid (show kind s j=jK by rw [kind_get,hnr]);have HTJ:=hid (show tgtOf s j=jT by rw [tgt_get,hnr]);have HTS:=hid (show jT.size≤maxLen by
      have h0:jT=((s.ino j).getD zIn).T:=by rw [hnr]
      rw [h0];cases e:s.ino j with
      | none=>exact Nat.zero_le _
      | some n=>exact HKT.out j n e)
     have c6:we.cell? ⟨g,6,none⟩=some (.map (some bi)):=HVe.out.c.cells.2.2.2.1;have HEM:=hid (show xs.isEmpty=decide (m=0) by have:=HX1.out;cases xs with | nil=>(simp at this;simp [this]) | cons y ys=>(simp at this;simp [this]));have hal:Below we.heap.size we (we.alloc (.cells #[.int .u8 jK,.int .u16 jM,.int .u32 jL,.int .u32 jS,.string jT] 35)):=(Below.refl _ _).alloc (Nat.le_refl _) _;have rj:=heap_alloc_new we (.cells #[.int .u8 jK,.int .u16 jM,.int .u32 jL,.int .u32 jS,.string jT] 35);have k0:(we.alloc (.cells #[.int .u8 jK,.int .u16 jM,.int .u32 jL,.int .u32 jS,.string jT] 35)).cell? ⟨we.heap.size,0,none⟩=some (.int .u8 jK):=cell_of_row _ _ 0 _ _ _ rj;have k4:(we.alloc (.cells #[.int .u8 jK,.int .u16 jM,.int .u32 jL,.int .u32 jS,.string jT] 35)).cell? ⟨we.heap.size,4,none⟩=some (.string jT):=cell_of_row _ _ 4 _ _ _ rj;have HVf:=hid (HVe.out.go hal);have HBf:=hid (HBe.out.trans (hal.mono HBe.out.size));have HXf:=hid ((HXe.out.below hal).more hal.size);have HX6:=hid (show m=xs.length by have:=HX1.out;simpa using this);have HX7:=hid (show m≤c1-1∧c1-1≤maxLen by have:=HX2.out;omega);have HX8:=hid (show ∀ y∈xs,y.size≤maxLen from fun y hy=>HX4.out y (List.mem_cons_of_mem _ hy));clear hnr rj hal HVe HBe HXe HX1 HX2 HX4;by_cases h3:jK=3
     ·have e3:((jK:Int) != 3)=false:=by rw [bne,eqz3 (decide_eq_true h3)];rfl
      have H3:=hid (HKJ.out.trans h3);clear h3;by_cases hgo:m=0∧fo=false
      ·obtain⟨hm0,rfl⟩:=hgo;have e4:((m:Int)==0)=true:=eqz0 (decide_eq_true hm0);have HON:=hid (wk_on HX5.out HK1.out HEJ.out (by rw [HEM.out,decide_eq_true hm0];simp));clear hm0
       go_wp2_with fail
       exact⟨⟨j,r,l,m,c1-1,A2,xs,rfl,rfl,rfl,hlr,hjl,by omega,HX6.out,HX7.out,HXf.out,HX8.out,HON.out,HBf.out⟩,by simp [slN,intOf]⟩
      ·have HC0:=hid (show (decide (kind s j≠3)||(xs.isEmpty&&!fo))=false by
        rw [HEM.out,H3.out];cases fo
        ·rw [decide_eq_false (fun h=>hgo ⟨h,rfl⟩)];rfl
        ·rw [Bool.not_true,Bool.and_false];rfl)
       by_cases hm0:m=0
       ·have e4:((m:Int)==0)=true:=eqz0 (decide_eq_true hm0);obtain rfl:true=fo:=by
         cases fo
         ·exact absurd ⟨hm0,rfl⟩ hgo
         ·rfl
        clear hm0 hgo;by_cases hr0:r=0
        ·subst hr0;have e5:((l:Int)==8)=true:=eqz (b:=8) (decide_eq_true (by omega));have HE:=hid (wk_loop HX5.out HK1.out HEJ.out HC0.out)
         go_wp2_with fail
         go_ret2
         exact⟨by rw [show R1=0 from HE.out.1,show R2=15 from HE.out.2];rfl,HBf.out⟩
        ·obtain⟨r,rfl⟩:∃ k,r=k+1:=⟨r-1,by omega⟩;have e5:((l:Int)==8)=false:=eqz (b:=8) (decide_eq_false (by omega));have HSP:=hid (fun w=>Ph.split_any jT HTS.out w);have HWB:=hid (fun h=>wk_bad HX5.out HK1.out HEJ.out HC0.out h);have HWL:=hid (fun h=>wk_link HX5.out HK1.out HEJ.out HC0.out h);rw [HTJ.out] at HWB HWL;have HSN:=hid (sp_sizes (p:=jT));have HSL:=hid (spB_len jT);unfold Ph.SplitPost at HSP;generalize spB jT=D at *;generalize spX jT=sx at *;clear hr0;by_cases hsx:sx=0
         ·have e6:(sx != 0)=false:=by rw [bne,eq0,decide_eq_true hsx];rfl
          have HL2:=hid (HWL.out hsx);have HDS:=hid (HSN.out hsx);have hwl:IntKind.i64.wrap ((l:Int)+1)=((l+1:Nat):Int):=by rw [show ((l+1:Nat):Int)=(l:Int)+1 by omega];exact IntWalk.i64_in _ ⟨by omega,by omega⟩
          clear hsx
          go_wp2_with (first|(go_at_call 26;refine (HSP.out _).mono ?_;rintro e w7 ⟨v7,rfl,hm7⟩;have HM7:=hid hm7;have HX9:=hid ((HXf.out.below hm7.2).more hm7.2.size);have HB7:=hid (HBf.out.trans (hm7.2.mono HBf.out.size));clear hm7)|(refine catS HM7.out xs A2 m (c1-1) HX6.out HX9.out (by have:=HSL.out;omega) rfl _ _ rfl rfl rfl ?_;intro v8 w8 hm8 hg8;have HM8:=hid hm8;have HB8:=hid (HBf.out.trans (hm8.2.mono HBf.out.size));clear hm8 hg8))
          obtain⟨A8,c8,hv8,h81,h82,h83⟩:=HM8.out.ls en1_len;have hlen8:(D++xs).length=D.length+m:=by rw [List.length_append,← HX6.out]
          rw [hlen8] at hv8 h81;exact⟨⟨1,r,l+1,D.length+m,c8,A8,D++xs,hv8,rfl,by go_num,by omega,by decide,by have:=HSL.out;omega,hlen8.symm,⟨h81,h82⟩,h83,fun y hy=>(by
           rcases List.mem_append.1 hy with h | h
           ·exact HDS.out y h
           ·exact HX8.out y h),HL2.out,HB8.out⟩,by rw [hv8];have:=HSL.out;simp [slN,intOf];omega⟩
         ·have e6:(sx != 0)=true:=by rw [bne,eq0,decide_eq_false hsx];rfl
          have HE:=hid (HWB.out hsx);clear hsx
          go_wp2_with (go_at_call 26;refine (HSP.out _).mono ?_;rintro e w7 ⟨v7,rfl,hm7⟩;have HB7:=hid (HBf.out.trans (hm7.2.mono HBf.out.size));clear hm7)
          go_ret2
          exact⟨by rw [show R1=0 from HE.out.1,show R2=sx from HE.out.2];rfl,HB7.out⟩
       ·have e4:((m:Int)==0)=false:=eqz0 (decide_eq_false hm0);clear hm0 hgo;by_cases hr0:r=0
        ·subst hr0;have e5:((l:Int)==8)=true:=eqz (b:=8) (decide_eq_true (by omega));have HE:=hid (wk_loop HX5.out HK1.out HEJ.out HC0.out)
         go_wp2_with fail
         go_ret2
         exact⟨by rw [show R1=0 from HE.out.1,show R2=15 from HE.out.2];rfl,HBf.out⟩
        ·obtain⟨r,rfl⟩:∃ k,r=k+1:=⟨r-1,by omega⟩;have e5:((l:Int)==8)=false:=eqz (b:=8) (decide_eq_false (by omega));have HSP:=hid (fun w=>Ph.split_any jT HTS.out w);have HWB:=hid (fun h=>wk_bad HX5.out HK1.out HEJ.out HC0.out h);have HWL:=hid (fun h=>wk_link HX5.out HK1.out HEJ.out HC0.out h);rw [HTJ.out] at HWB HWL;have HSN:=hid (sp_sizes (p:=jT));have HSL:=hid (spB_len jT);unfold Ph.SplitPost at HSP;generalize spB jT=D at *;generalize spX jT=sx at *;clear hr0;by_cases hsx:sx=0
         ·have e6:(sx != 0)=false:=by rw [bne,eq0,decide_eq_true hsx];rfl
          have HL2:=hid (HWL.out hsx);have HDS:=hid (HSN.out hsx);have hwl:IntKind.i64.wrap ((l:Int)+1)=((l+1:Nat):Int):=by rw [show ((l+1:Nat):Int)=(l:Int)+1 by omega];exact IntWalk.i64_in _ ⟨by omega,by omega⟩
          clear hsx
          go_wp2_with (first|(go_at_call 26;refine (HSP.out _).mono ?_;rintro e w7 ⟨v7,rfl,hm7⟩;have HM7:=hid hm7;have HX9:=hid ((HXf.out.below hm7.2).more hm7.2.size);have HB7:=hid (HBf.out.trans (hm7.2.mono HBf.out.size));clear hm7)|(refine catS HM7.out xs A2 m (c1-1) HX6.out HX9.out (by have:=HSL.out;omega) rfl _ _ rfl rfl rfl ?_;intro v8 w8 hm8 hg8;have HM8:=hid hm8;have HB8:=hid (HBf.out.trans (hm8.2.mono HBf.out.size));clear hm8 hg8))
          obtain⟨A8,c8,hv8,h81,h82,h83⟩:=HM8.out.ls en1_len;have hlen8:(D++xs).length=D.length+m:=by rw [List.length_append,← HX6.out]
          rw [hlen8] at hv8 h81;exact⟨⟨1,r,l+1,D.length+m,c8,A8,D++xs,hv8,rfl,by go_num,by omega,by decide,by have:=HSL.out;omega,hlen8.symm,⟨h81,h82⟩,h83,fun y hy=>(by
           rcases List.mem_append.1 hy with h | h
           ·exact HDS.out y h
           ·exact HX8.out y h),HL2.out,HB8.out⟩,by rw [hv8];have:=HSL.out;simp [slN,intOf];omega⟩
         ·have e6:(sx != 0)=true:=by rw [bne,eq0,decide_eq_false hsx];rfl
          have HE:=hid (HWB.out hsx);clear hsx
          go_wp2_with (go_at_call 26;refine (HSP.out _).mono ?_;rintro e w7 ⟨v7,rfl,hm7⟩;have HB7:=hid (HBf.out.trans (hm7.2.mono HBf.out.size));clear hm7)
          go_ret2
          exact⟨by rw [show R1=0 from HE.out.1,show R2=sx from HE.out.2];rfl,HB7.out⟩
     ·have e3:((jK:Int) != 3)=true:=by rw [bne,eqz3 (decide_eq_false h3)];rfl
      have HON:=hid (wk_on HX5.out HK1.out HEJ.out (by rw [HKJ.out,decide_eq_true h3];rfl));clear h3
      go_wp2_with fail
      exact⟨⟨j,r,l,m,c1-1,A2,xs,rfl,rfl,rfl,hlr,hjl,by omega,HX6.out,HX7.out,HXf.out,HX8.out,HON.out,HBf.out⟩,by simp [slN,intOf]⟩
   ·have e1:((nK:Int) != 1)=true:=by rw [bne,eqz1 (decide_eq_false hk)];rfl
    have HE:=hid (wk_file HX5.out (by rw [HKA.out];exact hk));clear hk
    go_wp2_with fail
    go_ret2
    exact⟨by rw [show R1=0 from HE.out.1,show R2=12 from HE.out.2];rfl,HB.out⟩
end Go.Proofs.YtopepebcnaikiaaGreatDoor.Di
namespace Go.Proofs.YtopepebcnaikiaaGreatDoor.Di
open Lib (hid)
open Go.ChangeShapes Go.WideShapes Go.ChangeAt Go.RowKit
open BigFrame
open Ar Rg
open Ino
open It (Itm)
variable {w w' wr:World}{g bi be bn ba bu N M bb:Nat}{it o1 o2 o3 rv pv m1 m2 m3 m4 v:Value}{s s':Vo}{ps:List Pt}{U:Nat→Option Unit}
structure En where
 n:ByteArray
 i:Nat
 k:Nat
def encEn (e:En):List Value:=[.string e.n,.int .u32 (e.i:Int),.int .u8 (e.k:Int)]
theorem encEn_len (e:En):(encEn e).length=3:=rfl
theorem encEn_one (e:En):∀ u∈encEn e,u.oneCell'=true:=by
 intro u hu;simp only [encEn,List.mem_cons,List.not_mem_nil,or_false] at hu;rcases hu with rfl | rfl | rfl<;>rfl
theorem infoEn:(Tryz.prog.info? 64).map (fun i=>(i.zero,i.size,i.bytes))=some (some (.agg #[.string ByteArray.empty,.int .u32 0,.int .u8 0]),3,24):=by kernel_rfl
abbrev MkE (w wr:World) (v:Value) (D:List En):Prop:=Mk encEn 3 64 w wr v D
theorem catE {ops:Array Oper}{rest:List Oper}{o:Oper}{a:Act}{Q:Exit→Act→World→Prop}{D:List En}(hM:MkE w wr v D) (E:List En) (A:Option Addr) (m c:Nat){B:Nat}(hm:m=E.length) (hL:Ls encEn 3 wr B A E) (hlen:D.length+m≤1099511627776)
  (hgd:o.guard=none) (s x:Operand) (ho:o.op=.call { callee:=.builtin .append,args:=#[s,x],argTypes:=#[36,36] }) (hs:a.eval s=v) (hx:a.eval x=.slice A m c)
  (h:∀ v' w',MkE w w' v' (D++E)→wr.grownBy w' v.ownBlock→wpList Tryz.prog ops Q rest (a.put o.dst v') w'):wpList Tryz.prog ops Q (o::rest) a wr:=by
 obtain⟨i0,hi,hz0,hz1,hz2⟩:=info_parts infoEn;exact wpList_cat 36 i0 _ 24 Tryz.underlying36 hi hz0 hz1 hz2 rfl (by decide) encEn_len encEn_one hM m c hm hL (by unfold maxLen;omega) (by omega) hgd s x ho hs hx h
def enOf (s:Vo) (p:Pt):En:=⟨p.k.N,(s.ent p.k).getD 0,kind s ((s.ent p.k).getD 0)⟩
def isE (d:Nat) (p:Pt):Bool:=decide (p.k.K=2)&&decide (p.k.I=d)
def lsE (s:Vo) (d:Nat) (ps:List Pt):List En:=(ps.filter (isE d)).map (enOf s)
theorem lsE_yes {d i:Nat}{p:Pt}(hp:ps[i]?=some p) (h:isE d p=true):lsE s d (ps.take (i+1))=lsE s d (ps.take i)++[enOf s p]:=by
 unfold lsE;rw [List.take_add_one,hp,List.filter_append,List.map_append];simp [h]
theorem lsE_no {d i:Nat}{p:Pt}(hp:ps[i]?=some p) (h:isE d p=false):lsE s d (ps.take (i+1))=lsE s d (ps.take i):=by
 unfold lsE;rw [List.take_add_one,hp,List.filter_append];simp [h]
theorem lsE_len (d i:Nat):(lsE s d (ps.take i)).length≤i:=by
 unfold lsE;rw [List.length_map];exact Nat.le_trans (List.length_filter_le _ _) (by rw [List.length_take];omega)
theorem list_any (A:Option Addr) (n c d:Nat) (hV:VW w g bi be bn ba N it o1 o2 o3 rv (.slice A n c) s) (hn:n=ps.length) (hm:n≤1390000) (hL:Ls encP 5 w w.heap.size A ps) (hok:∀ p∈ps,PtOk p) :
  Calls Tryz.prog 137 #[.pointer (some ⟨g,0,none⟩),.int .u32 (d:Int)] w fun e w'=>∃ v,e=.returned v∧MkE w w' v (lsE s d ps):=by
 have HV:=hid hV;have HN:=hid hn;have HL:=hid hL;have HOK:=hid hok;have c5:w.cell? ⟨g,5,none⟩=some (.slice A n c):=hV.c.cells.2.2.1;clear hV hn hL hok
 go_enter Tryz.func137,Tryz.ntmps137
 go_wp2_with fail
 clear c5
 go_loopw [5,14] (fun av v wr=>∃ i:Nat,i≤n∧v=.int .i64 i∧Hid (MkE w wr av (lsE s d (ps.take i)))) (fun _ v _=>n-(intOf v).toNat)
 case atStart=>exact⟨0,Nat.zero_le _,by go_num,Mk.nil (Below.refl _ _)⟩
 case round =>
  obtain⟨i,hi,rfl,hmk⟩:=hrel;have HM:=hid (Hid.out hmk);clear hmk;by_cases hlt:i<n
  ·obtain⟨p,hp⟩:∃ p,ps[i]?=some p:=⟨_,List.getElem?_eq_getElem (by rw [← HN.out];exact hlt)⟩;obtain⟨b,o,hAe,hbs,hr⟩:=(HL.out.below HM.out.2) i p hp;obtain⟨r0,r1,r2,r3,r4⟩:=row_at (A:=A) hr;have hpo:=HOK.out p (List.mem_of_getElem? hp);have HKY:=hid (show kokK p.k from hpo.2.1);have HYES:=hid (fun h=>lsE_yes (s:=s) (d:=d) hp h);have HNO:=hid (fun h=>lsE_no (s:=s) (d:=d) hp h);have HLN:=hid (lsE_len (s:=s) (ps:=ps) d i);have HV1:=hid (HV.out.go HM.out.2);clear hr hp hpo;subst hAe;obtain⟨⟨kK,I,Nm,C⟩,xv⟩:=p;dsimp only at r0 r1 r2 r3 r4;have hal:Below wr.heap.size wr (wr.alloc (.cells #[.int .u8 kK,.int .u32 I,.string Nm,.int .u32 C,.string xv] 133)):=(Below.refl _ _).alloc (Nat.le_refl _) _;have HVa:=hid (HV1.out.go hal);have HMa:=hid (HM.out.alloc (.cells #[.int .u8 kK,.int .u32 I,.string Nm,.int .u32 C,.string xv] 133));have hrp:=heap_alloc_new wr (.cells #[.int .u8 kK,.int .u32 I,.string Nm,.int .u32 C,.string xv] 133);have HRP:=hid hrp;have p0:(wr.alloc (.cells #[.int .u8 kK,.int .u32 I,.string Nm,.int .u32 C,.string xv] 133)).cell? ⟨wr.heap.size,0,none⟩=some (.int .u8 kK):=cell_of_row _ _ 0 _ _ _ hrp;have p1:(wr.alloc (.cells #[.int .u8 kK,.int .u32 I,.string Nm,.int .u32 C,.string xv] 133)).cell? ⟨wr.heap.size,1,none⟩=some (.int .u32 I):=cell_of_row _ _ 1 _ _ _ hrp;clear hal hrp HV1;by_cases hk:kK=2
   ·have e1:((kK:Int)==2)=true:=eqz2 (decide_eq_true hk);by_cases hd:I=d
    ·have e2:((I:Int)==(d:Int))=true:=eqz (decide_eq_true hd);have HSN:=hid (HYES.out (by unfold isE;dsimp only;rw [decide_eq_true hk,decide_eq_true hd];rfl));clear hk hd HYES HNO
     go_wp2_with fail
     generalize wr.alloc (.cells #[.int .u8 kK,.int .u32 I,.string Nm,.int .u32 C,.string xv] 133)=wa at *;obtain⟨pb,hpb⟩:∃ pb,wr.heap.size=pb:=⟨_,rfl⟩;rw [hpb] at HRP p0 p1;simp only [hpb];clear hpb;obtain⟨j,hj⟩:∃ j,(s.ent ⟨kK,I,Nm,C⟩).getD 0=j:=⟨_,rfl⟩;have hjl:j<4294967296:=by
      rw [← hj];cases e:s.ent ⟨kK,I,Nm,C⟩ with
      | none=>exact (by decide:(0:Nat)<4294967296)
      | some c=>exact HVa.out.m.ok.ent _ _ e
     have HJ:=hid hj;have hle:(Instr.lookup 78 (.map (some be)) (.agg #[.int .u8 kK,.int .u32 I,.string Nm,.int .u32 C]) false).run Tryz.prog wa.drew=.ok (.int .u32 (j:Int)) wa.drew:=by
      have:=lookE_d HVa.out.m.e HKY.out;rw [hj] at this;exact this
     have c7:wa.cell? ⟨g,7,none⟩=some (.map (some be)):=HVa.out.c.cells.2.2.2.2.1;have p2:wa.cell? ⟨pb,2,none⟩=some (.string Nm):=cell_of_row _ _ 2 _ _ _ HRP.out;have p3:wa.cell? ⟨pb,3,none⟩=some (.int .u32 C):=cell_of_row _ _ 3 _ _ _ HRP.out;clear hj;refine wp_region_G (fun w'=>w'=wa.drew) (by kernel_rfl) (by kernel_rfl) rfl ?_;refine wpG_val (.pointer (some ⟨g,0,none⟩)) rfl (by rfl) (fun w' hSw=>by subst hSw;go_simp) ?_;simp only [Gb3a,Gb3b,Gb3c];refine wpG_val (.pointer (some ⟨g,0,none⟩)) rfl (by rfl) (fun w' hSw=>by subst hSw;go_simp) ?_;simp only [Gb3a,Gb3b,Gb3c];refine wpG_val (.pointer (some ⟨g,7,none⟩)) rfl (by rfl) (fun w' hSw=>by subst hSw;go_simp) ?_;simp only [Gb3a,Gb3b,Gb3c];refine wpG_val (.map (some be)) rfl (by rfl) (fun w' hSw=>by subst hSw;go_simp) ?_;simp only [Gb3a,Gb3b,Gb3c];refine wpG_val (.pointer (some ⟨pb,0,none⟩)) rfl (by rfl) (fun w' hSw=>by subst hSw;go_simp) ?_;simp only [Gb3a,Gb3b,Gb3c];refine wpG_val (.agg #[.int .u8 kK,.int .u32 I,.string Nm,.int .u32 C]) rfl (by rfl) (fun w' hSw=>by subst hSw;go_simp) ?_;simp only [Gb3a,Gb3b,Gb3c];refine wpG_val (.int .u32 (j:Int)) rfl (by rfl) (fun w' hSw=>by subst hSw;go_simp) ?_;simp only [Gb3a,Gb3b,Gb3c];refine wpG_val (.int .u32 (j:Int)) rfl (by rfl) (fun w' hSw=>by subst hSw;go_simp) ?_;simp only [Gb3a,Gb3b,Gb3c];refine wpG_nil ?_;intro wS hSw;subst hSw;have HVb:=hid HVa.out.drew;have HMb:=hid (HMa.out.drewN 1);have HRb:=hid (show wa.drew.heap[pb]?=some (.cells #[.int .u8 kK,.int .u32 I,.string Nm,.int .u32 C,.string xv] 133 (0,0)) from HRP.out);clear hle c7 p0 p1 p2 p3 HVa HMa HRP;have HMb:Hid (MkE w wa.drew u5 (lsE s d (ps.take i))):=HMb;generalize wa.drew=wb at *;obtain⟨nr,hnr⟩:∃ nr,(s.ino j).getD zIn=nr:=⟨_,rfl⟩;obtain⟨nK,nM,nL,nS,nT⟩:=nr;have HLK:=hid (fun (wx:World) (h:Ms wx bi be bn ba N s)=>(show (Instr.lookup 77 (.map (some bi)) (.int .u32 (j:Int)) false).run Tryz.prog wx=.ok (.agg #[.int .u8 nK,.int .u16 nM,.int .u32 nL,.int .u32 nS,.string nT]) wx by have:=lookI h.i hjl;rw [hnr] at this;exact this));have HKJ:=hid (show kind s j=nK by rw [kind_get,hnr]);have hfd:∀ wx:World,(Instr.field 35 (.agg #[.int .u8 nK,.int .u16 nM,.int .u32 nL,.int .u32 nS,.string nT]) 0).run Tryz.prog wx=.ok (.int .u8 nK) wx:=(fun _=>by kernel_rfl);have HEN:=hid (show enOf s ⟨⟨kK,I,Nm,C⟩,xv⟩=⟨Nm,j,nK⟩ by unfold enOf;dsimp only;rw [HJ.out,HKJ.out]);clear hnr
     go_wp2_with fail
     refine wp_region_T (fun w':World=>VC w' g it o1 o2 o3 rv (.slice (some ⟨b,o,none⟩) n c) (.map (some bi)) (.map (some be)) (.map (some bn)) (.map (some ba))∧Ms w' bi be bn ba N s∧w'.heap[pb]?=some (.cells #[.int .u8 kK,.int .u32 I,.string Nm,.int .u32 C,.string xv] 133 (0,0))) 14 (by kernel_rfl) (by kernel_rfl) ?_;have HVc:=hid HVb.out.drew;have HMc:Hid (MkE w wb.drew u5 (lsE s d (ps.take i))):=hid (HMb.out.drewN 1);have HRc:=hid (show wb.drew.heap[pb]?=some (.cells #[.int .u8 kK,.int .u32 I,.string Nm,.int .u32 C,.string xv] 133 (0,0)) from HRb.out);clear HVb HMb HRb;generalize wb.drew=wc at *;have hS:VC wc g it o1 o2 o3 rv (.slice (some ⟨b,o,none⟩) n c) (.map (some bi)) (.map (some be)) (.map (some bn)) (.map (some ba))∧Ms wc bi be bn ba N s∧wc.heap[pb]?=some (.cells #[.int .u8 kK,.int .u32 I,.string Nm,.int .u32 C,.string xv] 133 (0,0)):=⟨HVc.out.c,HVc.out.m,HRc.out⟩;refine take_T 0 36 (u5) rfl (by rfl) (by kernel_rfl) (by decide) (by kernel_rfl) (by kernel_rfl) (by kernel_rfl) (fun _ _ _ h=>h) (Or.inl ⟨by rfl,fun w' hSw=>by obtain⟨s0,s1,s2⟩:=hSw;go_simp⟩) hS ?_;simp only [Gb3a,Gb3b,Gb3c];refine take_T 1 37 (.pointer (some ⟨pb,0,none⟩)) rfl (by rfl) (by kernel_rfl) (by decide) (by kernel_rfl) (by kernel_rfl) (by kernel_rfl) (fun _ _ _ h=>h) (Or.inl ⟨by rfl,fun w' hSw=>by obtain⟨s0,s1,s2⟩:=hSw;go_simp⟩) hS ?_;simp only [Gb3a,Gb3b,Gb3c];refine take_T 2 38 (.pointer (some ⟨pb,2,none⟩)) rfl (by rfl) (by kernel_rfl) (by decide) (by kernel_rfl) (by kernel_rfl) (by kernel_rfl) (fun _ _ _ h=>h) (Or.inl ⟨by rfl,fun w' hSw=>by obtain⟨s0,s1,s2⟩:=hSw;go_simp⟩) hS ?_;simp only [Gb3a,Gb3b,Gb3c];refine take_T 3 39 (.string Nm) rfl (by rfl) (by kernel_rfl) (by decide) (by kernel_rfl) (by kernel_rfl) (by kernel_rfl) (fun _ _ _ h=>h) (Or.inl ⟨by rfl,fun w' hSw=>by obtain⟨s0,s1,s2⟩:=hSw;have q2:w'.cell? ⟨pb,2,none⟩=some (.string Nm):=cell_of_row _ _ 2 _ _ _ s2;go_simp⟩) hS ?_;simp only [Gb3a,Gb3b,Gb3c];refine take_T 4 40 (.int .u32 (j:Int)) rfl (by rfl) (by kernel_rfl) (by decide) (by kernel_rfl) (by kernel_rfl) (by kernel_rfl) (fun _ _ _ h=>h) (Or.inl ⟨by rfl,fun w' hSw=>by obtain⟨s0,s1,s2⟩:=hSw;go_simp⟩) hS ?_;simp only [Gb3a,Gb3b,Gb3c];refine take_T 5 41 (.pointer (some ⟨g,0,none⟩)) rfl (by rfl) (by kernel_rfl) (by decide) (by kernel_rfl) (by kernel_rfl) (by kernel_rfl) (fun _ _ _ h=>h) (Or.inl ⟨by rfl,fun w' hSw=>by obtain⟨s0,s1,s2⟩:=hSw;go_simp⟩) hS ?_;simp only [Gb3a,Gb3b,Gb3c];refine take_T 6 42 (.pointer (some ⟨g,0,none⟩)) rfl (by rfl) (by kernel_rfl) (by decide) (by kernel_rfl) (by kernel_rfl) (by kernel_rfl) (fun _ _ _ h=>h) (Or.inl ⟨by rfl,fun w' hSw=>by obtain⟨s0,s1,s2⟩:=hSw;have c6:=s0.cells.2.2.2.1;go_simp⟩) hS ?_;simp only [Gb3a,Gb3b,Gb3c];refine take_T 7 43 (.pointer (some ⟨g,6,none⟩)) rfl (by rfl) (by kernel_rfl) (by decide) (by kernel_rfl) (by kernel_rfl) (by kernel_rfl) (fun _ _ _ h=>h) (Or.inl ⟨by rfl,fun w' hSw=>by obtain⟨s0,s1,s2⟩:=hSw;go_simp⟩) hS ?_;simp only [Gb3a,Gb3b,Gb3c];refine take_T 8 44 (.map (some bi)) rfl (by rfl) (by kernel_rfl) (by decide) (by kernel_rfl) (by kernel_rfl) (by kernel_rfl) (fun _ _ _ h=>h) (Or.inl ⟨by rfl,fun w' hSw=>by obtain⟨s0,s1,s2⟩:=hSw;have c6:=s0.cells.2.2.2.1;go_simp⟩) hS ?_
     simp only [Gb3a,Gb3b,Gb3c];refine take_T 9 45 (.int .u32 (j:Int)) rfl (by rfl) (by kernel_rfl) (by decide) (by kernel_rfl) (by kernel_rfl) (by kernel_rfl) (fun _ _ _ h=>h) (Or.inl ⟨by rfl,fun w' hSw=>by obtain⟨s0,s1,s2⟩:=hSw;go_simp⟩) hS ?_;simp only [Gb3a,Gb3b,Gb3c];refine take_T 10 46 (.agg #[.int .u8 nK,.int .u16 nM,.int .u32 nL,.int .u32 nS,.string nT]) rfl (by rfl) (by kernel_rfl) (by decide) (by kernel_rfl) (by kernel_rfl) (by kernel_rfl) (fun _ _ _ h=>h) (Or.inl ⟨by rfl,fun w' hSw=>by obtain⟨s0,s1,s2⟩:=hSw;have hlk:=HLK.out _ s1;go_simp⟩) hS ?_;simp only [Gb3a,Gb3b,Gb3c];refine take_T 11 47 (.int .u8 (nK:Int)) rfl (by rfl) (by kernel_rfl) (by decide) (by kernel_rfl) (by kernel_rfl) (by kernel_rfl) (fun _ _ _ h=>h) (Or.inl ⟨by rfl,fun w' hSw=>by obtain⟨s0,s1,s2⟩:=hSw;have hf:=hfd w';go_simp⟩) hS ?_;simp only [Gb3a,Gb3b,Gb3c];refine take_T 12 48 (.agg #[.string Nm,.int .u32 (j:Int),.int .u8 (nK:Int)]) rfl (by rfl) (by kernel_rfl) (by decide) (by kernel_rfl) (by kernel_rfl) (by kernel_rfl) (fun _ _ _ h=>h) (Or.inl ⟨by rfl,fun w' hSw=>by obtain⟨s0,s1,s2⟩:=hSw;go_simp⟩) hS ?_;simp only [Gb3a,Gb3b,Gb3c];refine only_T 13 rfl (by kernel_rfl) (by decide) (by rfl) (fun K hK=>?_)
     go_simp
     have hal:Below wc.heap.size wc (wc.alloc (.cells #[.string Nm,.int .u32 (j:Int),.int .u8 (nK:Int)] 64)):=(Below.refl _ _).alloc (Nat.le_refl _) _;have HVd:=hid (HVc.out.go hal);have HMd:=hid (HMc.out.alloc (.cells #[.string Nm,.int .u32 (j:Int),.int .u8 (nK:Int)] 64));have HLd:=hid (Ls.new (enc:=encEn) (k:=3) wc ⟨Nm,j,nK⟩ 64 (wc.heap.size+1) (Nat.lt_succ_self _));have hS2:VC (wc.alloc (.cells #[.string Nm,.int .u32 (j:Int),.int .u8 (nK:Int)] 64)) g it o1 o2 o3 rv (.slice (some ⟨b,o,none⟩) n c) (.map (some bi)) (.map (some be)) (.map (some bn)) (.map (some ba))∧Ms (wc.alloc (.cells #[.string Nm,.int .u32 (j:Int),.int .u8 (nK:Int)] 64)) bi be bn ba N s∧(wc.alloc (.cells #[.string Nm,.int .u32 (j:Int),.int .u8 (nK:Int)] 64)).heap[pb]?=some (.cells #[.int .u8 kK,.int .u32 I,.string Nm,.int .u32 C,.string xv] 133 (0,0)):=⟨HVd.out.c,HVd.out.m,row_bel HRc.out hal (Array.getElem?_eq_some_iff.1 HRc.out).1⟩;clear hal;refine hK.out _ _ hS2 ?_;clear hK K;try simp only [Act.put,Gb3a,Gb3b,Gb3c]
     refine done_T (by kernel_rfl) ?_;simp only [List.drop_succ_cons,List.drop_zero];clear hS hS2
     go_wp2_with (refine catE HMd.out [⟨Nm,j,nK⟩] _ 1 1 rfl HLd.out (by have:=HLN.out;omega) rfl _ _ rfl rfl rfl ?_;intro v8 w8 hm8 hg8;have HM8:=hid (show MkE w w8 v8 (lsE s d (ps.take (i+1))) by rw [HSN.out,HEN.out];exact hm8);clear hm8 hg8)
     exact⟨⟨i+1,by omega,by go_num,HM8.out⟩,by simp [intOf]<;>omega⟩
    ·have e2:((I:Int)==(d:Int))=false:=eqz (decide_eq_false hd);have HSN:=hid (HNO.out (by unfold isE;dsimp only;rw [decide_eq_false hd,Bool.and_false]));clear hk hd HYES HNO
     go_wp2_with fail
     exact⟨⟨i+1,by omega,by go_num,by rw [HSN.out];exact HMa.out⟩,by simp [intOf]<;>omega⟩
   ·have e1:((kK:Int)==2)=false:=eqz2 (decide_eq_false hk);have HSN:=hid (HNO.out (by unfold isE;dsimp only;rw [decide_eq_false hk];rfl));clear hk HYES HNO
    go_wp2_with fail
    exact⟨⟨i+1,by omega,by go_num,by rw [HSN.out];exact HMa.out⟩,by simp [intOf]<;>omega⟩
  ·have hin:i=n:=by omega
   have HT:=hid (show ps.take i=ps by rw [hin,HN.out,List.take_length])
   go_wp2
   go_ret
   exact⟨_,rfl,by have:=HM.out;rwa [HT.out] at this⟩
open Ph (en1 spX spB)
variable {w w' wr:World}{g bi be bn ba bu N M bb:Nat}{it o1 o2 o3 rv pv m1 m2 m3 m4 v:Value}{s s':Vo}{ps:List Pt}{U:Nat→Option Unit}
def Nx (s:Vo) (j:Nat):Prop:=2≤j∧j<4294967296∧s.ino j=none∧∀ k,2≤k→k<j→(s.ino k).isSome=true
theorem next_any (hV:VW w g bi be bn ba N it o1 o2 o3 rv pv s) (hN:N≤4194304) :
  Calls Tryz.prog 138 #[.pointer (some ⟨g,0,none⟩)] w fun e w'=>∃ j,e=.returned (.int .u32 (j:Nat))∧Nx s j∧Below w.heap.size w w':=by
 obtain⟨n,hn,_,hnd⟩:=hV.m.i.len;have HND:=hid hnd;have HV:=hid hV;clear hV hnd
 go_enter Tryz.func138,Tryz.ntmps138
 go_wp2_with fail
 go_loopw [3] (fun v wr=>∃ j:Nat,2≤j∧j≤n+2∧v=.int .u32 (j:Int)∧Hid (∀ k,2≤k→k<j→(s.ino k).isSome=true)∧Hid (Below w.heap.size w wr)) (fun v _=>n+2-(intOf v).toNat)
 case atStart=>exact⟨2,by omega,by omega,rfl,fun k h1 h2=>by omega,Below.refl _ _⟩
 case round =>
  obtain⟨j,hj2,hjn,rfl,hk,hb⟩:=hrel;have HK:=hid (Hid.out hk);have HB:=hid (Hid.out hb);clear hk hb;have HV1:=hid (HV.out.go HB.out);have hjl:j<4294967296:=by omega
  obtain⟨nr,hnr⟩:∃ nr,(s.ino j).getD zIn=nr:=⟨_,rfl⟩;obtain⟨th,hth⟩:∃ th,(s.ino j).isSome=th:=⟨_,rfl⟩;obtain⟨nK,nM,nL,nS,nT⟩:=nr;have hlk:(Instr.lookup 77 (.map (some bi)) (.int .u32 (j:Int)) true).run Tryz.prog wr=.ok (.tuple #[.agg #[.int .u8 nK,.int .u16 nM,.int .u32 nL,.int .u32 nS,.string nT],.bool th]) wr:=by have:=lookI_ok HV1.out.m.i hjl;rw [hnr,hth] at this;exact this
  have c6:wr.cell? ⟨g,6,none⟩=some (.map (some bi)):=HV1.out.c.cells.2.2.2.1;have HB2:=hid (HB.out.alloc HB.out.size (.cells #[.int .u8 nK,.int .u16 nM,.int .u32 nL,.int .u32 nS,.string nT] 35));clear hnr HV1;cases th
  ·have HNO:=hid (show s.ino j=none by cases e:s.ino j with | none=>rfl | some k=>rw [e] at hth;cases hth);clear hth
   go_wp2_with fail
   go_ret
   exact⟨j,rfl,⟨hj2,hjl,HNO.out,HK.out⟩,HB2.out⟩
  ·have HYE:=hid hth;clear hth;have hwr:IntKind.u32.wrap ((j:Int)+1)=((j+1:Nat):Int):=by rw [IntKind.wrap_u32];omega
   have HJN:=hid (show j+1≤n+2 from by
    have h:=HND.out ((List.range (j-1)).map (·+2)) (by
     rw [List.nodup_iff_pairwise_ne,List.pairwise_map];exact (List.pairwise_lt_range (n:=j-1)).imp (fun h e=>by omega)) (fun x hx=>by
     obtain⟨k,hk,rfl⟩:=List.mem_map.1 hx;have hk2:=List.mem_range.1 hk;refine⟨show k+2<4294967296 by omega,?_⟩;by_cases e:k+2=j
     ·rw [e];exact HYE.out
     ·exact HK.out (k+2) (by omega) (by omega))
    rw [List.length_map,List.length_range] at h;omega)
   go_wp2_with fail
   exact⟨⟨j+1,by omega,HJN.out,rfl,fun k h1 h2=>(by
    by_cases e:k=j
    ·rw [e];exact HYE.out
    ·exact HK.out k h1 (by omega)),HB2.out⟩,by have:=HJN.out;simp [intOf];omega⟩
noncomputable def gtI (L:List Itm) (i:Nat):In:=if rgt L then ((vo (pts L)).ino i).getD zIn else zIn
noncomputable def gtE (L:List Itm) (i:Nat):Int:=if rgt L then (if ((vo (pts L)).ino i).isSome then 0 else 5) else 9
theorem VolAt.low {L:List Itm}{lo lo':Nat}(h:VolAt w g lo it o1 o2 o3 L) (hl:lo'≤lo) (hg:g<lo'):VolAt w g lo' it o1 o2 o3 L:=by
 obtain⟨bi,be,bn,ba,A,c,hV,h1,h2,h3,hA,hb,hgl⟩:=h;exact⟨bi,be,bn,ba,A,c,hV,h1,h2,h3,fun b o e=>Nat.le_trans hl (hA b o e),Nat.le_trans hl hb,hg⟩
theorem off_setRow {X:Nat→Prop}(w:World) (r:Nat) (cs:Array Value) (h:X r):Off X w (w.setRow r cs):=by
 refine⟨rfl,rfl,rfl,by simp [World.setRow],fun j hj hx=>?_⟩;unfold World.setRow;simp only [Array.getElem?_modify];rw [if_neg (by intro e;subst e;exact hx h)]
def GtPost (g:Nat) (it:Value) (L:List Itm) (i:Nat) (w:World) (e:Ending) (w':World):Prop :=
 e=.returned (.tuple #[vI (gtI L i),.int .i64 (gtE L i)])∧(rgt L=true→VolAt w' g w.heap.size it (.int .u32 1) (.int .i32 0) (.int .u32 0) L)∧Off (fun j=>j=g) w w'
theorem get_any (L:List Itm) (A:Option Addr) (n c i:Nat) (hi:i<4294967296) (hC:VC w g (.slice A n c) (.int .u32 0) (.int .i32 0) (.int .u32 0) (.bool false) (.slice none 0 0) m1 m2 m3 m4) (hn:n=L.length) (hm:n≤1390000) (hD:Ls It.enc 2 w g A L) :
  Calls Tryz.prog 29 #[.pointer (some ⟨g,0,none⟩),.int .u32 (i:Int)] w (GtPost g (.slice A n c) L i w):=by
 have hal:Below w.heap.size w (w.alloc (.cells #[.int .u8 0,.int .u16 0,.int .u32 0,.int .u32 0,.string ⟨#[]⟩] 35)):=(Below.refl _ _).alloc (Nat.le_refl _) _;have HCK:=hid (check_any L A n c (hC.keep (hal.block g hC.lt)) hn hm (hD.below (hal.mono (Nat.le_of_lt hC.lt))));have HR0:=hid (heap_alloc_new w (.cells #[.int .u8 0,.int .u16 0,.int .u32 0,.int .u32 0,.string ⟨#[]⟩] 35));have HG:=hid hC.lt;have HB0:=hid (Off.of_below (X:=fun j=>j=g) hal);have hsz:(w.alloc (.cells #[.int .u8 0,.int .u16 0,.int .u32 0,.int .u32 0,.string ⟨#[]⟩] 35)).heap.size=w.heap.size+1:=by simp
 have HZ:=hid hsz;obtain⟨qI,hqI⟩:∃ qI,gtI L i=qI:=⟨_,rfl⟩;obtain⟨qE,hqE⟩:∃ qE,gtE L i=qE:=⟨_,rfl⟩;unfold GtPost;rw [hqI,hqE];have HQI:=hid hqI;have HQE:=hid hqE;unfold gtI at HQI;unfold gtE at HQE;clear hal hsz hC hn hD hqI hqE;unfold CkPost at HCK;have HCE:=hid (show ckE L=if rgt L then 0 else 9 from rfl)
 go_enter Tryz.func29,Tryz.ntmps29
 go_wp2_with fail
 generalize w.alloc (.cells #[.int .u8 0,.int .u16 0,.int .u32 0,.int .u32 0,.string ⟨#[]⟩] 35)=W at *;obtain⟨rb,hrb⟩:∃ rb,w.heap.size=rb:=⟨_,rfl⟩;rw [hrb] at HR0 HG HZ;simp only [hrb];have HRB:=hid hrb;clear hrb;cases hr:rgt L
 ·rw [hr] at HQI HQE HCE;have HI:=hid (show zIn=qI from HQI.out);have HE:=hid (show (9:Int)=qE from HQE.out);rw [HCE.out] at HCK;have HR:=hid hr;clear hr HQI HQE HCE
  go_at_call 22
  refine HCK.out.mono ?_;rintro e w1 ⟨rfl,_,hb1⟩;have HB1:=hid (HB0.out.trans hb1);have HR1:=hid ((hb1.block rb (by rw [HZ.out];exact Nat.lt_succ_self _) (by have:=HG.out;omega)).trans HR0.out);clear hb1 HCK HR0 HB0
  go_wp2_with (refine wpList_store_row rfl 35 (.tmp 4) (.tmp 13) rfl rb #[.int .u8 0,.int .u16 0,.int .u32 0,.int .u32 0,.string ⟨#[]⟩] rfl rfl 35 #[.int .u8 0,.int .u16 0,.int .u32 0,.int .u32 0,.string ⟨#[]⟩] HR1.out (by kernel_rfl) rfl (row5 _ _ _ _ _) ?_)
  refine bodyPost_ret (v:=.tuple #[.agg #[.int .u8 0,.int .u16 0,.int .u32 0,.int .u32 0,.string ⟨#[]⟩],.int .i64 9]) (results_row2 rfl _ _ rb 35 #[.int .u8 0,.int .u16 0,.int .u32 0,.int .u32 0,.string ⟨#[]⟩] (0,0) _ rfl (setRow_heap' HR1.out) Tryz.underlying35 rfl (by kernel_rfl) _ rfl) rfl ?_;exact⟨by rw [← HI.out,← HE.out];rfl,fun h=>(by rw [HR.out] at h;cases h),HB1.out.trans' (off_setRow (X:=fun j=>j=rb) _ _ _ rfl) (fun j hj=>.inr (by rw [hj];exact Nat.le_of_eq HRB.out))⟩
 ·rw [hr] at HQI HQE HCE;obtain⟨nr,hnr⟩:∃ nr,((vo (pts L)).ino i).getD zIn=nr:=⟨_,rfl⟩;obtain⟨th,hth⟩:∃ th,((vo (pts L)).ino i).isSome=th:=⟨_,rfl⟩;obtain⟨nK,nM,nL,nS,nT⟩:=nr;have HLK:=hid (fun (wx:World) (b N:Nat) (h:mI.At wx b N (vo (pts L)).ino)=>(show (Instr.lookup 77 (.map (some b)) (.int .u32 (i:Int)) true).run Tryz.prog wx=.ok (.tuple #[.agg #[.int .u8 nK,.int .u16 nM,.int .u32 nL,.int .u32 nS,.string nT],.bool th]) wx by have:=lookI_ok h hi;rw [hnr,hth] at this;exact this));have HI:=hid (show (⟨nK,nM,nL,nS,nT⟩:In)=qI by rw [← hnr,← HQI.out];rfl);have HE:=hid (show (if th then 0 else 5:Int)=qE by rw [← hth,← HQE.out];rfl);have HTZ:=hid (show th=false→(⟨nK,nM,nL,nS,nT⟩:In)=zIn from fun h=>by
   rw [← hnr];rw [h] at hth;cases e:(vo (pts L)).ino i with
   | none=>rfl
   | some n=>rw [e] at hth;cases hth)
  rw [HCE.out] at HCK;have HR:=hid hr;clear hr HQI HQE HCE hnr hth
  go_at_call 22
  refine HCK.out.mono ?_;rintro e w1 ⟨rfl,hv1,hb1⟩;have HB1:=hid (HB0.out.trans hb1);have HV1:=hid (hv1 HR.out);have HR1:=hid ((hb1.block rb (by rw [HZ.out];exact Nat.lt_succ_self _) (by have:=HG.out;omega)).trans HR0.out);have hrl:rb<w1.heap.size:=(Array.getElem?_eq_some_iff.1 HR1.out).1;have HRL:=hid hrl;clear hb1 HCK HR0 HB0 hv1 hrl;obtain⟨bi,be,bn,ba,A1,c1,hV1,_⟩:=HV1.out;have c6:w1.cell? ⟨g,6,none⟩=some (.map (some bi)):=hV1.c.cells.2.2.2.1;have hlk:=HLK.out w1 bi _ hV1.m.i;have hal:Below w1.heap.size w1 (w1.alloc (.cells #[.int .u8 nK,.int .u16 nM,.int .u32 nL,.int .u32 nS,.string nT] 35)):=(Below.refl _ _).alloc (Nat.le_refl _) _;have HR2:=hid (row_bel HR1.out hal HRL.out);have hrn:=heap_alloc_new w1 (.cells #[.int .u8 nK,.int .u16 nM,.int .u32 nL,.int .u32 nS,.string nT] 35);have k0:(w1.alloc (.cells #[.int .u8 nK,.int .u16 nM,.int .u32 nL,.int .u32 nS,.string nT] 35)).cell? ⟨w1.heap.size,0,none⟩=some (.int .u8 nK):=cell_of_row _ _ 0 _ _ _ hrn;have k1:(w1.alloc (.cells #[.int .u8 nK,.int .u16 nM,.int .u32 nL,.int .u32 nS,.string nT] 35)).cell? ⟨w1.heap.size,1,none⟩=some (.int .u16 nM):=cell_of_row _ _ 1 _ _ _ hrn;have k2:(w1.alloc (.cells #[.int .u8 nK,.int .u16 nM,.int .u32 nL,.int .u32 nS,.string nT] 35)).cell? ⟨w1.heap.size,2,none⟩=some (.int .u32 nL):=cell_of_row _ _ 2 _ _ _ hrn;have k3:(w1.alloc (.cells #[.int .u8 nK,.int .u16 nM,.int .u32 nL,.int .u32 nS,.string nT] 35)).cell? ⟨w1.heap.size,3,none⟩=some (.int .u32 nS):=cell_of_row _ _ 3 _ _ _ hrn;have k4:(w1.alloc (.cells #[.int .u8 nK,.int .u16 nM,.int .u32 nL,.int .u32 nS,.string nT] 35)).cell? ⟨w1.heap.size,4,none⟩=some (.string nT):=cell_of_row _ _ 4 _ _ _ hrn;have HV2:=hid (HV1.out.go hal);have HB2:=hid (HB1.out.trans (Off.of_below hal));have HLO:=hid (show rb<W.heap.size by rw [HZ.out];exact Nat.lt_succ_self _);have HNG:=hid (show rb≠g by have:=HG.out;omega);clear hal hrn hV1;cases th
  ·have HZN:=hid (HTZ.out rfl)
   go_wp2_with (refine wpList_store_row rfl 35 (.tmp 4) (.tmp 26) rfl rb #[.int .u8 0,.int .u16 0,.int .u32 0,.int .u32 0,.string ⟨#[]⟩] rfl rfl 35 #[.int .u8 0,.int .u16 0,.int .u32 0,.int .u32 0,.string ⟨#[]⟩] HR2.out (by kernel_rfl) rfl (row5 _ _ _ _ _) ?_)
   refine bodyPost_ret (v:=.tuple #[.agg #[.int .u8 0,.int .u16 0,.int .u32 0,.int .u32 0,.string ⟨#[]⟩],.int .i64 5]) (results_row2 rfl _ _ rb 35 #[.int .u8 0,.int .u16 0,.int .u32 0,.int .u32 0,.string ⟨#[]⟩] (0,0) _ rfl (setRow_heap' HR2.out) Tryz.underlying35 rfl (by kernel_rfl) _ rfl) rfl ?_;exact⟨by rw [← HI.out,← HE.out,HZN.out];rfl,fun _=>(HV2.out.out (off_setRow (X:=fun j=>j=rb) _ _ _ rfl) HLO.out HNG.out).low (by rw [HRB.out];exact Nat.le_of_lt HLO.out) (by rw [HRB.out];exact HG.out),HB2.out.trans' (off_setRow (X:=fun j=>j=rb) _ _ _ rfl) (fun j hj=>.inr (by rw [hj];exact Nat.le_of_eq HRB.out))⟩
  ·go_wp2_with (refine wpList_store_row rfl 35 (.tmp 4) (.tmp 27) rfl rb #[.int .u8 nK,.int .u16 nM,.int .u32 nL,.int .u32 nS,.string nT] rfl rfl 35 #[.int .u8 0,.int .u16 0,.int .u32 0,.int .u32 0,.string ⟨#[]⟩] HR2.out (by kernel_rfl) rfl (row5 _ _ _ _ _) ?_)
   refine bodyPost_ret (v:=.tuple #[.agg #[.int .u8 nK,.int .u16 nM,.int .u32 nL,.int .u32 nS,.string nT],.int .i64 0]) (results_row2 rfl _ _ rb 35 #[.int .u8 nK,.int .u16 nM,.int .u32 nL,.int .u32 nS,.string nT] (0,0) _ rfl (setRow_heap' HR2.out) Tryz.underlying35 rfl (by kernel_rfl) _ rfl) rfl ?_;exact⟨by rw [← HI.out,← HE.out];rfl,fun _=>(HV2.out.out (off_setRow (X:=fun j=>j=rb) _ _ _ rfl) HLO.out HNG.out).low (by rw [HRB.out];exact Nat.le_of_lt HLO.out) (by rw [HRB.out];exact HG.out),HB2.out.trans' (off_setRow (X:=fun j=>j=rb) _ _ _ rfl) (fun j hj=>.inr (by rw [hj];exact Nat.le_of_eq HRB.out))⟩
variable {w w' wr:World}{g bi be bn ba bu N M bb:Nat}{it o1 o2 o3 rv pv m1 m2 m3 m4 v:Value}{s s':Vo}{ps:List Pt}{U:Nat→Option Unit}
def ItA (w:World) (A:Option Addr) (n:Nat) (L:List Itm):Prop:=n=L.length∧n≤1390000∧Ls It.enc 2 w w.heap.size A L
theorem ItA.go {A:Option Addr}{n:Nat}{L:List Itm}(h:ItA w A n L) (hb:Below w.heap.size w w'):ItA w' A n L:=⟨h.1,h.2.1,(h.2.2.below hb).more hb.size⟩
theorem newV {A:Option Addr}{n:Nat}(c:Nat){L:List Itm}(h:ItA w A n L):VC (w.alloc (.cells #[.slice A n c,.int .u32 0,.int .i32 0,.int .u32 0,.bool false,.slice none 0 0,.map none,.map none,.map none,.map none] 81)) w.heap.size (.slice A n c) (.int .u32 0) (.int .i32 0) (.int .u32 0) (.bool false) (.slice none 0 0) (.map none) (.map none) (.map none) (.map none)∧Ls It.enc 2 (w.alloc (.cells #[.slice A n c,.int .u32 0,.int .i32 0,.int .u32 0,.bool false,.slice none 0 0,.map none,.map none,.map none,.map none] 81)) w.heap.size A L∧Below w.heap.size w (w.alloc (.cells #[.slice A n c,.int .u32 0,.int .i32 0,.int .u32 0,.bool false,.slice none 0 0,.map none,.map none,.map none,.map none] 81)) :=
 ⟨heap_alloc_new w _,h.2.2.below ((Below.refl _ _).alloc (Nat.le_refl _) _),(Below.refl _ _).alloc (Nat.le_refl _) _⟩
theorem below_off {w1:World}(h:Below w.heap.size w w1) (ho:Off (fun j=>j=w.heap.size) w1 w'):Below w.heap.size w w':=h.trans (ho.below h.size (fun j hj=>by rw [hj];exact Nat.le_refl _))
theorem Check_any {A:Option Addr}{n:Nat}(c:Nat){L:List Itm}(h:ItA w A n L) :
  Calls Tryz.prog 12 #[.slice A n c] w fun e w'=>e=.returned (.int .i64 (ckE L))∧Below w.heap.size w w':=by
 have HN:=hid (newV c h);have HC:=hid (check_any L A n c HN.out.1 h.1 h.2.1 HN.out.2.1);clear h;unfold CkPost at HC
 go_enter Tryz.func12,Tryz.ntmps12
 go_wp2_with (go_at_call 22;refine HC.out.mono ?_;rintro e w1 ⟨rfl,_,ho⟩;have HB:=hid (below_off HN.out.2.2 ho);clear ho)
 go_ret
 exact⟨rfl,HB.out⟩
noncomputable def wlk (L:List Itm) (fo:Bool) (names:List ByteArray):Nat×Int:=if rgt L then wkL (vo (pts L)) fo 8 1 names else (0,9)
def NmA (w:World) (A:Option Addr) (n c:Nat) (D:List ByteArray):Prop:=n=D.length∧n≤c∧c≤maxLen∧n≤1048577∧Ls en1 1 w w.heap.size A D∧∀ x∈D,x.size≤maxLen
theorem NmA.go {A:Option Addr}{n c:Nat}{D:List ByteArray}(h:NmA w A n c D) (hb:Below w.heap.size w w'):NmA w' A n c D:=⟨h.1,h.2.1,h.2.2.1,h.2.2.2.1,(h.2.2.2.2.1.below hb).more hb.size,h.2.2.2.2.2⟩
theorem Walk_any {A A':Option Addr}{n n' c':Nat}(c:Nat) (fo:Bool){L:List Itm}{names:List ByteArray}(h:ItA w A n L) (hN:NmA w A' n' c' names) :
  Calls Tryz.prog 168 #[.slice A n c,.slice A' n' c',.bool fo] w fun e w'=>e=.returned (.tuple #[.int .u32 ((wlk L fo names).1:Nat),.int .i64 (wlk L fo names).2])∧Below w.heap.size w w':=by
 have HN:=hid (newV c h);have HC:=hid (check_any L A n c HN.out.1 h.1 h.2.1 HN.out.2.1);have HNM:=hid hN;unfold CkPost at HC;have HCE:=hid (show ckE L=if rgt L then 0 else 9 from rfl);obtain⟨q,hq⟩:∃ q,wlk L fo names=q:=⟨_,rfl⟩;rw [hq];have HQ:=hid hq;unfold wlk at HQ;clear h hN hq;cases hr:rgt L
 ·rw [hr] at HQ HCE;rw [HCE.out] at HC;obtain rfl:(0,9)=q:=HQ.out;clear hr
  go_enter Tryz.func168,Tryz.ntmps168
  go_wp2_with (go_at_call 22;refine HC.out.mono ?_;rintro e w1 ⟨rfl,_,ho⟩;have HB:=hid (below_off HN.out.2.2 ho);clear ho)
  go_ret2
  exact⟨rfl,HB.out⟩
 ·rw [hr] at HQ HCE;rw [HCE.out] at HC;obtain⟨R1,R2⟩:=q;have HQ1:=hid (show wkL (vo (pts L)) fo 8 1 names=(R1,R2) from HQ.out);have HR:=hid hr;clear hr HQ;dsimp only
  go_enter Tryz.func168,Tryz.ntmps168
  go_wp2_with (first|(go_at_call 22;refine HC.out.mono ?_;rintro e w1 ⟨rfl,hv,ho⟩;have HB:=hid (below_off HN.out.2.2 ho);have HV:=hid (hv HR.out);have HM1:=hid (HNM.out.go HB.out);clear ho hv)|(go_at_call 187;obtain⟨bi,be,bn,ba,A1,c1,hV1,_⟩:=HV.out;have HWK:=hid (walk_any hV1 fo names A' n' c' HM1.out.1 HM1.out.2.1 HM1.out.2.2.1 HM1.out.2.2.2.1 HM1.out.2.2.2.2.1 HM1.out.2.2.2.2.2 (fun i n hn=>(hV1.m.ok.ino i n hn).2));unfold WkPost at HWK;rw [HQ1.out] at HWK;refine HWK.out.mono ?_;rintro e w2 ⟨rfl,hb2⟩;have HB2:=hid (HB.out.trans (hb2.mono HB.out.size));clear hb2 hV1))
  go_ret2
  exact⟨rfl,HB2.out⟩
theorem Next_any {A:Option Addr}{n:Nat}(c:Nat){L:List Itm}(h:ItA w A n L) :
  Calls Tryz.prog 101 #[.slice A n c] w fun e w'=>∃ j,e=.returned (.tuple #[.int .u32 (j:Nat),.int .i64 (ckE L)])∧(if rgt L then Nx (vo (pts L)) j else j=0)∧Below w.heap.size w w':=by
 have HN:=hid (newV c h);have HC:=hid (check_any L A n c HN.out.1 h.1 h.2.1 HN.out.2.1);have HLN:=hid (show L.length≤1390000 by have:=h.1;have:=h.2.1;omega);unfold CkPost at HC;have HCE:=hid (show ckE L=if rgt L then 0 else 9 from rfl);clear h;cases hr:rgt L
 ·rw [hr] at HCE;rw [HCE.out] at HC;clear hr
  go_enter Tryz.func101,Tryz.ntmps101
  go_wp2_with (go_at_call 22;refine HC.out.mono ?_;rintro e w1 ⟨rfl,_,ho⟩;have HB:=hid (below_off HN.out.2.2 ho);clear ho)
  go_ret2
  exact⟨0,by rw [HCE.out];rfl,rfl,HB.out⟩
 ·rw [hr] at HCE;rw [HCE.out] at HC;have HR:=hid hr;clear hr
  go_enter Tryz.func101,Tryz.ntmps101
  go_wp2_with (first|(go_at_call 22;refine HC.out.mono ?_;rintro e w1 ⟨rfl,hv,ho⟩;have HB:=hid (below_off HN.out.2.2 ho);have HV:=hid (hv HR.out);clear ho hv)|(go_at_call 138;obtain⟨bi,be,bn,ba,A1,c1,hV1,_⟩:=HV.out;refine (next_any hV1 (by have:=HLN.out;omega)).mono ?_;rintro e w2 ⟨j,rfl,hj,hb2⟩;have HJ:=hid hj;have HB2:=hid (HB.out.trans (hb2.mono HB.out.size));clear hj hb2 hV1))
  go_ret2
  exact⟨j,by rw [HCE.out];rfl,HJ.out,HB2.out⟩
noncomputable def lsX (L:List Itm) (i:Nat):Int:=if gtE L i≠0 then gtE L i else if (gtI L i).K≠1 then 12 else 0
noncomputable def lsL (L:List Itm) (i:Nat):List En:=if lsX L i=0 then lsE (vo (pts L)) i (pts L) else []
theorem rgt_parts {L:List Itm}(h:rgt L=true):∀ p∈pts L,PtOk p∧okP p=true∧okK p.k=true:=by
 have hr:=rgt_iff.1 h;exact pts_ok hr.rt hr.ok
theorem gtE_rgt {L:List Itm}{i:Nat}(h:gtE L i=0):rgt L=true:=by
 unfold gtE at h;cases hr:rgt L
 ·rw [hr] at h;cases h
 ·rfl
theorem List_any {A:Option Addr}{n:Nat}(c i:Nat) (hi:i<4294967296){L:List Itm}(h:ItA w A n L) :
  Calls Tryz.prog 97 #[.slice A n c,.int .u32 (i:Int)] w fun e w'=>∃ v,e=.returned (.tuple #[v,.int .i64 (lsX L i)])∧MkE w w' v (lsL L i):=by
 have HN:=hid (newV c h);have HC:=hid (get_any L A n c i hi HN.out.1 h.1 h.2.1 HN.out.2.1);have HLN:=hid (show L.length≤1390000 by have:=h.1;have:=h.2.1;omega);unfold GtPost at HC;have HX:=hid (show lsX L i=if gtE L i≠0 then gtE L i else if (gtI L i).K≠1 then 12 else 0 from rfl);have HLL:=hid (show lsL L i=if lsX L i=0 then lsE (vo (pts L)) i (pts L) else [] from rfl);have HRG:=hid (@gtE_rgt L i);obtain⟨q,hq⟩:∃ q,gtI L i=q:=⟨_,rfl⟩;obtain⟨x,hx⟩:∃ x,gtE L i=x:=⟨_,rfl⟩;rw [hq,hx] at HC HX;rw [hx] at HRG;obtain⟨nK,nM,nL,nS,nT⟩:=q;unfold vI at HC;dsimp only at HC HX;clear h hq hx;by_cases hx0:x=0
 ·have HXX:=hid (show lsX L i=if nK≠1 then 12 else 0 by rw [HX.out,if_neg (fun h=>h hx0)]);have e1:(x != 0)=false:=by rw [bne,eq0,decide_eq_true hx0];rfl
  have HR:=hid (HRG.out hx0);clear hx0;have HAL:=hid (fun (w1:World)=>heap_alloc_new w1 (.cells #[.int .u8 nK,.int .u16 nM,.int .u32 nL,.int .u32 nS,.string nT] 35));by_cases hk:nK=1
  ·have e2:((nK:Int) != 1)=false:=by rw [bne,eqz1 (decide_eq_true hk)];rfl
   have HX0:=hid (show lsX L i=0 by rw [HXX.out,if_neg (fun h=>h hk)]);clear hk
   go_enter Tryz.func97,Tryz.ntmps97
   go_wp2_with (first|(go_at_call 29;refine HC.out.mono ?_;rintro e w1 ⟨rfl,hv,ho⟩;have HB:=hid (below_off HN.out.2.2 ho);have hv1:=hv HR.out;have k0:(w1.alloc (.cells #[.int .u8 nK,.int .u16 nM,.int .u32 nL,.int .u32 nS,.string nT] 35)).cell? ⟨w1.heap.size,0,none⟩=some (.int .u8 nK):=cell_of_row _ _ 0 _ _ _ (HAL.out w1);have HV:=hid (hv1.go ((Below.refl _ _).alloc (Nat.le_refl _) (.cells #[.int .u8 nK,.int .u16 nM,.int .u32 nL,.int .u32 nS,.string nT] 35)));have HB1:=hid (HB.out.alloc HB.out.size (.cells #[.int .u8 nK,.int .u16 nM,.int .u32 nL,.int .u32 nS,.string nT] 35));clear ho hv hv1)|(go_at_call 137;obtain⟨bi,be,bn,ba,A1,c1,hV1,_,_,hL1,_⟩:=HV.out;refine (list_any A1 _ c1 i hV1 (pts_length L).symm HLN.out hL1 (fun p hp=>(rgt_parts HR.out p hp).1)).mono ?_;rintro e w2 ⟨v2,rfl,hm2⟩;have HM2:=hid (hm2.since HB1.out);clear hm2 hV1 hL1))
   go_ret2
   exact⟨v2,by rw [HX0.out];rfl,by rw [HLL.out,if_pos HX0.out];exact HM2.out⟩
  ·have e2:((nK:Int) != 1)=true:=by rw [bne,eqz1 (decide_eq_false hk)];rfl
   have HX0:=hid (show lsX L i=12 by rw [HXX.out,if_pos hk]);clear hk
   go_enter Tryz.func97,Tryz.ntmps97
   go_wp2_with (first|(go_at_call 29;refine HC.out.mono ?_;rintro e w1 ⟨rfl,hv,ho⟩;have HB:=hid (below_off HN.out.2.2 ho);have k0:(w1.alloc (.cells #[.int .u8 nK,.int .u16 nM,.int .u32 nL,.int .u32 nS,.string nT] 35)).cell? ⟨w1.heap.size,0,none⟩=some (.int .u8 nK):=cell_of_row _ _ 0 _ _ _ (HAL.out w1);have HB1:=hid (HB.out.alloc HB.out.size (.cells #[.int .u8 nK,.int .u16 nM,.int .u32 nL,.int .u32 nS,.string nT] 35));clear ho hv))
   go_ret2
   exact⟨.slice none 0 0,by rw [HX0.out];rfl,by rw [HLL.out,HX0.out,if_neg (by decide)];exact Mk.nil HB1.out⟩
 ·have e1:(x != 0)=true:=by rw [bne,eq0,decide_eq_false hx0];rfl
  have HX0:=hid (show lsX L i=x by rw [HX.out,if_pos hx0]);have HXN:=hid hx0;clear hx0
  go_enter Tryz.func97,Tryz.ntmps97
  go_wp2_with (first|(go_at_call 29;refine HC.out.mono ?_;rintro e w1 ⟨rfl,hv,ho⟩;have HB:=hid (below_off HN.out.2.2 ho);have HB1:=hid (HB.out.alloc HB.out.size (.cells #[.int .u8 nK,.int .u16 nM,.int .u32 nL,.int .u32 nS,.string nT] 35));clear ho hv))
  go_ret2
  exact⟨.slice none 0 0,by rw [HX0.out];rfl,by rw [HLL.out,HX0.out,if_neg HXN.out];exact Mk.nil HB1.out⟩
def kR:Ky:=⟨1,1,⟨#[]⟩,0⟩
def nR:In:=⟨1,0,1,0,⟨#[]⟩⟩
theorem kR_ok:okK kR=true:=by decide
theorem nR_ok:okI nR=true:=by decide
theorem kR_lim:kR.lim:=⟨by decide,by decide,by decide⟩
theorem nR_lim:nR.lim:=⟨by decide,by decide,by decide,by decide⟩
def rootI:Itm:=⟨wrK kR,wrI nR⟩
theorem New_any (w:World):Calls Tryz.prog 21 #[] w fun e w'=>∃ A,e=.returned (.slice A 1 1)∧ItA w' A 1 [rootI]∧Below w.heap.size w w':=by
 have CK:=hid (fun w=>key_in kR kR_lim w);have CE:=hid (fun w=>encode_in nR nR_lim w);have h1:=chK_yes kR_ok;have h2:=chI_yes nR_ok;rw [h1.1,h1.2] at CK;rw [h2.1,h2.2] at CE;have HRT:=hid (show rootI=⟨wrK kR,wrI nR⟩ from rfl);generalize wrK kR=ks at *;generalize wrI nR=vs at *;unfold vK kR at CK;unfold vI nR at CE;dsimp only at CK CE;clear h1 h2
 go_enter Tryz.func21,Tryz.ntmps21
 go_wp2_with (first|(go_at_call 30;refine (CK.out _).mono ?_;rintro e w1 ⟨rfl,hb1⟩;have HB1:=hid hb1;clear hb1)|(go_at_call 31;refine (CE.out _).mono ?_;rintro e w2 ⟨rfl,hb2⟩;have HB2:=hid (HB1.out.trans (hb2.mono HB1.out.size));clear hb2))
 go_ret
 exact⟨_,rfl,⟨rfl,by decide,by
  rw [HRT.out];exact Ls.new (enc:=It.enc) (k:=2) w2 ⟨ks,vs⟩ 90 _ (by simp)⟩,HB2.out.alloc HB2.out.size _⟩
end Go.Proofs.YtopepebcnaikiaaGreatDoor.Di
namespace Go.Proofs.YtopepebcnaikiaaGreatDoor.Sc
open Lib (hid)
open Go.ChangeShapes Go.WideShapes Go.ChangeAt Go.RowKit
open Ar Rg
structure Ch where
 k:ByteArray
 h:Bool
 v:ByteArray
def enc (c:Ch):List Value:=[.string c.k,.bool c.h,.string c.v]
theorem enc_len (x:Ch):(enc x).length=3:=rfl
theorem enc_one (x:Ch):∀ v∈enc x,v.oneCell'=true:=by
 intro v hv;simp [enc] at hv;rcases hv with rfl | rfl | rfl<;>rfl
def key (c:Ch):List UInt8:=c.k.data.toList
def cf (x y:Ch):Int:=Lib.compareBytes (key x) (key y)
theorem cf_lt (x y:Ch):cf x y<0↔By.bl (key x) (key y)=true:=By.cmp_lt _ _
theorem compareString_any (a b:ByteArray) (w:World) :
  Calls Tryz.prog 118 #[.string a,.string b] w fun e w'=>e=.returned (.int .i64 (Lib.compareBytes a.data.toList b.data.toList))∧w=w':=by
 go_enter Tryz.func118,Tryz.ntmps118
 go_wp2_with fail
 rw [run_callFunc_extern Tryz.func149 (by kernel_rfl) (by kernel_rfl) (by kernel_rfl) (e:=Extern.BytealgCompare.compare) (by kernel_rfl),Lib.run_compareString];simp only [Result.andThen];rw [Oper.upon_value]
 go_wp2
 go_ret
 exact⟨rfl,rfl⟩
theorem compare_any (a b:ByteArray) (w:World) :
  Calls Tryz.prog 77 #[.string a,.string b] w fun e w'=>e=.returned (.int .i64 (Lib.compareBytes a.data.toList b.data.toList))∧w=w':=by
 go_enter Tryz.func77,Tryz.ntmps77
 go_wp2_with (go_at_call 118;refine (compareString_any _ _ _).mono ?_;rintro e w' ⟨rfl,rfl⟩)
 go_ret
 exact⟨rfl,rfl⟩
theorem cmp_any (x y:Ch) (w:World) :
  Calls Tryz.prog 76 #[.agg (enc x).toArray,.agg (enc y).toArray] w fun e w'=>e=.returned (.int .i64 (cf x y))∧w.grownBy w' none:=by
 show Calls Tryz.prog 76 #[.agg #[.string x.k,.bool x.h,.string x.v],.agg #[.string y.k,.bool y.h,.string y.v]] w _
 have G:w.grownBy ((w.alloc (.cells #[.string x.k,.bool x.h,.string x.v] 138)).alloc (.cells #[.string y.k,.bool y.h,.string y.v] 138)) none:=grown_trans (World.grownBy_alloc w _ none) (World.grownBy_alloc _ _ none);have HG:=hid G;clear G
 go_enter Tryz.func76,Tryz.ntmps76
 go_wp2_with (go_at_call 77;refine (compare_any _ _ _).mono ?_;rintro e w' ⟨rfl,rfl⟩)
 go_ret
 exact⟨rfl,HG.out⟩
def CMP:Value:=.func (.func 76) #[] #[]
theorem infoE:(Tryz.prog.info? 138).map (·.size)=some 3:=by kernel_rfl
section
variable {α:Type}
theorem set_mid (A B:List α) (x y:α) (i:Nat) (h:i=A.length):(A++x::B).set i y=A++y::B:=by
 subst h;rw [List.set_append_right _ _ (Nat.le_refl _),Nat.sub_self,List.set_cons_zero]
theorem get_mid (A B:List α) (x:α) (i:Nat) (h:i=A.length):(A++x::B)[i]?=some x:=by
 subst h;rw [List.getElem?_append_right (Nat.le_refl _),Nat.sub_self];rfl
def sw (P U M V R:List α) (i:Nat):List α:=P++(V.take i++(U.drop i++(M++(U.take i++(V.drop i++R)))))
theorem sw_zero (P U M V R:List α):sw P U M V R 0=P++(U++(M++(V++R))):=by simp [sw]
theorem sw_all (P U M V R:List α) (h:U.length=V.length):sw P U M V R U.length=P++(V++(M++(U++R))):=by
 unfold sw;rw [List.take_of_length_le (by omega),List.drop_of_length_le (Nat.le_refl _),List.take_of_length_le (Nat.le_refl _),List.drop_of_length_le (by omega)];simp
theorem sw_form (P U M V R:List α) (h:U.length=V.length) (i:Nat) (hi:i<U.length):sw P U M V R i=(P++V.take i)++U[i]::(U.drop (i+1)++(M++(U.take i++V[i]'(by omega)::(V.drop (i+1)++R)))):=by
 unfold sw;rw [List.drop_eq_getElem_cons hi,List.drop_eq_getElem_cons (l:=V) (by omega)];simp only [List.append_assoc,List.cons_append]
theorem sw_form2 (P U M V R:List α) (h:U.length=V.length) (i:Nat) (hi:i<U.length) (z:α):(P++V.take i)++z::(U.drop (i+1)++(M++(U.take i++V[i]'(by omega)::(V.drop (i+1)++R))))=((P++V.take i)++z::(U.drop (i+1)++(M++U.take i)))++V[i]'(by omega)::(V.drop (i+1)++R):=by simp
theorem sw_step (P U M V R:List α) (h:U.length=V.length) (i:Nat) (hi:i<U.length) :
  ((sw P U M V R i).set (P.length+i) (V[i]'(by omega))).set (P.length+U.length+M.length+i) (U[i])=sw P U M V R (i+1):=by
 rw [sw_form P U M V R h i hi,set_mid _ _ _ _ _ (by rw [List.length_append,List.length_take];omega),sw_form2 P U M V R h i hi,
  set_mid _ _ _ _ _ (by simp only [List.length_append,List.length_cons,List.length_take,List.length_drop];omega)]
 unfold sw;rw [List.take_succ_eq_append_getElem hi,List.take_succ_eq_append_getElem (l:=V) (by omega)];simp only [List.append_assoc,List.cons_append,List.nil_append]
theorem sw_left (P U M V R:List α) (h:U.length=V.length) (i:Nat) (hi:i<U.length):(sw P U M V R i)[P.length+i]?=some U[i]:=by
 rw [sw_form P U M V R h i hi];exact get_mid _ _ _ _ (by rw [List.length_append,List.length_take];omega)
theorem sw_right (P U M V R:List α) (h:U.length=V.length) (i:Nat) (hi:i<U.length):(sw P U M V R i)[P.length+U.length+M.length+i]?=some (V[i]'(by omega)):=by
 rw [sw_form P U M V R h i hi,sw_form2 P U M V R h i hi];exact get_mid _ _ _ _ (by simp only [List.length_append,List.length_cons,List.length_take,List.length_drop];omega)
end
theorem swapRange_any (P U M V R:List Ch) (h:U.length=V.length) (g cap:Nat) (F:Value) (hL:(P++(U++(M++(V++R)))).length≤cap) (hm:(P++(U++(M++(V++R)))).length≤281474976710656) (w:World) (hA:Arr enc 3 w g (P++(U++(M++(V++R))))) :
  Calls Tryz.prog 193 #[.slice (some ⟨g,0,none⟩) (P++(U++(M++(V++R)))).length cap,.int .i64 P.length,.int .i64 (P.length+U.length+M.length:Nat),.int .i64 U.length,F] w fun e w'=>e=.returned (.tuple #[])∧w.grownBy w' (some g)∧Arr enc 3 w' g (P++(V++(M++(U++R)))):=by
 obtain⟨N,hN⟩:∃ N,N=(P++(U++(M++(V++R)))).length:=⟨_,rfl⟩;have hN1:P.length+U.length+M.length+V.length≤N:=by rw [hN];simp only [List.length_append];omega
 rw [← hN] at hL hm ⊢;have HN:=hid hN;have HA:=hid hA;clear hA hN;obtain⟨a,ha⟩:∃ a,a=P.length:=⟨_,rfl⟩;obtain⟨b,hb⟩:∃ b,b=P.length+U.length+M.length:=⟨_,rfl⟩;obtain⟨n,hn⟩:∃ n,n=U.length:=⟨_,rfl⟩;rw [← hb,← ha,← hn];have hbn:b+n≤N:=by omega
 have hab:a+n≤b:=by omega
 have HAE:=hid ha;have HBE:=hid hb;have HNE:=hid hn;have HH:=hid h;clear ha hb hn hN1 h
 go_enter Tryz.func193,Tryz.ntmps193
 go_wp2_with fail
 go_loopw [10] (fun v wr=>∃ i:Nat,i≤n∧v=.int .i64 i∧Arr enc 3 wr g (sw P U M V R i)∧w.grownBy wr (some g)) (fun v _=>n-(intOf v).toNat)
 case atStart=>exact⟨0,Nat.zero_le _,rfl,by rw [sw_zero];exact HA.out,grown_refl _ _⟩
 case round =>
  obtain⟨i,hi,rfl,hAr,hgr⟩:=hrel;by_cases hlt:i<n
  ·have HAr:=hid hAr;have HG:=hid hgr;clear hAr hgr;have q1:(0:Int)≤(a:Int)+(i:Int):=by omega
   have q2:(a:Int)+(i:Int)<(N:Int):=by omega
   have q3:(0:Int)≤(b:Int)+(i:Int):=by omega
   have q4:(b:Int)+(i:Int)<(N:Int):=by omega
   go_wp2_with fail
   refine wp_region_held_drew (S:=fun _=>True) (by kernel_rfl) trivial (fun hHeld=>?_);refine take_at 0 16 (.slice (some ⟨g,0,none⟩) N cap) rfl (by rfl) (by kernel_rfl) (by kernel_rfl) (by kernel_rfl) (fun _ _ _ h=>h) (Or.inl ⟨by rfl,fun w' hSw=>by go_simp⟩) (by assumption) ?_;simp only [Gb3a,Gb3b,Gb3c];refine take_at 1 17 (.int .i64 a) rfl (by rfl) (by kernel_rfl) (by kernel_rfl) (by kernel_rfl) (fun _ _ _ h=>h) (Or.inl ⟨by rfl,fun w' hSw=>by go_simp⟩) (by assumption) ?_;simp only [Gb3a,Gb3b,Gb3c];refine take_at 2 18 (.int .i64 i) rfl (by rfl) (by kernel_rfl) (by kernel_rfl) (by kernel_rfl) (fun _ _ _ h=>h) (Or.inl ⟨by rfl,fun w' hSw=>by go_simp⟩) (by assumption) ?_;simp only [Gb3a,Gb3b,Gb3c];refine take_at 3 19 (.int .i64 ((a:Int)+(i:Int))) rfl (by rfl) (by kernel_rfl) (by kernel_rfl) (by kernel_rfl) (fun _ _ _ h=>h) (Or.inl ⟨by rfl,fun w' hSw=>by go_simp<;>exact IntWalk.i64_in _ ⟨by omega,by omega⟩⟩) (by assumption) ?_;simp only [Gb3a,Gb3b,Gb3c];refine take_at 4 20 (.slice (some ⟨g,0,none⟩) N cap) rfl (by rfl) (by kernel_rfl) (by kernel_rfl) (by kernel_rfl) (fun _ _ _ h=>h) (Or.inl ⟨by rfl,fun w' hSw=>by go_simp⟩) (by assumption) ?_;simp only [Gb3a,Gb3b,Gb3c];refine take_at 5 21 (.int .i64 b) rfl (by rfl) (by kernel_rfl) (by kernel_rfl) (by kernel_rfl) (fun _ _ _ h=>h) (Or.inl ⟨by rfl,fun w' hSw=>by go_simp⟩) (by assumption) ?_;simp only [Gb3a,Gb3b,Gb3c];refine take_at 6 22 (.int .i64 i) rfl (by rfl) (by kernel_rfl) (by kernel_rfl) (by kernel_rfl) (fun _ _ _ h=>h) (Or.inl ⟨by rfl,fun w' hSw=>by go_simp⟩) (by assumption) ?_;simp only [Gb3a,Gb3b,Gb3c];refine take_at 7 23 (.int .i64 ((b:Int)+(i:Int))) rfl (by rfl) (by kernel_rfl) (by kernel_rfl) (by kernel_rfl) (fun _ _ _ h=>h) (Or.inl ⟨by rfl,fun w' hSw=>by go_simp<;>exact IntWalk.i64_in _ ⟨by omega,by omega⟩⟩) (by assumption) ?_;simp only [Gb3a,Gb3b,Gb3c];refine take_at 8 24 (.slice (some ⟨g,0,none⟩) N cap) rfl (by rfl) (by kernel_rfl) (by kernel_rfl) (by kernel_rfl) (fun _ _ _ h=>h) (Or.inl ⟨by rfl,fun w' hSw=>by go_simp⟩) (by assumption) ?_;simp only [Gb3a,Gb3b,Gb3c];refine take_at 9 25 (.int .i64 b) rfl (by rfl) (by kernel_rfl) (by kernel_rfl) (by kernel_rfl) (fun _ _ _ h=>h) (Or.inl ⟨by rfl,fun w' hSw=>by go_simp⟩) (by assumption) ?_;simp only [Gb3a,Gb3b,Gb3c];refine take_at 10 26 (.int .i64 i) rfl (by rfl) (by kernel_rfl) (by kernel_rfl) (by kernel_rfl) (fun _ _ _ h=>h) (Or.inl ⟨by rfl,fun w' hSw=>by go_simp⟩) (by assumption) ?_;simp only [Gb3a,Gb3b,Gb3c];refine take_at 11 27 (.int .i64 ((b:Int)+(i:Int))) rfl (by rfl) (by kernel_rfl) (by kernel_rfl) (by kernel_rfl) (fun _ _ _ h=>h) (Or.inl ⟨by rfl,fun w' hSw=>by go_simp<;>exact IntWalk.i64_in _ ⟨by omega,by omega⟩⟩) (by assumption) ?_;simp only [Gb3a,Gb3b,Gb3c];refine take_at 12 28 (.pointer (some ⟨g,(b+i)*3,none⟩)) rfl (by rfl) (by kernel_rfl) (by kernel_rfl) (by kernel_rfl) (fun _ _ _ h=>h) (Or.inl ⟨by rfl,fun w' hSw=>by go_simp⟩) (by assumption) ?_;simp only [Gb3a,Gb3b,Gb3c];refine take_at 14 30 (.slice (some ⟨g,0,none⟩) N cap) rfl (by rfl) (by kernel_rfl) (by kernel_rfl) (by kernel_rfl) (fun _ _ _ h=>h) (Or.inl ⟨by rfl,fun w' hSw=>by go_simp⟩) (by assumption) ?_
   simp only [Gb3a,Gb3b,Gb3c];refine take_at 15 31 (.int .i64 a) rfl (by rfl) (by kernel_rfl) (by kernel_rfl) (by kernel_rfl) (fun _ _ _ h=>h) (Or.inl ⟨by rfl,fun w' hSw=>by go_simp⟩) (by assumption) ?_;simp only [Gb3a,Gb3b,Gb3c];refine take_at 16 32 (.int .i64 i) rfl (by rfl) (by kernel_rfl) (by kernel_rfl) (by kernel_rfl) (fun _ _ _ h=>h) (Or.inl ⟨by rfl,fun w' hSw=>by go_simp⟩) (by assumption) ?_;simp only [Gb3a,Gb3b,Gb3c];refine take_at 17 33 (.int .i64 ((a:Int)+(i:Int))) rfl (by rfl) (by kernel_rfl) (by kernel_rfl) (by kernel_rfl) (fun _ _ _ h=>h) (Or.inl ⟨by rfl,fun w' hSw=>by go_simp<;>exact IntWalk.i64_in _ ⟨by omega,by omega⟩⟩) (by assumption) ?_;simp only [Gb3a,Gb3b,Gb3c];refine take_at 18 34 (.pointer (some ⟨g,(a+i)*3,none⟩)) rfl (by rfl) (by kernel_rfl) (by kernel_rfl) (by kernel_rfl) (fun _ _ _ h=>h) (Or.inl ⟨by rfl,fun w' hSw=>by go_simp⟩) (by assumption) ?_;simp only [Gb3a,Gb3b,Gb3c];have HAd:=hid (show Arr enc 3 wr.drew g (sw P U M V R i) from HAr.out);have HGd:=hid (grown_trans HG.out (grown_drew wr (some g)));generalize wr.drew=X at *;obtain⟨x,hx⟩:∃ x,(sw P U M V R i)[a+i]?=some x:=⟨_,by rw [HAE.out];exact sw_left P U M V R HH.out i (by rw [← HNE.out];exact hlt)⟩;obtain⟨y,hy⟩:∃ y,(sw P U M V R i)[b+i]?=some y:=⟨_,by rw [HBE.out];exact sw_right P U M V R HH.out i (by rw [← HNE.out];exact hlt)⟩;have ll:a+i<(sw P U M V R i).length:=(List.getElem?_eq_some_iff.1 hx).1;have lr:b+i<((sw P U M V R i).set (a+i) y).length:=by rw [List.length_set];exact (List.getElem?_eq_some_iff.1 hy).1
   have H1:=hid (HAd.out.store enc_len ll y);have H2:=hid (show Arr enc 3 ((X.setCells g ((a+i)*3) (enc y)).setCells g ((b+i)*3) (enc x)) g (sw P U M V R (i+1)) by
    have hs:=sw_step P U M V R HH.out i (by rw [← HNE.out];exact hlt);have ex:x=U[i]'(by rw [← HNE.out];exact hlt):=by
     have:=sw_left P U M V R HH.out i (by rw [← HNE.out];exact hlt);rw [← HAE.out] at this;exact Option.some.inj (hx.symm.trans this)
    have ey:y=V[i]'(by rw [← HH.out,← HNE.out];exact hlt):=by
     have:=sw_right P U M V R HH.out i (by rw [← HNE.out];exact hlt);rw [← HBE.out] at this;exact Option.some.inj (hy.symm.trans this)
    rw [← hs,← HAE.out,← ex,← ey];have hbe:=HBE.out;rw [← HAE.out] at hbe;rw [← hbe];exact H1.out.store enc_len lr x)
   have G2:=hid (show w.grownBy ((X.setCells g ((a+i)*3) (enc y)).setCells g ((b+i)*3) (enc x)) (some g) from grown_trans (grown_trans HGd.out (grown_setCells _ _ _ _)) (grown_setCells _ _ _ _));have HX:=hid (HAd.out.range hx);have HY:=hid (HAd.out.range hy);clear hx hy;refine wpAnyH_ready (rs:=[13,19]) (by kernel_rfl) (by simp) ?_;refine all_at 13 29 (.agg (enc y).toArray) X rfl (by rfl) (by rfl) (load_run 138 (.tmp 28) rfl g ((b+i)*3) rfl (enc y) _ HY.out Tryz.underlying138 rfl (by rw [enc_len];exact infoE)) trivial (fun hHeld=>?_) ?_
   ·simp only [Gb3a,Gb3b,Gb3c];refine wpAnyH_ready (rs:=[19]) (by kernel_rfl) (by simp) ?_;refine all_at 19 35 (.agg (enc x).toArray) X rfl (by rfl) (by rfl) (load_run 138 (.tmp 34) rfl g ((a+i)*3) rfl (enc x) _ HX.out Tryz.underlying138 rfl (by rw [enc_len];exact infoE)) trivial (fun hHeld=>?_) all_nil;simp only [Gb3a,Gb3b,Gb3c];refine take_at 20 36 (.pointer (some ⟨g,(a+i)*3,none⟩)) rfl (by rfl) (by kernel_rfl) (by kernel_rfl) (by kernel_rfl) (fun _ _ _ h=>h) (Or.inl ⟨by rfl,fun w' hSw=>by go_simp⟩) (by assumption) ?_;simp only [Gb3a,Gb3b,Gb3c];refine wpAnyH_ready (rs:=[21]) (by kernel_rfl) (by simp) ?_;refine all_wp 21 _ (X.setCells g ((a+i)*3) (enc y)) rfl (by rfl) (fun K' hk=>wp_store_mid 138 (.tmp 36) (.tmp 29) rfl g ((a+i)*3) (enc y).toArray rfl rfl (HAd.out.there enc_len ll) (by rw [List.size_toArray,enc_len];exact infoE) (all_oneCell_toArray (enc_one _)) (by simpa only [List.toList_toArray] using hk)) trivial (fun hHeld=>?_) all_nil;simp only [Act.put];refine take_at 22 37 (.pointer (some ⟨g,(b+i)*3,none⟩)) rfl (by rfl) (by kernel_rfl) (by kernel_rfl) (by kernel_rfl) (fun _ _ _ h=>h) (Or.inl ⟨by rfl,fun w' hSw=>by go_simp⟩) (by assumption) ?_;simp only [Gb3a,Gb3b,Gb3c];refine wpAnyH_ready (rs:=[23]) (by kernel_rfl) (by simp) ?_;refine all_wp 23 _ ((X.setCells g ((a+i)*3) (enc y)).setCells g ((b+i)*3) (enc x)) rfl (by rfl) (fun K' hk=>wp_store_mid 138 (.tmp 37) (.tmp 35) rfl g ((b+i)*3) (enc x).toArray rfl rfl (H1.out.there enc_len lr) (by rw [List.size_toArray,enc_len];exact infoE) (all_oneCell_toArray (enc_one _)) (by simpa only [List.toList_toArray] using hk)) trivial (fun hHeld=>?_) all_nil;simp only [Act.put];refine wpAnyH_done (by kernel_rfl) ?_ _;generalize ((X.setCells g ((a+i)*3) (enc y)).setCells g ((b+i)*3) (enc x))=Z at *
    go_wp2
    go_roundw
    case rel=>exact⟨i+1,by omega,by go_num,H2.out,G2.out⟩
    case measure=>simp [intOf];omega
   refine all_at 19 35 (.agg (enc x).toArray) X rfl (by rfl) (by rfl) (load_run 138 (.tmp 34) rfl g ((a+i)*3) rfl (enc x) _ HX.out Tryz.underlying138 rfl (by rw [enc_len];exact infoE)) trivial (fun hHeld=>?_) all_nil;simp only [Gb3a,Gb3b,Gb3c];refine wpAnyH_ready (rs:=[13]) (by kernel_rfl) (by simp) ?_;refine all_at 13 29 (.agg (enc y).toArray) X rfl (by rfl) (by rfl) (load_run 138 (.tmp 28) rfl g ((b+i)*3) rfl (enc y) _ HY.out Tryz.underlying138 rfl (by rw [enc_len];exact infoE)) trivial (fun hHeld=>?_) all_nil;simp only [Gb3a,Gb3b,Gb3c];refine take_at 20 36 (.pointer (some ⟨g,(a+i)*3,none⟩)) rfl (by rfl) (by kernel_rfl) (by kernel_rfl) (by kernel_rfl) (fun _ _ _ h=>h) (Or.inl ⟨by rfl,fun w' hSw=>by go_simp⟩) (by assumption) ?_;simp only [Gb3a,Gb3b,Gb3c];refine wpAnyH_ready (rs:=[21]) (by kernel_rfl) (by simp) ?_;refine all_wp 21 _ (X.setCells g ((a+i)*3) (enc y)) rfl (by rfl) (fun K' hk=>wp_store_mid 138 (.tmp 36) (.tmp 29) rfl g ((a+i)*3) (enc y).toArray rfl rfl (HAd.out.there enc_len ll) (by rw [List.size_toArray,enc_len];exact infoE) (all_oneCell_toArray (enc_one _)) (by simpa only [List.toList_toArray] using hk)) trivial (fun hHeld=>?_) all_nil;simp only [Act.put];refine take_at 22 37 (.pointer (some ⟨g,(b+i)*3,none⟩)) rfl (by rfl) (by kernel_rfl) (by kernel_rfl) (by kernel_rfl) (fun _ _ _ h=>h) (Or.inl ⟨by rfl,fun w' hSw=>by go_simp⟩) (by assumption) ?_;simp only [Gb3a,Gb3b,Gb3c];refine wpAnyH_ready (rs:=[23]) (by kernel_rfl) (by simp) ?_;refine all_wp 23 _ ((X.setCells g ((a+i)*3) (enc y)).setCells g ((b+i)*3) (enc x)) rfl (by rfl) (fun K' hk=>wp_store_mid 138 (.tmp 37) (.tmp 35) rfl g ((b+i)*3) (enc x).toArray rfl rfl (H1.out.there enc_len lr) (by rw [List.size_toArray,enc_len];exact infoE) (all_oneCell_toArray (enc_one _)) (by simpa only [List.toList_toArray] using hk)) trivial (fun hHeld=>?_) all_nil;simp only [Act.put];refine wpAnyH_done (by kernel_rfl) ?_ _;generalize ((X.setCells g ((a+i)*3) (enc y)).setCells g ((b+i)*3) (enc x))=Z at *
   go_wp2
   go_roundw
   case rel=>exact⟨i+1,by omega,by go_num,H2.out,G2.out⟩
   case measure=>simp [intOf];omega
  ·obtain rfl:i=n:=by omega
   have hfin:Arr enc 3 wr g (P++(V++(M++(U++R)))):=by
    have:=sw_all P U M V R HH.out;rw [← this,← HNE.out];exact hAr
   have HF:=hid hfin;clear hAr hfin
   go_wp2
   exact⟨rfl,_,results_none rfl _ _ _,rfl,hgr,HF.out⟩
open Go.ChangeShapes Go.WideShapes Go.ChangeAt Go.RowKit
open Ar Rg
theorem swapRange_at (P U M V R D:List Ch) (hD:D=P++(U++(M++(V++R)))) (h:U.length=V.length) (g cap N:Nat) (hN:N=D.length) (F:Value) (hL:N≤cap) (hm:N≤281474976710656) (w:World) (hA:Arr enc 3 w g D)
  (a b n:Int) (ha:a=(P.length:Int)) (hb:b=(P.length:Int)+U.length+M.length) (hn:n=(U.length:Int)) :
  Calls Tryz.prog 193 #[.slice (some ⟨g,0,none⟩) N cap,.int .i64 a,.int .i64 b,.int .i64 n,F] w fun e w'=>e=.returned (.tuple #[])∧w.grownBy w' (some g)∧Arr enc 3 w' g (P++(V++(M++(U++R)))):=by
 subst hD hN;have:=swapRange_any P U M V R h g cap F hL hm w hA;rw [ha,hn,show b=((P.length+U.length+M.length:Nat):Int) by omega];exact this
def Rot (T:List Ch) (m i j:Nat) (N:Nat) (g:Nat) (w wr:World):Prop:=∃ P U V R:List Ch,Arr enc 3 wr g (P++(U++(V++R)))∧(P++(U++(V++R))).length=N∧U.length=i∧V.length=j∧P.length+i=m∧T=P++(V++(U++R))∧w.grownBy wr (some g)
theorem rot_start {P X Y R D:List Ch}{g N:Nat}{w:World}(hD:D=P++(X++(Y++R))) (hN:N=D.length) (hA:Arr enc 3 w g D):Rot (P++(Y++(X++R))) (P.length+X.length) X.length Y.length N g w w:=by
 subst hD;exact⟨P,X,Y,R,hA,hN.symm,rfl,rfl,rfl,rfl,grown_refl _ _⟩
theorem rot_more {T:List Ch}{m i j N g:Nat}{w wr:World}(cap:Nat) (F:Value) (hL:N≤cap) (hm:N≤281474976710656) (h:Rot T m i j N g w wr) (hij:j<i) :
  Calls Tryz.prog 193 #[.slice (some ⟨g,0,none⟩) N cap,.int .i64 ((m:Int)-i),.int .i64 m,.int .i64 j,F] wr fun e w'=>e=.returned (.tuple #[])∧Rot T m (i-j) j N g w w':=by
 obtain⟨P,U,V,R,hA,hN,hU,hV,hP,hT,hg⟩:=h;have e1:U=U.take j++U.drop j:=(List.take_append_drop j U).symm;have l1:(U.take j).length=j:=by rw [List.length_take];omega
 have l2:(U.drop j).length=i-j:=by rw [List.length_drop];omega
 generalize U.take j=U1 at *;generalize U.drop j=U2 at *;subst e1;refine (swapRange_at P U1 U2 V R _ (by simp) (by omega) g cap N hN.symm F hL hm wr hA _ _ _ ?_ ?_ ?_).mono fun e w' h=>⟨h.1,P++V,U2,U1,R,?_,?_,l2,l1,?_,?_,grown_trans hg h.2.1⟩
 ·simp only [List.length_append] at hU;omega
 ·simp only [List.length_append] at hU;omega
 ·omega
 ·simpa using h.2.2
 ·rw [← hN];simp only [List.length_append];omega
 ·rw [List.length_append];omega
 ·rw [hT];simp
theorem rot_less {T:List Ch}{m i j N g:Nat}{w wr:World}(cap:Nat) (F:Value) (hL:N≤cap) (hm:N≤281474976710656) (h:Rot T m i j N g w wr) (hij:i<j) :
  Calls Tryz.prog 193 #[.slice (some ⟨g,0,none⟩) N cap,.int .i64 ((m:Int)-i),.int .i64 ((m:Int)+j-i),.int .i64 i,F] wr fun e w'=>e=.returned (.tuple #[])∧Rot T m i (j-i) N g w w':=by
 obtain⟨P,U,V,R,hA,hN,hU,hV,hP,hT,hg⟩:=h;have e1:V=V.take (j-i)++V.drop (j-i):=(List.take_append_drop (j-i) V).symm;have l1:(V.take (j-i)).length=j-i:=by rw [List.length_take];omega
 have l2:(V.drop (j-i)).length=i:=by rw [List.length_drop];omega
 generalize V.take (j-i)=V1 at *;generalize V.drop (j-i)=V2 at *;subst e1;refine (swapRange_at P U V1 V2 R _ (by simp) (by omega) g cap N hN.symm F hL hm wr hA _ _ _ ?_ ?_ ?_).mono fun e w' h=>⟨h.1,P,V2,V1,U++R,?_,?_,l2,l1,hP,?_,grown_trans hg h.2.1⟩
 ·omega
 ·omega
 ·omega
 ·exact h.2.2
 ·rw [← hN];simp only [List.length_append];omega
 ·rw [hT];simp
theorem rot_last {T:List Ch}{m i N g:Nat}{w wr:World}(cap:Nat) (F:Value) (hL:N≤cap) (hm:N≤281474976710656) (h:Rot T m i i N g w wr) :
  Calls Tryz.prog 193 #[.slice (some ⟨g,0,none⟩) N cap,.int .i64 ((m:Int)-i),.int .i64 m,.int .i64 i,F] wr fun e w'=>e=.returned (.tuple #[])∧w.grownBy w' (some g)∧Arr enc 3 w' g T:=by
 obtain⟨P,U,V,R,hA,hN,hU,hV,hP,hT,hg⟩:=h;refine (swapRange_at P U [] V R _ (by simp) (by omega) g cap N hN.symm F hL hm wr hA _ _ _ ?_ ?_ ?_).mono fun e w' h=>⟨h.1,grown_trans hg h.2.1,?_⟩
 ·omega
 ·simp only [List.length_nil];omega
 ·omega
 ·rw [hT];simpa using h.2.2
theorem Rot.bounds {T:List Ch}{m i j N g:Nat}{w wr:World}(h:Rot T m i j N g w wr):i≤m∧m+j≤N:=by
 obtain⟨P,U,V,R,hA,hN,hU,hV,hP,hT,hg⟩:=h;simp only [List.length_append] at hN;omega
theorem rotate_any (P X Y R D:List Ch) (hD:D=P++(X++(Y++R))) (hX:0<X.length) (hY:0<Y.length) (g cap N:Nat) (hN:N=D.length) (F:Value) (hL:N≤cap) (hm:N≤281474976710656) (w:World) (hA:Arr enc 3 w g D) (a m b:Int) (ha:a=(P.length:Int)) (hmm:m=(P.length:Int)+X.length) (hb:b=(P.length:Int)+X.length+Y.length) :
  Calls Tryz.prog 174 #[.slice (some ⟨g,0,none⟩) N cap,.int .i64 a,.int .i64 m,.int .i64 b,F] w fun e w'=>e=.returned (.tuple #[])∧w.grownBy w' (some g)∧Arr enc 3 w' g (P++(Y++(X++R))):=by
 have hr:=rot_start hD hN hA;have hlen:P.length+X.length+Y.length≤N:=by rw [hN,hD];simp only [List.length_append];omega
 generalize P++(Y++(X++R))=T at *;obtain⟨M,hM⟩:∃ M:Nat,M=P.length+X.length:=⟨_,rfl⟩;obtain⟨A0,hA0⟩:∃ M:Nat,M=P.length:=⟨_,rfl⟩;obtain⟨xl,hxl⟩:∃ n,n=X.length:=⟨_,rfl⟩;obtain⟨yl,hyl⟩:∃ n,n=Y.length:=⟨_,rfl⟩;rw [← hM,← hxl,← hyl] at hr;rw [← hxl] at hmm hb hX hlen hM;rw [← hyl] at hb hY hlen;rw [← hA0] at ha hmm hb hlen hM;have HR:=hid hr;have em:m=(M:Int):=by omega
 have eb:b=(M:Int)+yl:=by omega
 have b1:M+yl≤N:=by omega
 have b2:A0+xl=M:=by omega
 clear hA hD hN hmm hb hxl hyl hA0 hlen hr hM;subst ha em eb
 go_enter Tryz.func174,Tryz.ntmps174
 go_wp2_with fail
 go_loopw [10,11] (fun v u wr=>∃ i j:Nat,0<i∧0<j∧v=.int .i64 i∧u=.int .i64 j∧Hid (Rot T M i j N g w wr)) (fun v u _=>(intOf v).toNat+(intOf u).toNat)
 case atStart=>exact⟨xl,yl,hX,hY,by go_num,by go_num,HR.out⟩
 case round =>
  clear HR;obtain⟨i,j,hi,hj,rfl,rfl,hrot⟩:=hrel;have hbd:=(Hid.out hrot).bounds;obtain⟨hb1,hb2⟩:=hbd;by_cases hij:i=j
  ·subst hij;have hne:((i:Int) != (i:Int))=false:=by simp
   go_wp2_with (go_at_call 193;refine (rot_last cap F hL hm (Hid.out hrot)).mono ?_;rintro e w' ⟨rfl,hgw,hAw⟩)
   have HF:=hid hAw;clear hAw
   go_wp2
   exact⟨rfl,_,results_none rfl _ _ _,rfl,hgw,HF.out⟩
  ·have hne:((i:Int) != (j:Int))=true:=by rw [bne_iff_ne];omega
   by_cases hlt:j<i
   ·go_wp2_with (go_at_call 193;refine (rot_more cap F hL hm (Hid.out hrot) hlt).mono ?_;rintro e w' ⟨rfl,hrw⟩;have HW:=hid hrw;clear hrw)
    exact⟨⟨i-j,j,by omega,hj,by go_num,rfl,HW.out⟩,by simp [intOf];omega⟩
   ·have hlt2:i<j:=by omega
    go_wp2_with (go_at_call 193;refine (rot_less cap F hL hm (Hid.out hrot) hlt2).mono ?_;rintro e w' ⟨rfl,hrw⟩;have HW:=hid hrw;clear hrw)
    exact⟨⟨i,j-i,hi,by omega,rfl,by go_num,HW.out⟩,by simp [intOf];omega⟩
end Go.Proofs.YtopepebcnaikiaaGreatDoor.Sc
namespace Go.Proofs.YtopepebcnaikiaaGreatDoor.Sc
open Lib (hid)
open Go.ChangeShapes Go.WideShapes Go.ChangeAt Go.RowKit
open Ar Rg St
abbrev lt:=By.bl
theorem O:Ord lt:=By.blOrd
def InsO (P S R:List Ch) (q g:Nat) (w wr:World):Prop:=∃ A:List Ch,Arr enc 3 wr g (P++(A++(S.drop q++R)))∧A.length=q∧Srt key lt A∧Sm key (S.take q) A∧w.grownBy wr (some g)
def InsI (P S R:List Ch) (q j g:Nat) (w wr:World):Prop:=∃ (A1 A2:List Ch) (x:Ch),Arr enc 3 wr g (P++(A1++x::(A2++(S.drop (q+1)++R))))∧P.length+A1.length=j∧A1.length+A2.length=q∧Srt key lt (A1++A2)∧(∀ y∈A2,lt (key x) (key y)=true)∧Sm key (S.take (q+1)) (A1++x::A2)∧w.grownBy wr (some g)
theorem ins_in {P S R:List Ch}{q g:Nat}{w wr:World}(h:InsO P S R q g w wr) (hq:q<S.length):InsI P S R q (P.length+q) g w wr:=by
 obtain⟨A,hA,hl,hs,hm,hg⟩:=h;refine⟨A,[],S[q],?_,by omega,by simpa using hl,by simpa using hs,by simp,?_,hg⟩
 ·rw [List.drop_eq_getElem_cons hq] at hA;simpa only [List.nil_append,List.cons_append] using hA
 ·rw [List.take_succ_eq_append_getElem hq];exact Sm.append hm (Sm.refl _)
theorem ins_end {P S R:List Ch}{q j g:Nat}{w wr:World}(h:InsI P S R q j g w wr) (hj:j=P.length):InsO P S R (q+1) g w wr:=by
 obtain⟨A1,A2,x,hA,h1,h2,hs,hx,hm,hg⟩:=h;have hn:A1=[]:=List.eq_nil_of_length_eq_zero (by omega);subst hn;refine⟨x::A2,by simpa using hA,by simp at h2;simp [h2],?_,by simpa using hm,hg⟩;have:=Srt.put (key:=key) (lt:=lt) (a:=[]) (b:=A2) (x:=x) hs (by simp) (fun y hy=>O.asymm _ _ (hx y hy));simpa using this
theorem InsO.drewN {P S R:List Ch}{q g:Nat}{w wr:World}(h:InsO P S R q g w wr) (n:Nat):InsO P S R q g w (wr.drewN n):=by
 obtain⟨A,hA,hl,hs,hm,hg⟩:=h;exact⟨A,hA.block rfl,hl,hs,hm,⟨hg.os,hg.tape,hg.output,hg.size,hg.block⟩⟩
theorem cmp_at (x y:Ch) (c:Int) (hc:cf x y=c) (w:World):Calls Tryz.prog 76 #[.agg (enc x).toArray,.agg (enc y).toArray] w fun e w'=>e=.returned (.int .i64 c)∧w.grownBy w' none:=by
 subst hc;exact cmp_any x y w
theorem ins_look {P S R:List Ch}{q k g:Nat}{w wr:World}(h:InsI P S R q (k+1) g w wr) (hk:P.length≤k) (hq:q+1≤S.length) :
  ∃ (L:List Ch) (x y:Ch),Arr enc 3 wr g L∧L.length=(P++(S++R)).length∧L[k+1]?=some x∧L[k]?=some y∧w.grownBy wr (some g) ∧
   (lt (key x) (key y)=false→∀ wr',Arr enc 3 wr' g L→w.grownBy wr' (some g)→InsO P S R (q+1) g w wr') ∧
   (lt (key x) (key y)=true→∀ wr',Arr enc 3 wr' g ((L.set (k+1) y).set k x)→w.grownBy wr' (some g)→InsI P S R q k g w wr'):=by
 obtain⟨A1,A2,x,hA,h1,h2,hs,hx,hm,hg⟩:=h;obtain⟨B,y,rfl⟩:∃ B y,A1=B++[y]:=by
  rcases List.eq_nil_or_concat A1 with e | ⟨B,y,e⟩
  ·subst e;simp at h1;omega
  ·exact⟨B,y,by simpa using e⟩
 have hlB:(P++B).length=k:=by simp only [List.length_append,List.length_cons,List.length_nil] at h1 ⊢;omega
 have e1:P++(B++[y]++x::(A2++(S.drop (q+1)++R)))=(P++B)++y::(x::(A2++(S.drop (q+1)++R))):=by simp
 have e2:(P++B)++y::(x::(A2++(S.drop (q+1)++R)))=((P++B)++[y])++x::(A2++(S.drop (q+1)++R)):=by simp
 rw [e1] at hA;refine⟨_,x,y,hA,?_,?_,get_mid _ _ _ _ hlB.symm,hg,fun hlt wr' hA' hg'=>?_,fun hlt wr' hA' hg'=>?_⟩
 ·simp only [List.length_append,List.length_cons,List.length_drop,List.length_nil] at h1 h2 ⊢;omega
 ·rw [e2];exact get_mid _ _ _ _ (by rw [List.length_append,hlB];rfl)
 ·refine⟨(B++[y])++x::A2,?_,?_,?_,hm,hg'⟩
  ·have e:P++((B++[y])++x::A2++(S.drop (q+1)++R))=(P++B)++y::(x::(A2++(S.drop (q+1)++R))):=by simp
   rw [e];exact hA'
  ·simp only [List.length_append,List.length_cons,List.length_nil] at h2 ⊢;omega
  ·exact Srt.put hs (Srt.snoc_le O (Srt.append.1 hs).1 hlt) (fun z hz=>O.asymm _ _ (hx z hz))
 ·rw [e2,set_mid _ _ _ _ _ (by rw [List.length_append,hlB];rfl)] at hA';have e3:((P++B)++[y])++y::(A2++(S.drop (q+1)++R))=(P++B)++y::(y::(A2++(S.drop (q+1)++R))):=by simp
  rw [e3,set_mid _ _ _ _ _ hlB.symm] at hA';refine⟨B,y::A2,x,?_,?_,?_,?_,?_,?_,hg'⟩
  ·have e:P++(B++x::(y::A2++(S.drop (q+1)++R)))=(P++B)++x::(y::(A2++(S.drop (q+1)++R))):=by simp
   rw [e];exact hA'
  ·rw [List.length_append] at hlB;omega
  ·simp only [List.length_append,List.length_cons,List.length_nil] at h2 ⊢;omega
  ·have e:B++y::A2=B++[y]++A2:=by simp
   rw [e];exact hs
  ·intro z hz;rcases List.mem_cons.1 hz with rfl | hz
   ·exact hlt
   ·exact hx z hz
  ·refine hm.trans ?_;have e:B++[y]++x::A2=B++([y]++[x])++A2:=by simp
   have e':B++x::y::A2=B++([x]++[y])++A2:=by simp
   rw [e,e'];refine Sm.append (Sm.append (Sm.refl _) (Sm.swap fun a ha b hb=>?_)) (Sm.refl _);simp at ha hb;subst ha hb;exact (O.ne hlt).symm
theorem insertion_any (P S R D:List Ch) (hD:D=P++(S++R)) (hS:0<S.length) (g cap N:Nat) (hN:N=D.length) (hL:N≤cap) (hm:N≤281474976710656) (w:World) (hA:Arr enc 3 w g D) (a b:Int) (ha:a=(P.length:Int)) (hb:b=(P.length:Int)+S.length) :
  Calls Tryz.prog 147 #[.slice (some ⟨g,0,none⟩) N cap,.int .i64 a,.int .i64 b,CMP] w fun e w'=>e=.returned (.tuple #[])∧∃ S',Arr enc 3 w' g (P++(S'++R))∧S'.length=S.length∧Srt key lt S'∧Sm key S S'∧w.grownBy w' (some g):=by
 have h1:InsO P S R 1 g w w:=by
  refine⟨S.take 1,?_,by rw [List.length_take];omega,Srt.short (by rw [List.length_take];omega),Sm.refl _,grown_refl _ _⟩;have e:S.take 1++(S.drop 1++R)=S++R:=by rw [← List.append_assoc,List.take_append_drop]
  rw [e,← hD];exact hA
 have H1:=hid h1;have hNN:N=(P++(S++R)).length:=by rw [hN,hD]
 have HN:=hid hNN;have hlen:P.length+S.length≤N:=by rw [hNN];simp only [List.length_append];omega
 obtain⟨A0,hA0⟩:∃ M:Nat,M=P.length:=⟨_,rfl⟩;obtain⟨sl,hsl⟩:∃ n,n=S.length:=⟨_,rfl⟩;rw [← hA0] at ha hb hlen;rw [← hsl] at hb hlen hS;have HA0:=hid hA0;have HSL:=hid hsl;clear hA hD hN h1 hNN hA0 hsl;subst ha hb;unfold CMP
 go_enter Tryz.func147,Tryz.ntmps147
 go_wp2_with fail
 go_loopw [8] (fun v wr=>∃ q:Nat,1≤q∧q≤sl∧v=.int .i64 ((A0:Int)+q)∧Hid (InsO P S R q g w wr)) (fun v _=>A0+sl-(intOf v).toNat)
 case atStart=>exact⟨1,Nat.le_refl _,hS,by go_num,H1.out⟩
 case round =>
  clear H1;obtain⟨q,hq1,hq2,rfl,ho⟩:=hrel;by_cases hlt:q<sl
  ·go_wp2_with fail
   go_loopw [9] (fun v wi=>∃ j:Nat,A0≤j∧j≤A0+q∧v=.int .i64 j∧Hid (InsI P S R q j g w wi)) (fun v _=>(intOf v).toNat)
   case atStart=>exact⟨A0+q,by omega,Nat.le_refl _,by go_num,by have:=ins_in (Hid.out ho) (by rw [← HSL.out];exact hlt);rw [← HA0.out] at this;exact this⟩
   case round =>
    obtain⟨j,hj1,hj2,rfl,hi⟩:=hrel;by_cases hj:j=A0
    ·subst hj;have hgo:decide ((j:Int)<(j:Int))=false:=by simp
     have hou:=hid (ins_end (Hid.out hi) HA0.out)
     go_wp2_with fail
     go_quiet (fail)
     have HOU:=hid (hou.out.drewN nq);clear hou hi;generalize World.drewN _ _=W1 at *
     go_wp2
     exact⟨⟨q+1,by omega,by omega,by go_num,HOU.out⟩,by simp [intOf];omega⟩
    ·obtain⟨k,rfl⟩:∃ k,j=k+1:=⟨j-1,by omega⟩;obtain⟨L,x,y,hAL,hLl,hx,hy,hgr,hno,hyes⟩:=ins_look (Hid.out hi) (by rw [← HA0.out];omega) (by rw [← HSL.out];omega);rw [← HN.out] at hLl;obtain⟨c,hcf⟩:∃ c,cf x y=c:=⟨_,rfl⟩;have hcl:=cf_lt x y;rw [hcf] at hcl;have HI:=hi;have q1:(0:Int)≤(k:Int)+1:=by omega
     have q2:(k:Int)+1<(N:Int):=by have:=(List.getElem?_eq_some_iff.1 hx).1;omega
     have q3:(0:Int)≤(k:Int):=by omega
     have q4:(k:Int)<(N:Int):=by omega
     have q5:(A0:Int)<(k:Int)+1:=by omega
     by_cases hlt2:lt (key x) (key y)=true
     ·have hc0:c<0:=hcl.2 hlt2;clear hcl
      go_wp2_with fail
      refine wp_region_held_drew (S:=fun w'=>Arr enc 3 w' g L∧w.grownBy w' (some g)) (by kernel_rfl) ⟨hAL.drew,grown_trans hgr (grown_drew _ _)⟩ (fun hHeld=>?_);refine take_at 0 18 (.int .i64 ((k:Int)+1)) rfl (by rfl) (by kernel_rfl) (by kernel_rfl) (by kernel_rfl) (fun _ _ _ h=>h) (Or.inl ⟨by rfl,fun w' hSw=>by go_simp⟩) (by assumption) ?_;simp only [Gb3a,Gb3b,Gb3c];refine take_at 1 19 (.int .i64 A0) rfl (by rfl) (by kernel_rfl) (by kernel_rfl) (by kernel_rfl) (fun _ _ _ h=>h) (Or.inl ⟨by rfl,fun w' hSw=>by go_simp⟩) (by assumption) ?_;simp only [Gb3a,Gb3b,Gb3c];refine take_at 2 20 (.bool true) rfl (by rfl) (by kernel_rfl) (by kernel_rfl) (by kernel_rfl) (fun _ _ _ h=>h) (Or.inl ⟨by rfl,fun w' hSw=>by go_simp⟩) (by assumption) ?_;simp only [Gb3a,Gb3b,Gb3c];refine take_at 3 21 (.bool true) rfl (by rfl) (by kernel_rfl) (by kernel_rfl) (by kernel_rfl) (fun _ _ _ h=>h) (Or.inl ⟨by rfl,fun w' hSw=>by go_simp⟩) (by assumption) ?_;simp only [Gb3a,Gb3b,Gb3c];refine take_at 4 22 (.func (.func 76) #[] #[]) rfl (by rfl) (by kernel_rfl) (by kernel_rfl) (by kernel_rfl) (fun _ _ _ h=>h) (Or.inl ⟨by rfl,fun w' hSw=>by go_simp⟩) (by assumption) ?_;simp only [Gb3a,Gb3b,Gb3c];refine take_at 5 23 (.slice (some ⟨g,0,none⟩) N cap) rfl (by rfl) (by kernel_rfl) (by kernel_rfl) (by kernel_rfl) (fun _ _ _ h=>h) (Or.inl ⟨by rfl,fun w' hSw=>by go_simp⟩) (by assumption) ?_;simp only [Gb3a,Gb3b,Gb3c];refine take_at 6 24 (.int .i64 ((k:Int)+1)) rfl (by rfl) (by kernel_rfl) (by kernel_rfl) (by kernel_rfl) (fun _ _ _ h=>h) (Or.inl ⟨by rfl,fun w' hSw=>by go_simp⟩) (by assumption) ?_;simp only [Gb3a,Gb3b,Gb3c];refine take_at 7 25 (.pointer (some ⟨g,(k+1)*3,none⟩)) rfl (by rfl) (by kernel_rfl) (by kernel_rfl) (by kernel_rfl) (fun _ _ _ h=>h) (Or.inl ⟨by rfl,fun w' hSw=>by go_simp⟩) (by assumption) ?_;simp only [Gb3a,Gb3b,Gb3c];refine take_at 8 26 (.agg (enc x).toArray) rfl (by rfl) (by kernel_rfl) (by kernel_rfl) (by kernel_rfl) (fun _ _ _ h=>h) (yieldsIf_load_mid (by rfl) _ _ rfl _ _ rfl (enc x) _ (fun w' hSw=>hSw.1.range hx) Tryz.underlying138 rfl (by rw [enc_len];exact infoE)) (by assumption) ?_;simp only [Gb3a,Gb3b,Gb3c];refine take_at 9 27 (.slice (some ⟨g,0,none⟩) N cap) rfl (by rfl) (by kernel_rfl) (by kernel_rfl) (by kernel_rfl) (fun _ _ _ h=>h) (Or.inl ⟨by rfl,fun w' hSw=>by go_simp⟩) (by assumption) ?_;simp only [Gb3a,Gb3b,Gb3c];refine take_at 10 28 (.int .i64 ((k:Int)+1)) rfl (by rfl) (by kernel_rfl) (by kernel_rfl) (by kernel_rfl) (fun _ _ _ h=>h) (Or.inl ⟨by rfl,fun w' hSw=>by go_simp⟩) (by assumption) ?_;simp only [Gb3a,Gb3b,Gb3c];refine take_at 11 29 (.int .i64 k) rfl (by rfl) (by kernel_rfl) (by kernel_rfl) (by kernel_rfl) (fun _ _ _ h=>h) (Or.inl ⟨by rfl,fun w' hSw=>by go_simp<;>exact IntWalk.i64_in _ ⟨by omega,by omega⟩⟩) (by assumption) ?_;simp only [Gb3a,Gb3b,Gb3c];refine take_at 12 30 (.pointer (some ⟨g,k*3,none⟩)) rfl (by rfl) (by kernel_rfl) (by kernel_rfl) (by kernel_rfl) (fun _ _ _ h=>h) (Or.inl ⟨by rfl,fun w' hSw=>by go_simp⟩) (by assumption) ?_;simp only [Gb3a,Gb3b,Gb3c]
      refine take_at 13 31 (.agg (enc y).toArray) rfl (by rfl) (by kernel_rfl) (by kernel_rfl) (by kernel_rfl) (fun _ _ _ h=>h) (yieldsIf_load_mid (by rfl) _ _ rfl _ _ rfl (enc y) _ (fun w' hSw=>hSw.1.range hy) Tryz.underlying138 rfl (by rw [enc_len];exact infoE)) (by assumption) ?_;simp only [Gb3a,Gb3b,Gb3c];refine wpAnyH_ready (rs:=[14]) (by kernel_rfl) (by simp) ?_;refine AllReadyH.cons rfl (fun K hK=>?_) AllReadyH.nil
      go_simp
      go_wp2_with (go_at_call 76;refine (cmp_at x y c hcf _).mono ?_;rintro e w5 ⟨rfl,hg5⟩)
      refine hK.out _ _ ⟨hHeld.1.grown0 enc_len (by omega) hg5,grown_trans hHeld.2 (grown_weak hg5 _)⟩ (fun hHeld=>?_);clear hK K;refine take_at 15 33 (.bool true) rfl (by rfl) (by kernel_rfl) (by kernel_rfl) (by kernel_rfl) (fun _ _ _ h=>h) (Or.inl ⟨by rfl,fun w' hSw=>by go_simp⟩) (by assumption) ?_;simp only [Gb3a,Gb3b,Gb3c];refine take_at 16 34 (.bool true) rfl (by rfl) (by kernel_rfl) (by kernel_rfl) (by kernel_rfl) (fun _ _ _ h=>h) (Or.inl ⟨by rfl,fun w' hSw=>by go_simp⟩) (by assumption) ?_;simp only [Gb3a,Gb3b,Gb3c];refine wpAnyH_done (by kernel_rfl) ?_ _;obtain⟨hHeld2,hHeld3⟩:=hHeld;have HA1:=hid hHeld2.drew;have HG1:=hid (grown_trans hHeld3 (grown_drew _ (some g)));have HYES:=hid (hyes hlt2);clear hHeld2 hHeld3 hAL hgr hno hyes hcf
      go_wp2_with fail
      refine wp_region_held_drew (S:=fun _=>True) (by kernel_rfl) trivial (fun hHeld=>?_);refine take_at 0 37 (.slice (some ⟨g,0,none⟩) N cap) rfl (by rfl) (by kernel_rfl) (by kernel_rfl) (by kernel_rfl) (fun _ _ _ h=>h) (Or.inl ⟨by rfl,fun w' hSw=>by go_simp⟩) (by assumption) ?_;simp only [Gb3a,Gb3b,Gb3c];refine take_at 1 38 (.int .i64 ((k:Int)+1)) rfl (by rfl) (by kernel_rfl) (by kernel_rfl) (by kernel_rfl) (fun _ _ _ h=>h) (Or.inl ⟨by rfl,fun w' hSw=>by go_simp⟩) (by assumption) ?_;simp only [Gb3a,Gb3b,Gb3c];refine take_at 2 39 (.slice (some ⟨g,0,none⟩) N cap) rfl (by rfl) (by kernel_rfl) (by kernel_rfl) (by kernel_rfl) (fun _ _ _ h=>h) (Or.inl ⟨by rfl,fun w' hSw=>by go_simp⟩) (by assumption) ?_;simp only [Gb3a,Gb3b,Gb3c];refine take_at 3 40 (.int .i64 ((k:Int)+1)) rfl (by rfl) (by kernel_rfl) (by kernel_rfl) (by kernel_rfl) (fun _ _ _ h=>h) (Or.inl ⟨by rfl,fun w' hSw=>by go_simp⟩) (by assumption) ?_;simp only [Gb3a,Gb3b,Gb3c];refine take_at 4 41 (.int .i64 k) rfl (by rfl) (by kernel_rfl) (by kernel_rfl) (by kernel_rfl) (fun _ _ _ h=>h) (Or.inl ⟨by rfl,fun w' hSw=>by go_simp<;>exact IntWalk.i64_in _ ⟨by omega,by omega⟩⟩) (by assumption) ?_;simp only [Gb3a,Gb3b,Gb3c];refine take_at 5 42 (.slice (some ⟨g,0,none⟩) N cap) rfl (by rfl) (by kernel_rfl) (by kernel_rfl) (by kernel_rfl) (fun _ _ _ h=>h) (Or.inl ⟨by rfl,fun w' hSw=>by go_simp⟩) (by assumption) ?_;simp only [Gb3a,Gb3b,Gb3c];refine take_at 6 43 (.int .i64 ((k:Int)+1)) rfl (by rfl) (by kernel_rfl) (by kernel_rfl) (by kernel_rfl) (fun _ _ _ h=>h) (Or.inl ⟨by rfl,fun w' hSw=>by go_simp⟩) (by assumption) ?_;simp only [Gb3a,Gb3b,Gb3c];refine take_at 7 44 (.int .i64 k) rfl (by rfl) (by kernel_rfl) (by kernel_rfl) (by kernel_rfl) (fun _ _ _ h=>h) (Or.inl ⟨by rfl,fun w' hSw=>by go_simp<;>exact IntWalk.i64_in _ ⟨by omega,by omega⟩⟩) (by assumption) ?_;simp only [Gb3a,Gb3b,Gb3c];refine take_at 8 45 (.pointer (some ⟨g,k*3,none⟩)) rfl (by rfl) (by kernel_rfl) (by kernel_rfl) (by kernel_rfl) (fun _ _ _ h=>h) (Or.inl ⟨by rfl,fun w' hSw=>by go_simp⟩) (by assumption) ?_;simp only [Gb3a,Gb3b,Gb3c];refine take_at 10 47 (.slice (some ⟨g,0,none⟩) N cap) rfl (by rfl) (by kernel_rfl) (by kernel_rfl) (by kernel_rfl) (fun _ _ _ h=>h) (Or.inl ⟨by rfl,fun w' hSw=>by go_simp⟩) (by assumption) ?_;simp only [Gb3a,Gb3b,Gb3c];refine take_at 11 48 (.int .i64 ((k:Int)+1)) rfl (by rfl) (by kernel_rfl) (by kernel_rfl) (by kernel_rfl) (fun _ _ _ h=>h) (Or.inl ⟨by rfl,fun w' hSw=>by go_simp⟩) (by assumption) ?_;simp only [Gb3a,Gb3b,Gb3c];refine take_at 12 49 (.pointer (some ⟨g,(k+1)*3,none⟩)) rfl (by rfl) (by kernel_rfl) (by kernel_rfl) (by kernel_rfl) (fun _ _ _ h=>h) (Or.inl ⟨by rfl,fun w' hSw=>by go_simp⟩) (by assumption) ?_;simp only [Gb3a,Gb3b,Gb3c];have HAd:=HA1;have HGd:=HG1;generalize w5.drew=X at *;have ll:k+1<L.length:=(List.getElem?_eq_some_iff.1 hx).1;have lr:k<(L.set (k+1) y).length:=by rw [List.length_set];omega
      have H1:=hid (HAd.out.store enc_len ll y);have H2:=hid (H1.out.store enc_len lr x);have G2:=hid (grown_trans (grown_trans HGd.out (grown_setCells X g ((k+1)*3) (enc y))) (grown_setCells _ g (k*3) (enc x)));have HX:=hid (HAd.out.range hx);have HY:=hid (HAd.out.range hy);refine wpAnyH_ready (rs:=[9,13]) (by kernel_rfl) (by simp) ?_;refine all_at 9 46 (.agg (enc y).toArray) X rfl (by rfl) (by rfl) (load_run 138 (.tmp 45) rfl g (k*3) rfl (enc y) _ HY.out Tryz.underlying138 rfl (by rw [enc_len];exact infoE)) trivial (fun hHeld=>?_) ?_
      ·simp only [Gb3a,Gb3b,Gb3c];refine wpAnyH_ready (rs:=[13]) (by kernel_rfl) (by simp) ?_;refine all_at 13 50 (.agg (enc x).toArray) X rfl (by rfl) (by rfl) (load_run 138 (.tmp 49) rfl g ((k+1)*3) rfl (enc x) _ HX.out Tryz.underlying138 rfl (by rw [enc_len];exact infoE)) trivial (fun hHeld=>?_) all_nil;simp only [Gb3a,Gb3b,Gb3c];refine take_at 14 51 (.pointer (some ⟨g,(k+1)*3,none⟩)) rfl (by rfl) (by kernel_rfl) (by kernel_rfl) (by kernel_rfl) (fun _ _ _ h=>h) (Or.inl ⟨by rfl,fun w' hSw=>by go_simp⟩) (by assumption) ?_;simp only [Gb3a,Gb3b,Gb3c];refine wpAnyH_ready (rs:=[15]) (by kernel_rfl) (by simp) ?_;refine all_wp 15 _ (X.setCells g ((k+1)*3) (enc y)) rfl (by rfl) (fun K' hk=>wp_store_mid 138 (.tmp 51) (.tmp 46) rfl g ((k+1)*3) (enc y).toArray rfl rfl (HAd.out.there enc_len ll) (by rw [List.size_toArray,enc_len];exact infoE) (all_oneCell_toArray (enc_one _)) (by simpa only [List.toList_toArray] using hk)) trivial (fun hHeld=>?_) all_nil;simp only [Act.put];refine take_at 16 52 (.pointer (some ⟨g,k*3,none⟩)) rfl (by rfl) (by kernel_rfl) (by kernel_rfl) (by kernel_rfl) (fun _ _ _ h=>h) (Or.inl ⟨by rfl,fun w' hSw=>by go_simp⟩) (by assumption) ?_;simp only [Gb3a,Gb3b,Gb3c];refine wpAnyH_ready (rs:=[17]) (by kernel_rfl) (by simp) ?_;refine all_wp 17 _ ((X.setCells g ((k+1)*3) (enc y)).setCells g (k*3) (enc x)) rfl (by rfl) (fun K' hk=>wp_store_mid 138 (.tmp 52) (.tmp 50) rfl g (k*3) (enc x).toArray rfl rfl (H1.out.there enc_len lr) (by rw [List.size_toArray,enc_len];exact infoE) (all_oneCell_toArray (enc_one _)) (by simpa only [List.toList_toArray] using hk)) trivial (fun hHeld=>?_) all_nil;simp only [Act.put];refine wpAnyH_done (by kernel_rfl) ?_ _;have HIN:=hid (HYES.out _ H2.out G2.out);generalize ((X.setCells g ((k+1)*3) (enc y)).setCells g (k*3) (enc x))=Z at *;clear H1 H2 G2 HA1 HG1 HAd HGd HX HY
       go_wp2
       exact⟨⟨k,by omega,by omega,by go_num,HIN.out⟩,by simp [intOf]<;>omega⟩
      refine all_at 13 50 (.agg (enc x).toArray) X rfl (by rfl) (by rfl) (load_run 138 (.tmp 49) rfl g ((k+1)*3) rfl (enc x) _ HX.out Tryz.underlying138 rfl (by rw [enc_len];exact infoE)) trivial (fun hHeld=>?_) all_nil;simp only [Gb3a,Gb3b,Gb3c];refine wpAnyH_ready (rs:=[9]) (by kernel_rfl) (by simp) ?_;refine all_at 9 46 (.agg (enc y).toArray) X rfl (by rfl) (by rfl) (load_run 138 (.tmp 45) rfl g (k*3) rfl (enc y) _ HY.out Tryz.underlying138 rfl (by rw [enc_len];exact infoE)) trivial (fun hHeld=>?_) all_nil;simp only [Gb3a,Gb3b,Gb3c];refine take_at 14 51 (.pointer (some ⟨g,(k+1)*3,none⟩)) rfl (by rfl) (by kernel_rfl) (by kernel_rfl) (by kernel_rfl) (fun _ _ _ h=>h) (Or.inl ⟨by rfl,fun w' hSw=>by go_simp⟩) (by assumption) ?_;simp only [Gb3a,Gb3b,Gb3c];refine wpAnyH_ready (rs:=[15]) (by kernel_rfl) (by simp) ?_;refine all_wp 15 _ (X.setCells g ((k+1)*3) (enc y)) rfl (by rfl) (fun K' hk=>wp_store_mid 138 (.tmp 51) (.tmp 46) rfl g ((k+1)*3) (enc y).toArray rfl rfl (HAd.out.there enc_len ll) (by rw [List.size_toArray,enc_len];exact infoE) (all_oneCell_toArray (enc_one _)) (by simpa only [List.toList_toArray] using hk)) trivial (fun hHeld=>?_) all_nil;simp only [Act.put];refine take_at 16 52 (.pointer (some ⟨g,k*3,none⟩)) rfl (by rfl) (by kernel_rfl) (by kernel_rfl) (by kernel_rfl) (fun _ _ _ h=>h) (Or.inl ⟨by rfl,fun w' hSw=>by go_simp⟩) (by assumption) ?_;simp only [Gb3a,Gb3b,Gb3c];refine wpAnyH_ready (rs:=[17]) (by kernel_rfl) (by simp) ?_;refine all_wp 17 _ ((X.setCells g ((k+1)*3) (enc y)).setCells g (k*3) (enc x)) rfl (by rfl) (fun K' hk=>wp_store_mid 138 (.tmp 52) (.tmp 50) rfl g (k*3) (enc x).toArray rfl rfl (H1.out.there enc_len lr) (by rw [List.size_toArray,enc_len];exact infoE) (all_oneCell_toArray (enc_one _)) (by simpa only [List.toList_toArray] using hk)) trivial (fun hHeld=>?_) all_nil;simp only [Act.put];refine wpAnyH_done (by kernel_rfl) ?_ _;have HIN:=hid (HYES.out _ H2.out G2.out);generalize ((X.setCells g ((k+1)*3) (enc y)).setCells g (k*3) (enc x))=Z at *;clear H1 H2 G2 HA1 HG1 HAd HGd HX HY
      go_wp2
      exact⟨⟨k,by omega,by omega,by go_num,HIN.out⟩,by simp [intOf]<;>omega⟩
     ·have hc0:¬ c<0:=fun h=>hlt2 (hcl.1 h)
      have hlt2:lt (key x) (key y)=false:=by simpa using hlt2
      have hc1:0≤c:=by omega
      clear hcl
      go_wp2_with fail
      refine wp_region_held_drew (S:=fun w'=>Arr enc 3 w' g L∧w.grownBy w' (some g)) (by kernel_rfl) ⟨hAL.drew,grown_trans hgr (grown_drew _ _)⟩ (fun hHeld=>?_);refine take_at 0 18 (.int .i64 ((k:Int)+1)) rfl (by rfl) (by kernel_rfl) (by kernel_rfl) (by kernel_rfl) (fun _ _ _ h=>h) (Or.inl ⟨by rfl,fun w' hSw=>by go_simp⟩) (by assumption) ?_;simp only [Gb3a,Gb3b,Gb3c];refine take_at 1 19 (.int .i64 A0) rfl (by rfl) (by kernel_rfl) (by kernel_rfl) (by kernel_rfl) (fun _ _ _ h=>h) (Or.inl ⟨by rfl,fun w' hSw=>by go_simp⟩) (by assumption) ?_;simp only [Gb3a,Gb3b,Gb3c];refine take_at 2 20 (.bool true) rfl (by rfl) (by kernel_rfl) (by kernel_rfl) (by kernel_rfl) (fun _ _ _ h=>h) (Or.inl ⟨by rfl,fun w' hSw=>by go_simp⟩) (by assumption) ?_;simp only [Gb3a,Gb3b,Gb3c];refine take_at 3 21 (.bool true) rfl (by rfl) (by kernel_rfl) (by kernel_rfl) (by kernel_rfl) (fun _ _ _ h=>h) (Or.inl ⟨by rfl,fun w' hSw=>by go_simp⟩) (by assumption) ?_;simp only [Gb3a,Gb3b,Gb3c];refine take_at 4 22 (.func (.func 76) #[] #[]) rfl (by rfl) (by kernel_rfl) (by kernel_rfl) (by kernel_rfl) (fun _ _ _ h=>h) (Or.inl ⟨by rfl,fun w' hSw=>by go_simp⟩) (by assumption) ?_;simp only [Gb3a,Gb3b,Gb3c];refine take_at 5 23 (.slice (some ⟨g,0,none⟩) N cap) rfl (by rfl) (by kernel_rfl) (by kernel_rfl) (by kernel_rfl) (fun _ _ _ h=>h) (Or.inl ⟨by rfl,fun w' hSw=>by go_simp⟩) (by assumption) ?_;simp only [Gb3a,Gb3b,Gb3c];refine take_at 6 24 (.int .i64 ((k:Int)+1)) rfl (by rfl) (by kernel_rfl) (by kernel_rfl) (by kernel_rfl) (fun _ _ _ h=>h) (Or.inl ⟨by rfl,fun w' hSw=>by go_simp⟩) (by assumption) ?_;simp only [Gb3a,Gb3b,Gb3c];refine take_at 7 25 (.pointer (some ⟨g,(k+1)*3,none⟩)) rfl (by rfl) (by kernel_rfl) (by kernel_rfl) (by kernel_rfl) (fun _ _ _ h=>h) (Or.inl ⟨by rfl,fun w' hSw=>by go_simp⟩) (by assumption) ?_;simp only [Gb3a,Gb3b,Gb3c];refine take_at 8 26 (.agg (enc x).toArray) rfl (by rfl) (by kernel_rfl) (by kernel_rfl) (by kernel_rfl) (fun _ _ _ h=>h) (yieldsIf_load_mid (by rfl) _ _ rfl _ _ rfl (enc x) _ (fun w' hSw=>hSw.1.range hx) Tryz.underlying138 rfl (by rw [enc_len];exact infoE)) (by assumption) ?_;simp only [Gb3a,Gb3b,Gb3c];refine take_at 9 27 (.slice (some ⟨g,0,none⟩) N cap) rfl (by rfl) (by kernel_rfl) (by kernel_rfl) (by kernel_rfl) (fun _ _ _ h=>h) (Or.inl ⟨by rfl,fun w' hSw=>by go_simp⟩) (by assumption) ?_;simp only [Gb3a,Gb3b,Gb3c];refine take_at 10 28 (.int .i64 ((k:Int)+1)) rfl (by rfl) (by kernel_rfl) (by kernel_rfl) (by kernel_rfl) (fun _ _ _ h=>h) (Or.inl ⟨by rfl,fun w' hSw=>by go_simp⟩) (by assumption) ?_;simp only [Gb3a,Gb3b,Gb3c];refine take_at 11 29 (.int .i64 k) rfl (by rfl) (by kernel_rfl) (by kernel_rfl) (by kernel_rfl) (fun _ _ _ h=>h) (Or.inl ⟨by rfl,fun w' hSw=>by go_simp<;>exact IntWalk.i64_in _ ⟨by omega,by omega⟩⟩) (by assumption) ?_;simp only [Gb3a,Gb3b,Gb3c];refine take_at 12 30 (.pointer (some ⟨g,k*3,none⟩)) rfl (by rfl) (by kernel_rfl) (by kernel_rfl) (by kernel_rfl) (fun _ _ _ h=>h) (Or.inl ⟨by rfl,fun w' hSw=>by go_simp⟩) (by assumption) ?_;simp only [Gb3a,Gb3b,Gb3c]
      refine take_at 13 31 (.agg (enc y).toArray) rfl (by rfl) (by kernel_rfl) (by kernel_rfl) (by kernel_rfl) (fun _ _ _ h=>h) (yieldsIf_load_mid (by rfl) _ _ rfl _ _ rfl (enc y) _ (fun w' hSw=>hSw.1.range hy) Tryz.underlying138 rfl (by rw [enc_len];exact infoE)) (by assumption) ?_;simp only [Gb3a,Gb3b,Gb3c];refine wpAnyH_ready (rs:=[14]) (by kernel_rfl) (by simp) ?_;refine AllReadyH.cons rfl (fun K hK=>?_) AllReadyH.nil
      go_simp
      go_wp2_with (go_at_call 76;refine (cmp_at x y c hcf _).mono ?_;rintro e w5 ⟨rfl,hg5⟩)
      refine hK.out _ _ ⟨hHeld.1.grown0 enc_len (by omega) hg5,grown_trans hHeld.2 (grown_weak hg5 _)⟩ (fun hHeld=>?_);clear hK K;refine take_at 15 33 (.bool false) rfl (by rfl) (by kernel_rfl) (by kernel_rfl) (by kernel_rfl) (fun _ _ _ h=>h) (Or.inl ⟨by rfl,fun w' hSw=>by go_simp⟩) (by assumption) ?_;simp only [Gb3a,Gb3b,Gb3c];refine take_at 16 34 (.bool false) rfl (by rfl) (by kernel_rfl) (by kernel_rfl) (by kernel_rfl) (fun _ _ _ h=>h) (Or.inl ⟨by rfl,fun w' hSw=>by go_simp⟩) (by assumption) ?_;simp only [Gb3a,Gb3b,Gb3c];refine wpAnyH_done (by kernel_rfl) ?_ _;have HOU:=hid (hno hlt2 _ hHeld.1 hHeld.2);clear hHeld hno hyes hAL hgr
      go_wp2
      exact⟨⟨q+1,by omega,by omega,by go_num,HOU.out⟩,by simp [intOf];omega⟩
  ·obtain rfl:q=sl:=by omega
   obtain⟨A,h1,h2,h3,h4,h5⟩:=Hid.out ho;have h6:Arr enc 3 wr g (P++(A++R))∧A.length=S.length∧Srt key lt A∧Sm key S A∧w.grownBy wr (some g):=by
    rw [HSL.out,List.drop_length,List.nil_append] at h1;rw [HSL.out,List.take_length] at h4;exact⟨h1,by rw [h2,HSL.out],h3,h4,h5⟩
   have HF:=hid h6;clear h1 h2 h3 h4 h5 h6 ho
   go_wp2
   exact⟨rfl,_,results_none rfl _ _ _,rfl,A,HF.out⟩
def Bs (G:Nat→Bool) (L0 H0 lo hi:Nat):Prop:=L0≤lo∧lo≤hi∧hi≤H0∧(lo=L0∨G (lo-1)=false)∧(hi=H0∨G hi=true)
theorem Bs.start (G:Nat→Bool){L0 H0:Nat}(h:L0≤H0):Bs G L0 H0 L0 H0:=⟨Nat.le_refl _,h,Nat.le_refl _,.inl rfl,.inl rfl⟩
theorem Bs.up {G:Nat→Bool}{L0 H0 lo hi c:Nat}(h:Bs G L0 H0 lo hi) (h1:lo≤c) (h2:c<hi) (hc:G c=false):Bs G L0 H0 (c+1) hi:=⟨by have:=h.1;omega,by omega,h.2.2.1,.inr hc,h.2.2.2.2⟩
theorem Bs.down {G:Nat→Bool}{L0 H0 lo hi c:Nat}(h:Bs G L0 H0 lo hi) (h1:lo≤c) (h2:c<hi) (hc:G c=true):Bs G L0 H0 lo c:=⟨h.1,h1,by have:=h.2.2.1;omega,h.2.2.2.1,.inr hc⟩
def Merged (P X Y R:List Ch) (g:Nat) (w w':World):Prop:=∃ Z:List Ch,Arr enc 3 w' g (P++(Z++R))∧Z.length=X.length+Y.length∧Srt key lt Z∧Sm key (X++Y) Z∧w.grownBy w' (some g)
theorem take_lt {Y:List Ch}{p:Nat}{k:List UInt8}(hs:Srt key lt Y) (h:p=0∨∃ z,Y[p-1]?=some z∧lt (key z) k=true):∀ y∈Y.take p,lt (key y) k=true:=by
 rcases h with rfl | ⟨z,hz,hlt⟩
 ·simp
 ·rcases Nat.eq_zero_or_pos p with h0 | h0
  ·subst h0;simp
  ·intro y hy;have e:Y.take p=Y.take (p-1)++[z]:=by
    rw [show p=(p-1)+1 by omega,List.take_add_one,show (p-1+1)-1=p-1 by omega];rw [hz];rfl
   rw [e] at hy;have hs':Srt key lt (Y.take (p-1)++[z]):=by rw [← e];exact List.Pairwise.sublist (List.take_sublist _ _) hs
   rcases List.mem_append.1 hy with hy | hy
   ·exact O.le_lt ((Srt.append.1 hs').2.2 y hy z (by simp)) hlt
   ·simp at hy;subst hy;exact hlt
theorem take_ge {Y:List Ch}{p:Nat}{k:List UInt8}(hs:Srt key lt Y) (h:p=0∨∃ z,Y[p-1]?=some z∧lt k (key z)=false):∀ y∈Y.take p,lt k (key y)=false:=by
 rcases h with rfl | ⟨z,hz,hlt⟩
 ·simp
 ·rcases Nat.eq_zero_or_pos p with h0 | h0
  ·subst h0;simp
  ·intro y hy;have e:Y.take p=Y.take (p-1)++[z]:=by
    rw [show p=(p-1)+1 by omega,List.take_add_one,show (p-1+1)-1=p-1 by omega];rw [hz];rfl
   rw [e] at hy;have hs':Srt key lt (Y.take (p-1)++[z]):=by rw [← e];exact List.Pairwise.sublist (List.take_sublist _ _) hs
   rcases List.mem_append.1 hy with hy | hy
   ·exact O.le_trans ((Srt.append.1 hs').2.2 y hy z (by simp)) hlt
   ·simp at hy;subst hy;exact hlt
theorem drop_ge {Y:List Ch}{p:Nat}{k:List UInt8}(hs:Srt key lt Y) (h:p=Y.length∨∃ z,Y[p]?=some z∧lt (key z) k=false):∀ y∈Y.drop p,lt (key y) k=false:=by
 rcases h with rfl | ⟨z,hz,hlt⟩
 ·simp
 ·obtain⟨hp,e⟩:=List.getElem?_eq_some_iff.1 hz;have e2:Y.drop p=z::Y.drop (p+1):=by rw [List.drop_eq_getElem_cons hp,e]
  have hs':Srt key lt (z::Y.drop (p+1)):=by rw [← e2];exact List.Pairwise.sublist (List.drop_sublist _ _) hs
  rw [e2];intro y hy;rcases List.mem_cons.1 hy with rfl | hy
  ·exact hlt
  ·have:Srt key lt ([z]++Y.drop (p+1)):=hs';exact O.le_trans hlt ((Srt.append.1 this).2.2 z (by simp) y hy)
theorem drop_lt {Y:List Ch}{p:Nat}{k:List UInt8}(hs:Srt key lt Y) (h:p=Y.length∨∃ z,Y[p]?=some z∧lt k (key z)=true):∀ y∈Y.drop p,lt k (key y)=true:=by
 rcases h with rfl | ⟨z,hz,hlt⟩
 ·simp
 ·obtain⟨hp,e⟩:=List.getElem?_eq_some_iff.1 hz;have e2:Y.drop p=z::Y.drop (p+1):=by rw [List.drop_eq_getElem_cons hp,e]
  have hs':Srt key lt (z::Y.drop (p+1)):=by rw [← e2];exact List.Pairwise.sublist (List.drop_sublist _ _) hs
  rw [e2];intro y hy;rcases List.mem_cons.1 hy with rfl | hy
  ·exact hlt
  ·have:Srt key lt ([z]++Y.drop (p+1)):=hs';exact O.lt_le hlt ((Srt.append.1 this).2.2 z (by simp) y hy)
theorem one_left {x:Ch}{Y:List Ch}{p:Nat}(hs:Srt key lt Y) (h1:∀ y∈Y.take p,lt (key y) (key x)=true) (h2:∀ y∈Y.drop p,lt (key y) (key x)=false) :
  Srt key lt (Y.take p++x::Y.drop p)∧Sm key ([x]++Y) (Y.take p++x::Y.drop p):=by
 refine⟨Srt.put (by rw [List.take_append_drop];exact hs) (fun y hy=>O.asymm _ _ (h1 y hy)) h2,?_⟩;have e1:[x]++Y=([x]++Y.take p)++Y.drop p:=by rw [List.append_assoc,List.take_append_drop]
 have e2:Y.take p++x::Y.drop p=(Y.take p++[x])++Y.drop p:=by simp
 rw [e1,e2];refine Sm.append (Sm.swap fun a ha b hb=>?_) (Sm.refl _);simp at ha;subst ha;exact (O.ne (h1 b hb)).symm
theorem one_right {y:Ch}{X:List Ch}{p:Nat}(hs:Srt key lt X) (h1:∀ x∈X.take p,lt (key y) (key x)=false) (h2:∀ x∈X.drop p,lt (key y) (key x)=true) :
  Srt key lt (X.take p++y::X.drop p)∧Sm key (X++[y]) (X.take p++y::X.drop p):=by
 refine⟨Srt.put (by rw [List.take_append_drop];exact hs) h1 (fun x hx=>O.asymm _ _ (h2 x hx)),?_⟩;have e1:X++[y]=X.take p++(X.drop p++[y]):=by rw [← List.append_assoc,List.take_append_drop]
 have e2:X.take p++y::X.drop p=X.take p++([y]++X.drop p):=by simp
 rw [e1,e2];refine Sm.append (Sm.refl _) (Sm.swap fun a ha b hb=>?_);simp at hb;subst hb;exact (O.ne (h2 a ha)).symm
end Go.Proofs.YtopepebcnaikiaaGreatDoor.Sc
namespace Go.Proofs.YtopepebcnaikiaaGreatDoor.It
open Lib (hid)
open Go.ChangeShapes Go.WideShapes Go.ChangeAt Go.RowKit
open Ar Rg St
abbrev lt:=By.bl
theorem O:Ord lt:=By.blOrd
def icf (x:Itm) (k:ByteArray):Int:=Lib.compareBytes (key x) k.data.toList
theorem placeCmp_any (x:Itm) (k:ByteArray) (w:World) :
  Calls Tryz.prog 116 #[.agg (enc x).toArray,.string k] w fun e w'=>e=.returned (.int .i64 (icf x k))∧Below w.heap.size w w':=by
 show Calls Tryz.prog 116 #[.agg #[.string x.k,.string x.v],.string k] w _
 have HG:=hid (show Below w.heap.size w (w.alloc (.cells #[.string x.k,.string x.v] 90)) from (Below.refl _ w).alloc (Nat.le_refl _) _)
 go_enter Tryz.func116,Tryz.ntmps116
 go_wp2_with (go_at_call 77;refine (Sc.compare_any _ _ _).mono ?_;rintro e w' ⟨rfl,rfl⟩)
 go_ret
 exact⟨rfl,HG.out⟩
theorem take_ltI {Y:List Itm}{p:Nat}{k:List UInt8}(hs:Srt key lt Y) (h:p=0∨∃ z,Y[p-1]?=some z∧lt (key z) k=true):∀ y∈Y.take p,lt (key y) k=true:=by
 rcases h with rfl | ⟨z,hz,hlt⟩
 ·simp
 ·rcases Nat.eq_zero_or_pos p with h0 | h0
  ·subst h0;simp
  ·intro y hy;have e:Y.take p=Y.take (p-1)++[z]:=by
    rw [show p=(p-1)+1 by omega,List.take_add_one,show (p-1+1)-1=p-1 by omega];rw [hz];rfl
   rw [e] at hy;have hs':Srt key lt (Y.take (p-1)++[z]):=by rw [← e];exact List.Pairwise.sublist (List.take_sublist _ _) hs
   rcases List.mem_append.1 hy with hy | hy
   ·exact O.le_lt ((Srt.append.1 hs').2.2 y hy z (by simp)) hlt
   ·simp at hy;subst hy;exact hlt
theorem drop_geI {Y:List Itm}{p:Nat}{k:List UInt8}(hs:Srt key lt Y) (h:p=Y.length∨∃ z,Y[p]?=some z∧lt (key z) k=false):∀ y∈Y.drop p,lt (key y) k=false:=by
 rcases h with rfl | ⟨z,hz,hlt⟩
 ·simp
 ·obtain⟨hp,e⟩:=List.getElem?_eq_some_iff.1 hz;have e2:Y.drop p=z::Y.drop (p+1):=by rw [List.drop_eq_getElem_cons hp,e]
  have hs':Srt key lt (z::Y.drop (p+1)):=by rw [← e2];exact List.Pairwise.sublist (List.drop_sublist _ _) hs
  rw [e2];intro y hy;rcases List.mem_cons.1 hy with rfl | hy
  ·exact hlt
  ·have:Srt key lt ([z]++Y.drop (p+1)):=hs';exact O.le_trans hlt ((Srt.append.1 this).2.2 z (by simp) y hy)
def GI (D:List Itm) (k:ByteArray) (c:Nat):Bool:=match D[c]? with | some z=>!lt (key z) k.data.toList | none=>false
theorem GI_at {D:List Itm}{k:ByteArray}{z:Itm}{c:Nat}(h:D[c]?=some z):GI D k c=!lt (key z) k.data.toList:=by unfold GI;rw [h]
def At (D:List Itm) (k:ByteArray) (p:Nat):Prop:=p≤D.length∧(∀ y∈D.take p,lt (key y) k.data.toList=true)∧(∀ y∈D.drop p,lt (key y) k.data.toList=false)
def found (D:List Itm) (k:ByteArray) (p:Nat):Bool:=match D[p]? with | some y=>decide (key y=k.data.toList) | none=>false
theorem at_of {D:List Itm}{k:ByteArray}{p:Nat}(hs:Srt key lt D) (h:Sc.Bs (GI D k) 0 D.length p p):At D k p:=by
 obtain⟨_,_,h1,h2,h3⟩:=h;refine⟨h1,take_ltI hs ?_,drop_geI hs ?_⟩
 ·rcases h2 with h2 | h2
  ·exact .inl h2
  ·rcases Nat.eq_zero_or_pos p with h0 | h0
   ·exact .inl h0
   ·have hz:D[p-1]?=some (D[p-1]'(by omega)):=List.getElem?_eq_getElem _;rw [GI_at hz] at h2;exact .inr ⟨_,hz,by simpa using h2⟩
 ·rcases h3 with h3 | h3
  ·exact .inl h3
  ·rcases Nat.lt_or_ge p D.length with h0 | h0
   ·have hz:D[p]?=some (D[p]'h0):=List.getElem?_eq_getElem _;rw [GI_at hz] at h3;exact .inr ⟨_,hz,by simpa using h3⟩
   ·exact .inl (by omega)
theorem placeCmp_at (x:Itm) (k:ByteArray) (c:Int) (hc:icf x k=c) (w:World) :
  Calls Tryz.prog 116 #[.agg #[.string x.k,.string x.v],.string k] w fun e w'=>e=.returned (.int .i64 c)∧Below w.heap.size w w':=by
 subst hc;exact placeCmp_any x k w
theorem icf_lt (x:Itm) (k:ByteArray):icf x k<0↔lt (key x) k.data.toList=true:=By.cmp_lt _ _
theorem icf_eq (x:Itm) (k:ByteArray):icf x k=0↔key x=k.data.toList:=By.cmp_eq _ _
theorem found_at {D:List Itm}{k:ByteArray}{p:Nat}{y:Itm}(h:D[p]?=some y):found D k p=decide (key y=k.data.toList):=by unfold found;rw [h]
theorem found_out {D:List Itm}{k:ByteArray}{p:Nat}(h:D.length≤p):found D k p=false:=by unfold found;rw [List.getElem?_eq_none h]
theorem search_any (D:List Itm) (k:ByteArray) (A:Option Addr) (n cap B:Nat) (hn:n=D.length) (hm:n≤281474976710656) (hs:Srt key lt D) (w:World) (hB:B≤w.heap.size) (hD:Ls enc 2 w B A D) :
  Calls Tryz.prog 115 #[.slice A n cap,.string k,.func (.func 116) #[] #[]] w fun e w'=>∃ p:Nat,At D k p∧e=.returned (.tuple #[.int .i64 p,.bool (found D k p)])∧Below w.heap.size w w':=by
 have HN:=hid hn;have HD:=hid hD;have HS:=hid hs;clear hn hD hs
 go_enter Tryz.func115,Tryz.ntmps115
 go_wp2_with fail
 go_loopw [9,10] (fun v u wr=>∃ lo hi:Nat,v=.int .i64 lo∧u=.int .i64 hi∧Hid (Sc.Bs (GI D k) 0 n lo hi)∧Hid (Below w.heap.size w wr)) (fun v u _=>(intOf u).toNat-(intOf v).toNat)
 case atStart=>exact⟨0,n,by go_num,by go_num,Sc.Bs.start _ (Nat.zero_le _),Below.refl _ _⟩
 case round =>
  obtain⟨lo,hi,rfl,rfl,hbs,hbel⟩:=hrel;obtain⟨_,n2,n3,_⟩:=Hid.out hbs;have hL:=HD.out.below ((Hid.out hbel).mono hB);by_cases hlt:lo<hi
  ·obtain⟨h,hh⟩:∃ h:Nat,((lo:Int)+(hi:Int)) / 2=(h:Int):=⟨(lo+hi) / 2,by omega⟩;have n4:lo≤h:=by omega
   have n5:h<hi:=by omega
   have n6:(0:Int)≤(h:Int):=by omega
   have n7:(h:Int)<(n:Int):=by omega
   obtain⟨z,hz⟩:∃ z,D[h]?=some z:=⟨_,List.getElem?_eq_getElem (by rw [← HN.out];omega)⟩;obtain⟨b,o,hAe,hb,hr⟩:=hL h z hz;have hbl:b<wr.heap.size:=Nat.lt_of_lt_of_le hb (Nat.le_trans hB (Hid.out hbel).size);have hc0:wr.cell? ⟨b,o+h*2,none⟩=some (.string z.k):=hr 0 _ rfl;have hc1:wr.cell? ⟨b,o+h*2+1,none⟩=some (.string z.v):=hr 1 _ rfl;clear hL hr;subst hAe;obtain⟨c,hcf⟩:∃ c,icf z k=c:=⟨_,rfl⟩;have hcl:=icf_lt z k;rw [hcf] at hcl;have HCF:=hid hcf;by_cases hlk:lt (key z) k.data.toList=true
   ·have hc:c<0:=hcl.2 hlk;have HUP:=hid ((Hid.out hbs).up n4 n5 (by rw [GI_at hz,hlk];rfl));clear hcl hcf hbs hz hlk
    go_wp2_with (go_at_call 116;refine (placeCmp_at z k c HCF.out _).mono ?_;rintro e w1 ⟨rfl,hb1⟩;have HB1:=hid ((Hid.out hbel).trans (hb1.mono (Hid.out hbel).size));clear hb1)
    exact⟨⟨h+1,hi,by go_num,rfl,HUP.out,HB1.out⟩,by simp [intOf]<;>omega⟩
   ·have hc:0≤c:=by
     have:¬ c<0:=fun e=>hlk (hcl.1 e)
     omega
    have HDN:=hid ((Hid.out hbs).down n4 n5 (by rw [GI_at hz];simp only [hlk];rfl));clear hcl hcf hbs hz hlk
    go_wp2_with (go_at_call 116;refine (placeCmp_at z k c HCF.out _).mono ?_;rintro e w1 ⟨rfl,hb1⟩;have HB1:=hid ((Hid.out hbel).trans (hb1.mono (Hid.out hbel).size));clear hb1)
    exact⟨⟨lo,h,rfl,rfl,HDN.out,HB1.out⟩,by simp [intOf]<;>omega⟩
  ·obtain rfl:lo=hi:=by omega
   have HAT:=hid (at_of HS.out (by have:=Hid.out hbs;rw [HN.out] at this;exact this));clear hbs;by_cases hp:lo<n
   ·obtain⟨z,hz⟩:∃ z,D[lo]?=some z:=⟨_,List.getElem?_eq_getElem (by rw [← HN.out];omega)⟩;obtain⟨b,o,hAe,hb,hr⟩:=hL lo z hz;have hbl:b<wr.heap.size:=Nat.lt_of_lt_of_le hb (Nat.le_trans hB (Hid.out hbel).size);have hc0:wr.cell? ⟨b,o+lo*2,none⟩=some (.string z.k):=hr 0 _ rfl;have hc1:wr.cell? ⟨b,o+lo*2+1,none⟩=some (.string z.v):=hr 1 _ rfl;clear hL hr;subst hAe;obtain⟨c,hcf⟩:∃ c,icf z k=c:=⟨_,rfl⟩;have hce:=icf_eq z k;rw [hcf] at hce;have HF:=hid (show found D k lo=(c==0) by rw [found_at hz,Bool.eq_iff_iff];simp [hce]);have HCF:=hid hcf;clear hcf hce hz
    go_wp2_with (go_at_call 116;refine (placeCmp_at z k c HCF.out _).mono ?_;rintro e w1 ⟨rfl,hb1⟩;have HB1:=hid ((Hid.out hbel).trans (hb1.mono (Hid.out hbel).size));clear hb1)
    go_ret2
    exact⟨lo,HAT.out,by rw [HF.out];rfl,HB1.out⟩
   ·have HF:=hid (found_out (D:=D) (k:=k) (p:=lo) (by rw [← HN.out];omega));clear hL
    go_wp2
    go_ret2
    exact⟨lo,HAT.out,by rw [HF.out];rfl,Hid.out hbel⟩
theorem place_any (D:List Itm) (k:ByteArray) (A:Option Addr) (n cap B:Nat) (hn:n=D.length) (hm:n≤281474976710656) (hs:Srt key lt D) (w:World) (hB:B≤w.heap.size) (hD:Ls enc 2 w B A D) :
  Calls Tryz.prog 74 #[.slice A n cap,.string k] w fun e w'=>∃ p:Nat,At D k p∧e=.returned (.tuple #[.int .i64 p,.bool (found D k p)])∧Below w.heap.size w w':=by
 have HC:=hid (search_any D k A n cap B hn hm hs w hB hD);clear hn hs hD
 go_enter Tryz.func74,Tryz.ntmps74
 go_wp2_with (go_at_call 115;refine HC.out.mono ?_;rintro e w1 ⟨p,hp,rfl,hb1⟩;have HP:=hid hp;have HB1:=hid hb1;clear hp hb1)
 go_ret2
 exact⟨p,HP.out,rfl,HB1.out⟩
def Up (D:List Itm):Prop:=D.Pairwise fun a b=>lt (key a) (key b)=true
theorem rtFrom_some:∀ (D:List Itm) (y:Itm),rtFrom (some y) D=true→(∀ x∈D,lt (key y) (key x)=true)∧Up D∧∀ x∈D,okI x=true
 | [],y,_=>⟨by simp,List.Pairwise.nil,by simp⟩
 | x::r,y,h=>by
  have h':(okI x&&(By.bl (key y) (key x)&&rtFrom (some x) r))=true:=h;rw [Bool.and_eq_true,Bool.and_eq_true] at h';obtain⟨h1,h2,h3⟩:=rtFrom_some r x h'.2.2;refine⟨?_,List.pairwise_cons.2 ⟨h1,h2⟩,?_⟩
  ·intro z hz;rcases List.mem_cons.1 hz with rfl | hz
   ·exact h'.2.1
   ·exact O.trans _ _ _ h'.2.1 (h1 z hz)
  ·intro z hz;rcases List.mem_cons.1 hz with rfl | hz
   ·exact h'.1
   ·exact h3 z hz
theorem rt_up {D:List Itm}(h:rt D=true):Up D∧∀ x∈D,okI x=true:=by
 cases D with
 | nil=>exact⟨List.Pairwise.nil,by simp⟩
 | cons x r =>
  have h':(okI x&&rtFrom (some x) r)=true:=h;rw [Bool.and_eq_true] at h';obtain⟨h1,h2,h3⟩:=rtFrom_some r x h'.2;refine⟨List.pairwise_cons.2 ⟨h1,h2⟩,?_⟩;intro z hz;rcases List.mem_cons.1 hz with rfl | hz
  ·exact h'.1
  ·exact h3 z hz
theorem Up.srt {D:List Itm}(h:Up D):Srt key lt D:=List.Pairwise.imp (fun hab=>O.asymm _ _ hab) h
def get (D:List Itm) (k:ByteArray):Option ByteArray:=(D.find? fun x=>decide (key x=k.data.toList)).map (·.v)
theorem get_found {D:List Itm}{k:ByteArray}{p:Nat}{y:Itm}(h:At D k p) (hy:D[p]?=some y) (hf:key y=k.data.toList):get D k=some y.v:=by
 obtain⟨hp,h1,h2⟩:=h;have e:D=D.take p++y::D.drop (p+1):=by rw [← drop_at hy,List.take_append_drop]
 unfold get;rw [e,List.find?_append];have hn:(D.take p).find? (fun x=>decide (key x=k.data.toList))=none:=by
  rw [List.find?_eq_none];intro x hx;have:=O.ne (h1 x hx);simpa using this
 rw [hn,Option.none_or,List.find?_cons_of_pos (by simpa using hf)];rfl
theorem get_none {D:List Itm}{k:ByteArray}{p:Nat}(hu:Up D) (h:At D k p) (hf:found D k p=false):get D k=none:=by
 obtain⟨hp,h1,h2⟩:=h;unfold get;rw [Option.map_eq_none_iff,List.find?_eq_none];intro x hx;rw [← List.take_append_drop p D] at hx;rcases List.mem_append.1 hx with hx | hx
 ·have:=O.ne (h1 x hx);simpa using this
 ·rcases Nat.lt_or_ge p D.length with hl | hl
  ·have hz:D[p]?=some (D[p]'hl):=List.getElem?_eq_getElem _;rw [found_at hz,decide_eq_false_iff_not] at hf;have e:=drop_at hz;have hu2:Up (D.drop p):=List.Pairwise.sublist (List.drop_sublist _ _) hu;rw [e] at hx hu2;have hge:=h2 D[p] (by rw [e];exact List.mem_cons_self);rcases List.mem_cons.1 hx with rfl | hx
   ·simpa using hf
   ·have hlt:=(List.pairwise_cons.1 hu2).1 x hx;have hk:lt k.data.toList (key D[p])=true:=by
     cases h3:lt k.data.toList (key D[p])
     ·exact absurd (O.tri _ _ hge h3) hf
     ·rfl
    have:=O.ne (O.trans _ _ _ hk hlt);simp only [decide_eq_true_eq];exact fun e=>this e.symm
  ·rw [List.drop_eq_nil_of_le hl] at hx;cases hx
def getV (r:Bool) (o:Option ByteArray):Value :=
 if r then (match o with | some v=>.tuple #[.string v,.int .i64 0] | none=>.tuple #[.string { data:=#[] },.int .i64 5]) else .tuple #[.string { data:=#[] },.int .i64 4]
theorem get_any (D:List Itm) (k:ByteArray) (A:Option Addr) (n cap B:Nat) (hn:n=D.length) (hm:n≤281474976710656) (w:World) (hB:B≤w.heap.size) (hD:Ls enc 2 w B A D) :
  Calls Tryz.prog 99 #[.slice A n cap,.string k] w fun e w'=>e=.returned (getV (rt D) (get D k))∧Below w.heap.size w w':=by
 have HR:=hid (rightList_any D A n cap B hn hm w hB hD);have HN:=hid hn;have HD:=hid hD;clear hn hD;by_cases hr:rt D=true
 ·have HS:=hid (rt_up hr);rw [hr] at HR ⊢;clear hr
  go_enter Tryz.func99,Tryz.ntmps99
  go_wp2_with fail
  go_at_call 37
  refine HR.out.mono ?_;rintro e w1 ⟨rfl,hb1⟩;have HB1:=hid hb1;clear hb1 HR
  go_wp2_with fail
  go_at_call 74
  refine (place_any D k A n cap B HN.out hm HS.out.1.srt w1 (Nat.le_trans hB HB1.out.size) (HD.out.below (HB1.out.mono hB))).mono ?_;rintro e w2 ⟨p,hp,rfl,hb2⟩;have HB2:=hid (HB1.out.trans (hb2.mono HB1.out.size));clear hb2 HB1;by_cases hf:found D k p=true
  ·obtain⟨y,hy⟩:∃ y,D[p]?=some y:=by
    unfold found at hf;cases h:D[p]? with
    | none=>rw [h] at hf;cases hf
    | some y=>exact⟨y,rfl⟩
   have hpn:p<n:=by rw [HN.out];exact (List.getElem?_eq_some_iff.1 hy).1
   have hk:key y=k.data.toList:=by rw [found_at hy] at hf;simpa using hf
   have HG:=hid (get_found hp hy hk);obtain⟨b,o,hAe,hb,hrr⟩:=(HD.out.below (HB2.out.mono hB)) p y hy;have hc1:w2.cell? ⟨b,o+p*2+1,none⟩=some (.string y.v):=hrr 1 _ rfl;clear hrr hp hy hk;subst hAe;rw [hf];clear hf
   go_wp2
   go_ret2
   exact⟨by rw [HG.out];rfl,HB2.out⟩
  ·have hf:found D k p=false:=by simpa using hf
   have HG:=hid (get_none HS.out.1 hp hf);rw [hf];clear hf hp
   go_wp2
   go_ret2
   exact⟨by rw [HG.out];rfl,HB2.out⟩
 ·have hr:rt D=false:=by simpa using hr
  rw [hr] at HR ⊢;clear hr
  go_enter Tryz.func99,Tryz.ntmps99
  go_wp2_with fail
  go_at_call 37
  refine HR.out.mono ?_;rintro e w1 ⟨rfl,hb1⟩;have HB1:=hid hb1;clear hb1 HR
  go_wp2
  go_ret2
  exact⟨rfl,HB1.out⟩
def No (D:List Itm) (k:ByteArray) (i:Nat):Prop:=∀ y∈D.take i,key y≠k.data.toList
theorem str_eq (a b:ByteArray):(a.toList==b.toList)=decide (a.data.toList=b.data.toList):=by
 rw [ByteArray.toList_eq,ByteArray.toList_eq,Bool.eq_iff_iff];simp
def okC (c:Sc.Ch):Bool:=okKey c.k&&(decide (c.v.size≤160)&&(c.h||c.v.toList.isEmpty))
def rc (D:List Sc.Ch):Bool:=D.all okC
def RcAt (D:List Sc.Ch) (i:Nat):Prop:=rc D=(D.drop i).all okC
theorem RcAt.zero (D:List Sc.Ch):RcAt D 0:=rfl
theorem RcAt.last {D:List Sc.Ch}{i:Nat}(h:RcAt D i) (hi:D.length≤i):rc D=true:=by
 unfold RcAt at h;rw [h,List.drop_eq_nil_of_le hi];rfl
theorem drop_atC {D:List Sc.Ch}{k:Nat}{y:Sc.Ch}(h:D[k]?=some y):D.drop k=y::D.drop (k+1):=by
 obtain⟨hk,e⟩:=List.getElem?_eq_some_iff.1 h;rw [List.drop_eq_getElem_cons hk,e]
theorem RcAt.bad {D:List Sc.Ch}{i:Nat}{x:Sc.Ch}(h:RcAt D i) (hx:D[i]?=some x) (hb:okC x=false):rc D=false:=by
 unfold RcAt at h;rw [h,drop_atC hx,List.all_cons,hb];rfl
theorem RcAt.more {D:List Sc.Ch}{i:Nat}{x:Sc.Ch}(h:RcAt D i) (hx:D[i]?=some x) (hb:okC x=true):RcAt D (i+1):=by
 unfold RcAt at h ⊢;rw [h,drop_atC hx,List.all_cons,hb,Bool.true_and]
theorem rightChanges_any (D:List Sc.Ch) (A:Option Addr) (n cap B:Nat) (hn:n=D.length) (hm:n≤281474976710656) (w:World) (hB:B≤w.heap.size) (hD:Ls Sc.enc 3 w B A D) :
  Calls Tryz.prog 38 #[.slice A n cap] w fun e w'=>e=.returned (.bool (rc D))∧Below w.heap.size w w':=by
 have HN:=hid hn;have HD:=hid hD;clear hn hD
 go_enter Tryz.func38,Tryz.ntmps38
 go_wp2_with fail
 go_loopw [7] (fun v wr=>∃ i:Nat,i≤n∧v=.int .i64 i∧Hid (RcAt D i)∧Hid (Below w.heap.size w wr)) (fun v _=>n-(intOf v).toNat)
 case atStart=>exact⟨0,Nat.zero_le _,by go_num,RcAt.zero D,Below.refl _ _⟩
 case round =>
  obtain⟨i,hi,rfl,hrt,hbel⟩:=hrel;by_cases hlt:i<n
  ·obtain⟨x,hx⟩:∃ x,D[i]?=some x:=⟨_,List.getElem?_eq_getElem (by rw [← HN.out];exact hlt)⟩;have hL:=HD.out.below ((Hid.out hbel).mono hB);obtain⟨b,o,hAe,hb,hr⟩:=hL i x hx;have hbs:b<wr.heap.size:=Nat.lt_of_lt_of_le hb (Nat.le_trans hB (Hid.out hbel).size);have hc0:wr.cell? ⟨b,o+i*3,none⟩=some (.string x.k):=hr 0 _ rfl;have hc1:wr.cell? ⟨b,o+i*3+1,none⟩=some (.bool x.h):=hr 1 _ rfl;have hc2:wr.cell? ⟨b,o+i*3+2,none⟩=some (.string x.v):=hr 2 _ rfl;clear hL hr;subst hAe;have HBN:=hid (show Below w.heap.size w (wr.alloc (.cells #[.string x.k,.bool x.h,.string x.v] 138)) from (Hid.out hbel).alloc (Hid.out hbel).size _);have hqc:=rightKey_any x.k;have hmore:=fun h=>(Hid.out hrt).more hx h
   have hbad:=fun h=>(Hid.out hrt).bad hx h
   rw [show okC x=(okKey x.k&&(decide (x.v.size≤160)&&(x.h||x.v.toList.isEmpty))) from rfl] at hmore hbad;have HMORE:=hid hmore;have HBAD:=hid hbad;clear hmore hbad hrt hx;obtain⟨xk,xh,xv⟩:=x;simp only at hc0 hc1 hc2 HBN hqc HMORE HBAD;by_cases hq:okKey xk=true
   ·rw [hq] at hqc HMORE HBAD;have HQC:=hid hqc;clear hqc hq;by_cases hv:xv.size≤160
    ·have hv1:(xv.size:Int)≤160:=by omega
     rw [decide_eq_true hv] at HMORE HBAD;by_cases hh:xh=true
     ·subst hh;have HRT:=hid (HMORE.out rfl);clear HMORE HBAD
      go_wp2_with (go_at_call 73;refine (HQC.out _).mono ?_;rintro e w1 ⟨rfl,rfl⟩)
      exact⟨⟨i+1,by omega,by go_num,HRT.out,HBN.out⟩,by simp [intOf]<;>omega⟩
     ·have hh:xh=false:=by simpa using hh
      subst hh;by_cases hz:xv.toList.isEmpty=true
      ·rw [hz] at HMORE HBAD;have HRT:=hid (HMORE.out rfl);clear HMORE HBAD
       go_wp2_with (go_at_call 73;refine (HQC.out _).mono ?_;rintro e w1 ⟨rfl,rfl⟩)
       exact⟨⟨i+1,by omega,by go_num,HRT.out,HBN.out⟩,by simp [intOf]<;>omega⟩
      ·have hz:xv.toList.isEmpty=false:=by simpa using hz
       rw [hz] at HMORE HBAD;have HF:=hid (HBAD.out rfl);clear HMORE HBAD
       go_wp2_with (go_at_call 73;refine (HQC.out _).mono ?_;rintro e w1 ⟨rfl,rfl⟩)
       go_ret
       exact⟨by rw [HF.out];rfl,HBN.out⟩
    ·have hv1:(160:Int)<(xv.size:Int):=by omega
     rw [decide_eq_false hv] at HMORE HBAD;have HF:=hid (HBAD.out rfl);clear HMORE HBAD
     go_wp2_with (go_at_call 73;refine (HQC.out _).mono ?_;rintro e w1 ⟨rfl,rfl⟩)
     go_ret
     exact⟨by rw [HF.out];rfl,HBN.out⟩
   ·have hq:okKey xk=false:=by simpa using hq
    rw [hq] at hqc HMORE HBAD;have HQC:=hid hqc;clear hqc hq;have HF:=hid (HBAD.out rfl);clear HMORE HBAD
    go_wp2_with (go_at_call 73;refine (HQC.out _).mono ?_;rintro e w1 ⟨rfl,rfl⟩)
    go_ret
    exact⟨by rw [HF.out];rfl,HBN.out⟩
  ·have HF:=hid ((Hid.out hrt).last (by rw [← HN.out];omega))
   go_wp2
   go_ret
   exact⟨by rw [HF.out];rfl,Hid.out hbel⟩
end Go.Proofs.YtopepebcnaikiaaGreatDoor.It
namespace Go.Proofs.YtopepebcnaikiaaGreatDoor.It
open Lib (hid)
open Ar Rg St
abbrev Ch:=Sc.Ch
abbrev ckey (c:Ch):List UInt8:=Sc.key c
section
variable {α:Type}{key:α→List UInt8}
def UpK (key:α→List UInt8) (D:List α):Prop:=D.Pairwise fun a b=>lt (key a) (key b)=true
theorem up_ext {A B:List α}(hA:UpK key A) (hB:UpK key B) (h:∀ x,x∈A↔x∈B):A=B:=by
 induction A generalizing B with
 | nil =>
  cases B with
  | nil=>rfl
  | cons y B=>exact absurd ((h y).2 List.mem_cons_self) (List.not_mem_nil)
 | cons x A ih =>
  cases B with
  | nil=>exact absurd ((h x).1 List.mem_cons_self) (List.not_mem_nil)
  | cons y B =>
   obtain⟨a1,a2⟩:=List.pairwise_cons.1 hA;obtain⟨b1,b2⟩:=List.pairwise_cons.1 hB;have e:x=y:=by
    rcases List.mem_cons.1 ((h x).1 List.mem_cons_self) with e | e
    ·exact e
    ·rcases List.mem_cons.1 ((h y).2 List.mem_cons_self) with e' | e'
     ·exact e'.symm
     ·have h1:=b1 x e;have h2:=a1 y e';rw [O.asymm _ _ h1] at h2;cases h2
   subst e;rw [ih a2 b2 fun z=>?_];constructor
   ·intro hz;rcases List.mem_cons.1 ((h z).1 (List.mem_cons_of_mem _ hz)) with e | e
    ·subst e;have:=a1 z hz;rw [O.irrefl] at this;cases this
    ·exact e
   ·intro hz;rcases List.mem_cons.1 ((h z).2 (List.mem_cons_of_mem _ hz)) with e | e
    ·subst e;have:=b1 z hz;rw [O.irrefl] at this;cases this
    ·exact e
theorem up_inj {D:List α}(h:UpK key D){x y:α}(hx:x∈D) (hy:y∈D) (e:key x=key y):x=y:=by
 induction D with
 | nil=>cases hx
 | cons z D ih =>
  obtain⟨h1,h2⟩:=List.pairwise_cons.1 h;rcases List.mem_cons.1 hx with e1 | h3<;>rcases List.mem_cons.1 hy with e2 | h4
  ·rw [e1,e2]
  ·have:=h1 y h4;rw [← e1,e,O.irrefl] at this;cases this
  ·have:=h1 x h3;rw [← e2,e,O.irrefl] at this;cases this
  ·exact ih h2 h3 h4
theorem UpK.sub {A D:List α}(h:UpK key D) (hs:A.Sublist D):UpK key A:=List.Pairwise.sublist hs h
theorem UpK.cons {x:α}{D:List α}:UpK key (x::D)↔(∀ y∈D,lt (key x) (key y)=true)∧UpK key D:=List.pairwise_cons
theorem UpK.append {A B:List α}:UpK key (A++B)↔UpK key A∧UpK key B∧∀ x∈A,∀ y∈B,lt (key x) (key y)=true:=List.pairwise_append
theorem UpK.nil:UpK key ([]:List α):=List.Pairwise.nil
theorem UpK.one (x:α):UpK key [x]:=List.pairwise_singleton _ _
end
theorem le_ne {a b:List UInt8}(h:lt a b=false) (hn:a≠b):lt b a=true:=by
 cases h2:lt b a
 ·exact absurd (O.tri _ _ h h2) hn
 ·rfl
def itm (c:Ch):Itm:=⟨c.k,c.v⟩
def donL (c:Ch):Bool→List Itm→List Itm
 | put,[]=>if put then [] else [itm c]
 | put,x::r=>(if !put&&!lt (key x) (ckey c) then [itm c] else [])++((if key x=ckey c then [] else [x])++donL c (put||!lt (key x) (ckey c)) r)
def don (c:Ch) (D:List Itm):List Itm:=donL c (!c.h) D
theorem mem_donL (c:Ch) (x:Itm):∀ (D:List Itm) (put:Bool),x∈donL c put D↔(x∈D∧key x≠ckey c)∨(put=false∧x=itm c)
 | [],put=>by cases put<;>simp [donL]
 | y::r,put=>by
  rw [donL,List.mem_append,List.mem_append,mem_donL c x r];by_cases h1:lt (key y) (ckey c)=true
  ·have h2:=O.ne h1;rw [h1,if_neg h2];cases put<;>simp
   ·constructor
    ·rintro (rfl | h | h)
     ·exact .inl ⟨.inl rfl,h2⟩
     ·exact .inl ⟨.inr h.1,h.2⟩
     ·exact .inr h
    ·rintro (⟨rfl | h,h'⟩ | h)
     ·exact .inl rfl
     ·exact .inr (.inl ⟨h,h'⟩)
     ·exact .inr (.inr h)
   ·constructor
    ·rintro (rfl | h)
     ·exact⟨.inl rfl,h2⟩
     ·exact⟨.inr h.1,h.2⟩
    ·rintro ⟨rfl | h,h'⟩
     ·exact .inl rfl
     ·exact .inr ⟨h,h'⟩
  ·have h1:lt (key y) (ckey c)=false:=by simpa using h1
   rw [h1];by_cases h2:key y=ckey c
   ·rw [if_pos h2];cases put<;>simp
    ·constructor
     ·rintro (h | h)
      ·exact .inr h
      ·exact .inl ⟨.inr h.1,h.2⟩
     ·rintro (⟨rfl | h,h'⟩ | h)
      ·exact absurd h2 h'
      ·exact .inr ⟨h,h'⟩
      ·exact .inl h
    ·intro h e;exact absurd (e▸h2) h
   ·rw [if_neg h2];cases put<;>simp
    ·constructor
     ·rintro (h | rfl | h)
      ·exact .inr h
      ·exact .inl ⟨.inl rfl,h2⟩
      ·exact .inl ⟨.inr h.1,h.2⟩
     ·rintro (⟨rfl | h,h'⟩ | h)
      ·exact .inr (.inl rfl)
      ·exact .inr (.inr ⟨h,h'⟩)
      ·exact .inl h
    ·constructor
     ·rintro (rfl | h)
      ·exact⟨.inl rfl,h2⟩
      ·exact⟨.inr h.1,h.2⟩
     ·rintro ⟨rfl | h,h'⟩
      ·exact .inl rfl
      ·exact .inr ⟨h,h'⟩
theorem mem_don (c:Ch) (x:Itm) (D:List Itm):x∈don c D↔(x∈D∧key x≠ckey c)∨(c.h=true∧x=itm c):=by
 unfold don;rw [mem_donL];simp
theorem donL_true (c:Ch):∀ D:List Itm,donL c true D=D.filter fun x=>decide (key x≠ckey c)
 | []=>rfl
 | x::r=>by
  rw [donL,Bool.true_or,donL_true c r,List.filter_cons];by_cases h:key x=ckey c<;>simp [h]
theorem up_donL (c:Ch):∀ (D:List Itm) (put:Bool),UpK key D→UpK key (donL c put D)
 | D,true,h=>by rw [donL_true];exact h.sub List.filter_sublist
 | [],false,_=>UpK.one _
 | x::r,false,h=>by
  obtain⟨h1,h2⟩:=UpK.cons.1 h;rw [donL];by_cases hl:lt (key x) (ckey c)=true
  ·rw [hl,if_neg (O.ne hl)];refine UpK.cons.2 ⟨fun y hy=>?_,up_donL c r false h2⟩;rcases (mem_donL c y r false).1 hy with ⟨h3,_⟩ | ⟨_,rfl⟩
   ·exact h1 y h3
   ·exact hl
  ·have hl:lt (key x) (ckey c)=false:=by simpa using hl
   rw [hl];have e:(if key x=ckey c then [] else [x])++donL c (false||!false) r=(x::r).filter fun x=>decide (key x≠ckey c):=by
    rw [← donL_true,donL];rfl
   rw [e];refine UpK.cons.2 ⟨fun y hy=>?_,h.sub List.filter_sublist⟩;obtain⟨hy,hne⟩:=List.mem_filter.1 hy;have hne:key y≠ckey c:=by simpa using hne
   refine le_ne ?_ hne;show lt (key y) (ckey c)=false
   rcases List.mem_cons.1 hy with rfl | hy
   ·exact hl
   ·cases h3:lt (key y) (ckey c)
    ·rfl
    ·have:=O.trans _ _ _ (h1 y hy) h3;rw [hl] at this;cases this
theorem up_don (c:Ch){D:List Itm}(h:UpK key D):UpK key (don c D):=up_donL c D _ h
def app (D:List Itm) (C:List Ch):List Itm:=C.foldl (fun D c=>don c D) D
theorem app_nil (D:List Itm):app D []=D:=rfl
theorem app_cons (D:List Itm) (c:Ch) (C:List Ch):app D (c::C)=app (don c D) C:=rfl
theorem app_snoc (D:List Itm) (C:List Ch) (c:Ch):app D (C++[c])=don c (app D C):=by unfold app;rw [List.foldl_append];rfl
theorem app_append (D:List Itm) (C C':List Ch):app D (C++C')=app (app D C) C':=by unfold app;rw [List.foldl_append]
theorem up_app {D:List Itm}(C:List Ch) (h:UpK key D):UpK key (app D C):=by
 induction C generalizing D with
 | nil=>exact h
 | cons c C ih=>exact ih (up_don c h)
def Lst (C:List Ch) (c:Ch):Prop:=(C.filter fun d=>ckey d=ckey c).getLast?=some c
theorem Lst.mem {C:List Ch}{c:Ch}(h:Lst C c):c∈C:=(List.mem_filter.1 (List.mem_of_getLast? h)).1
theorem Lst.snoc {C:List Ch}{c d:Ch}:Lst (C++[d]) c↔(d=c)∨(ckey d≠ckey c∧Lst C c):=by
 unfold Lst;rw [List.filter_append];by_cases h:ckey d=ckey c
 ·rw [List.filter_cons_of_pos (by simpa using h),List.filter_nil,List.getLast?_concat];simp [h]
 ·rw [List.filter_cons_of_neg (by simpa using h),List.filter_nil,List.append_nil];constructor
  ·intro hl;exact .inr ⟨h,hl⟩
  ·rintro (rfl | hl)
   ·exact absurd rfl h
   ·exact hl.2
theorem mem_app (D:List Itm) (x:Itm) (C:List Ch):x∈app D C↔(x∈D∧∀ c∈C,ckey c≠key x)∨∃ c,Lst C c∧c.h=true∧x=itm c:=by
 suffices H:∀ R:List Ch,x∈app D R.reverse↔(x∈D∧∀ c∈R.reverse,ckey c≠key x)∨∃ c,Lst R.reverse c∧c.h=true∧x=itm c by
  have:=H C.reverse
  rwa [List.reverse_reverse] at this
 intro R;induction R with
 | nil=>simp [app,Lst]
 | cons d R ih =>
  rw [List.reverse_cons,app_snoc,mem_don,ih];constructor
  ·rintro (⟨⟨h1,h2⟩ | ⟨c,h1,h2,rfl⟩,h3⟩ | ⟨h1,rfl⟩)
   ·refine .inl ⟨h1,fun c hc=>?_⟩;rcases List.mem_append.1 hc with hc | hc
    ·exact h2 c hc
    ·simp at hc;subst hc;exact fun e=>h3 e.symm
   ·exact .inr ⟨c,Lst.snoc.2 (.inr ⟨fun e=>h3 e.symm,h1⟩),h2,rfl⟩
   ·exact .inr ⟨d,Lst.snoc.2 (.inl rfl),h1,rfl⟩
  ·rintro (⟨h1,h2⟩ | ⟨c,h1,h2,rfl⟩)
   ·exact .inl ⟨.inl ⟨h1,fun c hc=>h2 c (List.mem_append_left _ hc)⟩,fun e=>h2 d (by simp) e.symm⟩
   ·rcases Lst.snoc.1 h1 with rfl | ⟨h3,h4⟩
    ·exact .inr ⟨h2,rfl⟩
    ·exact .inl ⟨.inr ⟨c,h4,h2,rfl⟩,fun e=>h3 e.symm⟩
theorem up_lst {C:List Ch}(h:UpK Sc.key C) (c:Ch):Lst C c↔c∈C:=by
 constructor
 ·exact Lst.mem
 ·intro hc;unfold Lst;have e:C.filter (fun d=>ckey d=ckey c)=[c]:=by
   refine up_ext (key:=Sc.key) (h.sub List.filter_sublist) (UpK.one c) fun d=>?_
   rw [List.mem_filter,List.mem_singleton];constructor
   ·rintro ⟨h1,h2⟩;exact up_inj h h1 hc (by simpa using h2)
   ·rintro rfl;exact⟨hc,by simp⟩
  rw [e];rfl
theorem app_same {D:List Itm}{C L:List Ch}(hD:UpK key D) (h:∀ c,Lst L c↔Lst C c):app D L=app D C:=by
 refine up_ext (up_app _ hD) (up_app _ hD) fun x=>?_
 have hk:∀ (C L:List Ch),(∀ c,Lst L c↔Lst C c)→(∀ c∈C,ckey c≠key x)→∀ c∈L,ckey c≠key x:=by
  intro C L h hC c hc e;have hne:(L.filter fun d=>ckey d=ckey c)≠[]:=by
   intro h0;have:=List.filter_eq_nil_iff.1 h0 c hc;simp at this
  obtain⟨d,hd⟩:∃ d,(L.filter fun d=>ckey d=ckey c).getLast?=some d:=by
   cases h1:(L.filter fun d=>ckey d=ckey c).getLast? with
   | none=>exact absurd (List.getLast?_eq_none_iff.1 h1) hne
   | some d=>exact⟨d,rfl⟩
  have hdk:ckey d=ckey c:=by simpa using (List.mem_filter.1 (List.mem_of_getLast? hd)).2
  have hl:Lst L d:=by unfold Lst;rw [hdk];exact hd
  exact hC d ((h d).1 hl).mem (hdk.trans e)
 rw [mem_app,mem_app];constructor
 ·rintro (⟨h1,h2⟩ | ⟨c,h1,h2⟩)
  ·exact .inl ⟨h1,hk L C (fun c=>(h c).symm) h2⟩
  ·exact .inr ⟨c,(h c).1 h1,h2⟩
 ·rintro (⟨h1,h2⟩ | ⟨c,h1,h2⟩)
  ·exact .inl ⟨h1,hk C L h h2⟩
  ·exact .inr ⟨c,(h c).2 h1,h2⟩
theorem app_step {D:List Itm}{c:Ch}{L:List Ch}{p:Nat}(hD:UpK key D) (hL:UpK Sc.key (c::L)) (hp:At D c.k p) :
  app D (c::L)=(D.take p++(if c.h then [itm c] else []))++app (D.drop (p+if found D c.k p then 1 else 0)) L:=by
 obtain⟨hp1,hp2,hp3⟩:=hp;obtain⟨hl1,hl2⟩:=UpK.cons.1 hL;have hk:c.k.data.toList=ckey c:=rfl;rw [hk] at hp2 hp3;have hdrop:∀ x∈D.drop (p+if found D c.k p then 1 else 0),x∈D.drop p∧lt (ckey c) (key x)=true:=by
  intro x hx;rcases Nat.lt_or_ge p D.length with hlt | hge
  ·have hz:D[p]?=some (D[p]'hlt):=List.getElem?_eq_getElem _;rw [found_at hz] at hx;have e:=drop_at hz;have hu:UpK key (D.drop p):=hD.sub (List.drop_sublist _ _);rw [e] at hu;have hge:=hp3 D[p] (by rw [e];exact List.mem_cons_self);by_cases hf:key D[p]=c.k.data.toList
   ·rw [decide_eq_true hf,if_pos rfl] at hx;refine⟨by rw [e];exact List.mem_cons_of_mem _ hx,?_⟩;have:=(UpK.cons.1 hu).1 x hx;rw [hf] at this;exact this
   ·rw [decide_eq_false hf,if_neg (by simp),Nat.add_zero] at hx;refine⟨hx,?_⟩;have h0:=le_ne hge hf;rw [e] at hx;rcases List.mem_cons.1 hx with rfl | hx
    ·exact h0
    ·exact O.trans _ _ _ h0 ((UpK.cons.1 hu).1 x hx)
  ·rw [List.drop_eq_nil_of_le (by omega)] at hx;cases hx
 have hdrop2:∀ x∈D.drop p,key x≠ckey c→x∈D.drop (p+if found D c.k p then 1 else 0):=by
  intro x hx hne;rcases Nat.lt_or_ge p D.length with hlt | hge
  ·have hz:D[p]?=some (D[p]'hlt):=List.getElem?_eq_getElem _;rw [found_at hz];by_cases hf:key D[p]=c.k.data.toList
   ·rw [decide_eq_true hf,if_pos rfl];rw [drop_at hz] at hx;rcases List.mem_cons.1 hx with rfl | hx
    ·exact absurd hf hne
    ·exact hx
   ·rw [decide_eq_false hf,if_neg (by simp),Nat.add_zero];exact hx
  ·rw [List.drop_eq_nil_of_le (by omega)] at hx;cases hx
 have htail:∀ x∈app (D.drop (p+if found D c.k p then 1 else 0)) L,lt (ckey c) (key x)=true:=by
  intro x hx;rcases (mem_app _ x L).1 hx with ⟨h1,_⟩ | ⟨d,h1,_,rfl⟩
  ·exact (hdrop x h1).2
  ·exact hl1 d h1.mem
 have hhead:∀ x∈D.take p++(if c.h then [itm c] else []),x∈D.take p∨(c.h=true∧x=itm c):=by
  intro x hx;rcases List.mem_append.1 hx with hx | hx
  ·exact .inl hx
  ·by_cases h:c.h=true
   ·rw [if_pos h] at hx;exact .inr ⟨h,by simpa using hx⟩
   ·rw [if_neg h] at hx;cases hx
 refine up_ext (up_app _ hD) ?_ fun x=>?_
 ·refine UpK.append.2 ⟨UpK.append.2 ⟨hD.sub (List.take_sublist _ _),?_,?_⟩,up_app _ (hD.sub (List.drop_sublist _ _)),?_⟩
  ·split
   ·exact UpK.one _
   ·exact UpK.nil
  ·intro x hx y hy;by_cases h:c.h=true
   ·rw [if_pos h] at hy;simp at hy;subst hy;exact hp2 x hx
   ·rw [if_neg h] at hy;cases hy
  ·intro x hx y hy;rcases hhead x hx with h | ⟨_,rfl⟩
   ·exact O.trans _ _ _ (hp2 x h) (htail y hy)
   ·exact htail y hy
 ·rw [mem_app,List.mem_append];constructor
  ·rintro (⟨h1,h2⟩ | ⟨d,h1,h2,rfl⟩)
   ·rw [← List.take_append_drop p D] at h1;rcases List.mem_append.1 h1 with h1 | h1
    ·exact .inl (List.mem_append_left _ h1)
    ·refine .inr ((mem_app _ x L).2 (.inl ⟨hdrop2 x h1 (fun e=>h2 c List.mem_cons_self e.symm),fun d hd=>h2 d (List.mem_cons_of_mem _ hd)⟩))
   ·have hm:=(up_lst hL d).1 h1;rcases List.mem_cons.1 hm with rfl | hm
    ·exact .inl (List.mem_append_right _ (by rw [if_pos h2];simp))
    ·exact .inr ((mem_app _ _ L).2 (.inr ⟨d,(up_lst hl2 d).2 hm,h2,rfl⟩))
  ·rintro (h1 | h1)
   ·rcases hhead x h1 with h | ⟨h,rfl⟩
    ·refine .inl ⟨List.mem_of_mem_take h,fun d hd e=>?_⟩;have:=hp2 x h;rcases List.mem_cons.1 hd with rfl | hd
     ·rw [e,O.irrefl] at this;cases this
     ·have:=O.trans _ _ _ this (hl1 d hd);rw [show Sc.key d=key x from e,O.irrefl] at this;cases this
    ·exact .inr ⟨c,(up_lst hL c).2 List.mem_cons_self,h,rfl⟩
   ·rcases (mem_app _ x L).1 h1 with ⟨h2,h3⟩ | ⟨d,h2,h3,rfl⟩
    ·obtain⟨h4,h5⟩:=hdrop x h2;refine .inl ⟨List.mem_of_mem_drop h4,fun d hd=>?_⟩;rcases List.mem_cons.1 hd with rfl | hd
     ·exact O.ne h5
     ·exact h3 d hd
    ·exact .inr ⟨d,(up_lst hL d).2 (List.mem_cons_of_mem _ h2.mem),h3,rfl⟩
def lasts:List Ch→List Ch
 | []=>[]
 | c::r=>(match r with | []=>[c] | d::_=>if ckey d=ckey c then [] else [c])++lasts r
theorem lasts_mem:∀ (S:List Ch){c:Ch},c∈lasts S→c∈S
 | [],c,h=>by cases h
 | [a],c,h=>by simpa [lasts] using h
 | a::b::r,c,h=>by
  rw [lasts] at h;rcases List.mem_append.1 h with h | h
  ·split at h
   ·cases h
   ·simp at h;subst h;exact List.mem_cons_self
  ·exact List.mem_cons_of_mem _ (lasts_mem (b::r) h)
theorem lasts_spec:∀ S:List Ch,Srt Sc.key lt S→UpK Sc.key (lasts S)∧∀ c,c∈lasts S↔Lst S c
 | [],_=>⟨UpK.nil,fun c=>by simp [lasts,Lst]⟩
 | [a],_=>⟨UpK.one a,fun c=>by
   have:Lst [a] c↔_:=Lst.snoc (C:=[]) (d:=a) (c:=c);rw [this];constructor
   ·intro h;left;have h:c=a:=by simpa [lasts] using h
    exact h.symm
   ·rintro (rfl | ⟨_,h⟩)
    ·simp [lasts]
    ·exact absurd h.mem List.not_mem_nil⟩
 | a::b::r,h=>by
  obtain⟨h1,h2⟩:=List.pairwise_cons.1 h;obtain⟨i1,i2⟩:=lasts_spec (b::r) h2;have hL:∀ c,Lst (a::b::r) c↔Lst (b::r) c∨(c=a∧∀ d∈b::r,ckey d≠ckey a):=by
   intro c;unfold Lst;by_cases hk:ckey a=ckey c
   ·rw [List.filter_cons_of_pos (by simpa using hk)];by_cases hn:(b::r).filter (fun d=>ckey d=ckey c)=[]
    ·rw [hn];constructor
     ·intro e;simp at e;subst e;refine .inr ⟨rfl,fun d hd e=>?_⟩;have:=List.filter_eq_nil_iff.1 hn d hd;simp at this;exact this e
     ·rintro (e | ⟨rfl,_⟩)
      ·cases e
      ·rfl
    ·rw [List.getLast?_cons_of_ne_nil hn];constructor
     ·exact .inl
     ·rintro (e | ⟨rfl,e⟩)
      ·exact e
      ·exact absurd (filter_none (key:=Sc.key) (k:=ckey c) e) hn
   ·rw [List.filter_cons_of_neg (by simpa using hk)];constructor
    ·exact .inl
    ·rintro (e | ⟨rfl,_⟩)
     ·exact e
     ·exact absurd rfl hk
  rw [lasts];by_cases hab:ckey b=ckey a
  ·rw [if_pos hab,List.nil_append];refine⟨i1,fun c=>?_⟩;rw [i2,hL];constructor
   ·exact .inl
   ·rintro (e | ⟨_,e⟩)
    ·exact e
    ·exact absurd hab (e b List.mem_cons_self)
  ·rw [if_neg hab];have hlt:∀ d∈b::r,lt (ckey a) (ckey d)=true:=by
    intro d hd;have hb:=h1 b List.mem_cons_self;have hba:lt (ckey a) (ckey b)=true:=le_ne hb hab;rcases List.mem_cons.1 hd with rfl | hd
    ·exact hba
    ·exact O.lt_le hba ((List.pairwise_cons.1 h2).1 d hd)
   refine⟨UpK.cons.2 ⟨fun d hd=>hlt d (lasts_mem _ hd),i1⟩,fun c=>?_⟩;rw [hL,List.mem_append,i2];constructor
   ·rintro (e | e)
    ·simp at e;subst e;exact .inr ⟨rfl,fun d hd e=>by have:=O.ne (hlt d hd);exact this e.symm⟩
    ·exact .inl e
   ·rintro (e | ⟨rfl,_⟩)
    ·exact .inr e
    ·exact .inl (by simp)
theorem Lst.same {C C':List Ch}(h:Sm Sc.key C C') (c:Ch):Lst C c↔Lst C' c:=by unfold Lst;rw [h (ckey c)]
theorem app_lasts {D:List Itm}{C S:List Ch}(hD:UpK key D) (hs:Srt Sc.key lt S) (hm:Sm Sc.key C S):app D (lasts S)=app D C :=
 app_same hD fun c=>by rw [up_lst (lasts_spec S hs).1,(lasts_spec S hs).2,Lst.same hm]
theorem rt_of:∀ {D:List Itm},UpK key D→(∀ x∈D,okI x=true)→rt D=true:=by
 have H:∀ (D:List Itm) (y:Itm),UpK key (y::D)→(∀ x∈D,okI x=true)→rtFrom (some y) D=true:=by
  intro D;induction D with
  | nil=>intro y _ _;rfl
  | cons x r ih =>
   intro y h1 h2;obtain⟨h3,h4⟩:=UpK.cons.1 h1;show (okI x&&(By.bl (key y) (key x)&&rtFrom (some x) r))=true
   rw [h2 x List.mem_cons_self,ih x h4 fun z hz=>h2 z (List.mem_cons_of_mem _ hz)];have:=h3 x List.mem_cons_self;simpa using this
 intro D h1 h2;cases D with
 | nil=>rfl
 | cons x r =>
  show (okI x&&rtFrom (some x) r)=true
  rw [h2 x List.mem_cons_self,H r x h1 fun z hz=>h2 z (List.mem_cons_of_mem _ hz)];rfl
theorem rt_iff {D:List Itm}:rt D=true↔UpK key D∧∀ x∈D,okI x=true:=⟨rt_up,fun h=>rt_of h.1 h.2⟩
theorem rc_iff {C:List Ch}:rc C=true↔∀ c∈C,okC c=true:=by unfold rc;rw [List.all_eq_true]
theorem okC_itm {c:Ch}(h:okC c=true):okI (itm c)=true:=by
 simp only [okC,Bool.and_eq_true] at h;simp only [okI,itm,Bool.and_eq_true];exact⟨h.1,h.2.1⟩
theorem rt_app {D:List Itm}{C:List Ch}(hD:rt D=true) (hC:rc C=true):rt (app D C)=true:=by
 obtain⟨h1,h2⟩:=rt_iff.1 hD;refine rt_of (up_app _ h1) fun x hx=>?_
 rcases (mem_app _ x C).1 hx with ⟨h3,_⟩ | ⟨c,h3,_,rfl⟩
 ·exact h2 x h3
 ·exact okC_itm (rc_iff.1 hC c h3.mem)
theorem get_iff {D:List Itm}(h:UpK key D) (k v:ByteArray):get D k=some v↔(⟨k,v⟩:Itm)∈D:=by
 unfold get;have hk:∀ x:Itm,key x=k.data.toList→x.k=k:=by
  intro x e;have:=Array.toList_inj.1 e;exact ByteArray.ext this
 constructor
 ·intro e;obtain⟨x,hx,rfl⟩:=Option.map_eq_some_iff.1 e;have h1:=List.mem_of_find?_eq_some hx;have h2:key x=k.data.toList:=by simpa using List.find?_some hx
  have h3:=hk x h2;obtain⟨xk,xv⟩:=x;simp only at h3;subst h3;exact h1
 ·intro hm;cases hf:D.find? (fun x=>decide (key x=k.data.toList)) with
  | none =>
   have:=List.find?_eq_none.1 hf _ hm;simp [key] at this
  | some y =>
   have h1:=List.mem_of_find?_eq_some hf;have h2:key y=k.data.toList:=by simpa using List.find?_some hf
   have:y=⟨k,v⟩:=up_inj h h1 hm h2;subst this;rfl
def lastV (k:ByteArray):Option ByteArray→List Ch→Option ByteArray
 | o,[]=>o
 | o,c::C=>lastV k (if ckey c=k.data.toList then (if c.h then some c.v else none) else o) C
theorem get_don {D:List Itm}(h:UpK key D) (k:ByteArray) (c:Ch):get (don c D) k=if ckey c=k.data.toList then (if c.h then some c.v else none) else get D k:=by
 refine Option.ext fun v=>?_
 rw [get_iff (up_don c h),mem_don];have hk:ckey c=k.data.toList↔c.k=k:=by
  constructor
  ·intro e;exact ByteArray.ext (Array.toList_inj.1 e)
  ·rintro rfl;rfl
 by_cases hc:ckey c=k.data.toList
 ·rw [if_pos hc];have hc':=hk.1 hc;have e1:key (⟨k,v⟩:Itm)=ckey c:=hc.symm;rw [e1];by_cases hh:c.h=true
  ·rw [if_pos hh];constructor
   ·rintro (⟨_,h'⟩ | ⟨_,e⟩)
    ·exact absurd rfl h'
    ·have:v=c.v:=congrArg Itm.v e;rw [this]
   ·intro e;cases e;exact .inr ⟨hh,by rw [← hc'];rfl⟩
  ·rw [if_neg hh];constructor
   ·rintro (⟨_,h'⟩ | ⟨h',_⟩)
    ·exact absurd rfl h'
    ·exact absurd h' hh
   ·intro e;cases e
 ·rw [if_neg hc,get_iff h];constructor
  ·rintro (⟨h',_⟩ | ⟨_,e⟩)
   ·exact h'
   ·exact absurd (hk.2 (congrArg Itm.k e).symm) hc
  ·intro h';exact .inl ⟨h',fun e=>hc e.symm⟩
theorem get_app (k:ByteArray):∀ (C:List Ch){D:List Itm},UpK key D→get (app D C) k=lastV k (get D k) C
 | [],D,_=>rfl
 | c::C,D,h=>by
  rw [app_cons,get_app k C (up_don c h),get_don h,lastV]
open Ar Rg St
def gone (x:Itm):Ch:=⟨x.k,false,ByteArray.empty⟩
def there (x:Itm):Ch:=⟨x.k,true,x.v⟩
def dif:List Itm→List Itm→List Ch
 | [],[]=>[]
 | a::A,[]=>gone a::dif A []
 | [],b::B=>there b::dif [] B
 | a::A,b::B =>
  if lt (key a) (key b) then gone a::dif A (b::B)
  else if lt (key b) (key a) then there b::dif (a::A) B
  else (if a.v.data.toList=b.v.data.toList then [] else [there b])++dif A B
termination_by A B=>A.length+B.length
theorem dif_nil (A:List Itm):dif [] []=[]:=by rw [dif]
theorem dif_left (a:Itm) (A:List Itm):dif (a::A) []=gone a::dif A []:=by rw [dif]
theorem dif_right (b:Itm) (B:List Itm):dif [] (b::B)=there b::dif [] B:=by rw [dif]
theorem dif_lt {a b:Itm}(A B:List Itm) (h:lt (key a) (key b)=true):dif (a::A) (b::B)=gone a::dif A (b::B):=by rw [dif,if_pos h]
theorem dif_gt {a b:Itm}(A B:List Itm) (h:lt (key b) (key a)=true):dif (a::A) (b::B)=there b::dif (a::A) B:=by
 rw [dif,if_neg (by rw [O.asymm _ _ h];simp),if_pos h]
theorem dif_same {a b:Itm}(A B:List Itm) (h:key a=key b) (hv:a.v.data.toList=b.v.data.toList):dif (a::A) (b::B)=dif A B:=by
 rw [dif,h,O.irrefl,if_neg (by simp),if_neg (by simp),if_pos hv];rfl
theorem dif_other {a b:Itm}(A B:List Itm) (h:key a=key b) (hv:a.v.data.toList≠b.v.data.toList):dif (a::A) (b::B)=there b::dif A B:=by
 rw [dif,h,O.irrefl,if_neg (by simp),if_neg (by simp),if_neg hv];rfl
theorem dif_len (A B:List Itm):(dif A B).length≤A.length+B.length:=by
 fun_induction dif A B with
 | case1=>simp
 | case2 a A ih=>simp at ih ⊢;omega
 | case3 b B ih=>simp at ih ⊢;omega
 | case4 a A b B h ih=>simp at ih ⊢;omega
 | case5 a A b B h h' ih=>simp at ih ⊢;omega
 | case6 a A b B h h' ih =>
  rw [List.length_append];have:(if a.v.data.toList=b.v.data.toList then [] else [there b]).length≤1:=by split<;>simp
  simp only [List.length_cons];omega
theorem itm_ext {a b:Itm}(h:key a=key b) (hv:a.v.data.toList=b.v.data.toList):a=b:=by
 obtain⟨ak,av⟩:=a;obtain⟨bk,bv⟩:=b;have h1:ak=bk:=ByteArray.ext (Array.toList_inj.1 h);have h2:av=bv:=ByteArray.ext (Array.toList_inj.1 hv);rw [h1,h2]
def InDif (A B:List Itm) (c:Ch):Prop:=(∃ x,x∈A∧c=gone x∧∀ y∈B,key y≠key x)∨∃ y,y∈B∧c=there y∧y ∉ A
theorem mem_dif (c:Ch) (A B:List Itm) (hA:UpK key A) (hB:UpK key B):c∈dif A B↔InDif A B c:=by
 unfold InDif
 fun_induction dif A B with
 | case1=>simp
 | case2 a A ih =>
  rw [List.mem_cons,ih (UpK.cons.1 hA).2 hB];simp
 | case3 b B ih =>
  rw [List.mem_cons,ih hA (UpK.cons.1 hB).2];simp
 | case4 a A b B h ih =>
  obtain⟨a1,a2⟩:=UpK.cons.1 hA;obtain⟨b1,b2⟩:=UpK.cons.1 hB;rw [List.mem_cons,ih a2 hB];have hlt:∀ y∈b::B,lt (key a) (key y)=true:=by
   intro y hy;rcases List.mem_cons.1 hy with rfl | hy
   ·exact h
   ·exact O.trans _ _ _ h (b1 y hy)
  constructor
  ·rintro (rfl | ⟨x,h1,h2,h3⟩ | ⟨y,h1,h2,h3⟩)
   ·exact .inl ⟨a,List.mem_cons_self,rfl,fun y hy e=>O.ne (hlt y hy) e.symm⟩
   ·exact .inl ⟨x,List.mem_cons_of_mem _ h1,h2,h3⟩
   ·refine .inr ⟨y,h1,h2,fun hm=>?_⟩;rcases List.mem_cons.1 hm with rfl | hm
    ·exact O.ne (hlt y h1) rfl
    ·exact h3 hm
  ·rintro (⟨x,h1,h2,h3⟩ | ⟨y,h1,h2,h3⟩)
   ·rcases List.mem_cons.1 h1 with rfl | h1
    ·exact .inl h2
    ·exact .inr (.inl ⟨x,h1,h2,h3⟩)
   ·exact .inr (.inr ⟨y,h1,h2,fun hm=>h3 (List.mem_cons_of_mem _ hm)⟩)
 | case5 a A b B h h' ih =>
  obtain⟨a1,a2⟩:=UpK.cons.1 hA;obtain⟨b1,b2⟩:=UpK.cons.1 hB;rw [List.mem_cons,ih hA b2];have hlt:∀ x∈a::A,lt (key b) (key x)=true:=by
   intro y hy;rcases List.mem_cons.1 hy with rfl | hy
   ·exact h'
   ·exact O.trans _ _ _ h' (a1 y hy)
  constructor
  ·rintro (rfl | ⟨x,h1,h2,h3⟩ | ⟨y,h1,h2,h3⟩)
   ·exact .inr ⟨b,List.mem_cons_self,rfl,fun hm=>O.ne (hlt b hm) rfl⟩
   ·refine .inl ⟨x,h1,h2,fun y hy=>?_⟩;rcases List.mem_cons.1 hy with rfl | hy
    ·exact O.ne (hlt x h1)
    ·exact h3 y hy
   ·exact .inr ⟨y,List.mem_cons_of_mem _ h1,h2,h3⟩
  ·rintro (⟨x,h1,h2,h3⟩ | ⟨y,h1,h2,h3⟩)
   ·exact .inr (.inl ⟨x,h1,h2,fun y hy=>h3 y (List.mem_cons_of_mem _ hy)⟩)
   ·rcases List.mem_cons.1 h1 with rfl | h1
    ·exact .inl h2
    ·exact .inr (.inr ⟨y,h1,h2,h3⟩)
 | case6 a A b B h h' ih =>
  obtain⟨a1,a2⟩:=UpK.cons.1 hA;obtain⟨b1,b2⟩:=UpK.cons.1 hB;have hk:key a=key b:=O.tri _ _ (by simpa using h) (by simpa using h');rw [List.mem_append,ih a2 b2];have hbA:b ∉ A:=fun hm=>O.ne (a1 b hm) hk
  have hx:∀ x∈A,∀ y,y=b→key y≠key x:=by
   rintro x hx y rfl e;exact O.ne (a1 x hx) (hk.trans e)
  have hy:∀ y∈B,y≠a:=by
   rintro y hy rfl;exact O.ne (b1 y hy) hk.symm
  constructor
  ·rintro (h0 | ⟨x,h1,h2,h3⟩ | ⟨y,h1,h2,h3⟩)
   ·split at h0
    ·cases h0
    ·rename_i hv;simp at h0;subst h0;refine .inr ⟨b,List.mem_cons_self,rfl,fun hm=>?_⟩;rcases List.mem_cons.1 hm with e | hm
     ·exact hv (by rw [e])
     ·exact hbA hm
   ·refine .inl ⟨x,List.mem_cons_of_mem _ h1,h2,fun y hy=>?_⟩;rcases List.mem_cons.1 hy with e | hy
    ·exact hx x h1 y e
    ·exact h3 y hy
   ·refine .inr ⟨y,List.mem_cons_of_mem _ h1,h2,fun hm=>?_⟩;rcases List.mem_cons.1 hm with e | hm
    ·exact hy y h1 e
    ·exact h3 hm
  ·rintro (⟨x,h1,h2,h3⟩ | ⟨y,h1,h2,h3⟩)
   ·rcases List.mem_cons.1 h1 with e | h1
    ·exact absurd (hk.symm.trans (by rw [e])) (h3 b List.mem_cons_self)
    ·exact .inr (.inl ⟨x,h1,h2,fun y hy=>h3 y (List.mem_cons_of_mem _ hy)⟩)
   ·rcases List.mem_cons.1 h1 with e | h1
    ·subst e;left;have hv:a.v.data.toList≠y.v.data.toList:=by
      intro hv;exact h3 (by rw [itm_ext hk hv];exact List.mem_cons_self)
     rw [if_neg hv];simpa using h2
    ·exact .inr (.inr ⟨y,h1,h2,fun hm=>h3 (List.mem_cons_of_mem _ hm)⟩)
theorem InDif.key {A B:List Itm}{c:Ch}(h:InDif A B c):(∃ x∈A,ckey c=key x)∨∃ y∈B,ckey c=key y:=by
 rcases h with ⟨x,h1,rfl,_⟩ | ⟨y,h1,rfl,_⟩
 ·exact .inl ⟨x,h1,rfl⟩
 ·exact .inr ⟨y,h1,rfl⟩
theorem up_dif (A B:List Itm) (hA:UpK key A) (hB:UpK key B):UpK Sc.key (dif A B):=by
 have hm:=fun c A B hA hB=>mem_dif c A B hA hB
 fun_induction dif A B with
 | case1=>exact UpK.nil
 | case2 a A ih =>
  obtain⟨a1,a2⟩:=UpK.cons.1 hA;refine UpK.cons.2 ⟨fun c hc=>?_,ih a2 hB⟩;rcases ((hm c A [] a2 hB).1 hc).key with ⟨x,h1,h2⟩ | ⟨y,h1,h2⟩
  ·rw [show Sc.key c=key x from h2];exact a1 x h1
  ·cases h1
 | case3 b B ih =>
  obtain⟨b1,b2⟩:=UpK.cons.1 hB;refine UpK.cons.2 ⟨fun c hc=>?_,ih hA b2⟩;rcases ((hm c [] B hA b2).1 hc).key with ⟨x,h1,h2⟩ | ⟨y,h1,h2⟩
  ·cases h1
  ·rw [show Sc.key c=key y from h2];exact b1 y h1
 | case4 a A b B h ih =>
  obtain⟨a1,a2⟩:=UpK.cons.1 hA;obtain⟨b1,b2⟩:=UpK.cons.1 hB;refine UpK.cons.2 ⟨fun c hc=>?_,ih a2 hB⟩;rcases ((hm c A (b::B) a2 hB).1 hc).key with ⟨x,h1,h2⟩ | ⟨y,h1,h2⟩
  ·rw [show Sc.key c=key x from h2];exact a1 x h1
  ·rw [show Sc.key c=key y from h2];rcases List.mem_cons.1 h1 with rfl | h1
   ·exact h
   ·exact O.trans _ _ _ h (b1 y h1)
 | case5 a A b B h h' ih =>
  obtain⟨a1,a2⟩:=UpK.cons.1 hA;obtain⟨b1,b2⟩:=UpK.cons.1 hB;refine UpK.cons.2 ⟨fun c hc=>?_,ih hA b2⟩;rcases ((hm c (a::A) B hA b2).1 hc).key with ⟨x,h1,h2⟩ | ⟨y,h1,h2⟩
  ·rw [show Sc.key c=key x from h2];rcases List.mem_cons.1 h1 with rfl | h1
   ·exact h'
   ·exact O.trans _ _ _ h' (a1 x h1)
  ·rw [show Sc.key c=key y from h2];exact b1 y h1
 | case6 a A b B h h' ih =>
  obtain⟨a1,a2⟩:=UpK.cons.1 hA;obtain⟨b1,b2⟩:=UpK.cons.1 hB;have hk:key a=key b:=O.tri _ _ (by simpa using h) (by simpa using h');refine UpK.append.2 ⟨by split;exact UpK.nil;exact UpK.one _,ih a2 b2,?_⟩;intro x hx c hc;have hxk:Sc.key x=key b:=by
   split at hx
   ·cases hx
   ·simp at hx;subst hx;rfl
  rw [hxk];rcases ((hm c A B a2 b2).1 hc).key with ⟨z,h1,h2⟩ | ⟨y,h1,h2⟩
  ·rw [show Sc.key c=key z from h2,← hk];exact a1 z h1
  ·rw [show Sc.key c=key y from h2];exact b1 y h1
theorem app_dif {A B:List Itm}(hA:UpK key A) (hB:UpK key B):app A (dif A B)=B:=by
 refine up_ext (up_app _ hA) hB fun x=>?_
 rw [mem_app];constructor
 ·rintro (⟨h1,h2⟩ | ⟨c,h1,h2,rfl⟩)
  ·refine Classical.byContradiction fun hx=>?_
   by_cases hex:∃ y∈B,key y=key x
   ·obtain⟨y,hy,e⟩:=hex;by_cases hyA:y∈A
    ·have:=up_inj hA hyA h1 e;subst this;exact hx hy
    ·exact h2 (there y) ((mem_dif _ A B hA hB).2 (.inr ⟨y,hy,rfl,hyA⟩)) e
   ·exact h2 (gone x) ((mem_dif _ A B hA hB).2 (.inl ⟨x,h1,rfl,fun y hy e=>hex ⟨y,hy,e⟩⟩)) rfl
  ·rcases (mem_dif c A B hA hB).1 h1.mem with ⟨y,_,rfl,_⟩ | ⟨y,h3,rfl,_⟩
   ·cases h2
   ·exact h3
 ·intro hx;by_cases hxA:x∈A
  ·refine .inl ⟨hxA,fun c hc e=>?_⟩;rcases (mem_dif c A B hA hB).1 hc with ⟨y,h1,rfl,h3⟩ | ⟨y,h1,rfl,h3⟩
   ·exact h3 x hx e.symm
   ·have:=up_inj hB h1 hx e;subst this;exact h3 hxA
  ·exact .inr ⟨there x,(up_lst (up_dif A B hA hB) _).2 ((mem_dif _ A B hA hB).2 (.inr ⟨x,hx,rfl,hxA⟩)),rfl,rfl⟩
theorem dif_self {A:List Itm}(hA:UpK key A):dif A A=[]:=by
 refine List.eq_nil_iff_forall_not_mem.2 fun c hc=>?_
 rcases (mem_dif c A A hA hA).1 hc with ⟨x,h1,_,h3⟩ | ⟨y,h1,_,h3⟩
 ·exact h3 x h1 rfl
 ·exact h3 h1
theorem rc_dif {A B:List Itm}(hA:rt A=true) (hB:rt B=true):rc (dif A B)=true:=by
 obtain⟨a1,a2⟩:=rt_iff.1 hA;obtain⟨b1,b2⟩:=rt_iff.1 hB;refine rc_iff.2 fun c hc=>?_
 rcases (mem_dif c A B a1 b1).1 hc with ⟨x,h1,rfl,h3⟩ | ⟨y,h1,rfl,h3⟩
 ·have h:=a2 x h1;simp only [okI,Bool.and_eq_true] at h;simp only [okC,gone,Bool.and_eq_true];exact⟨h.1,rfl,by rw [ByteArray.toList_eq];rfl⟩
 ·have h:=b2 y h1;simp only [okI,Bool.and_eq_true] at h;simp only [okC,there,Bool.and_eq_true];exact⟨h.1,h.2,rfl⟩
def pre (p:ByteArray) (x:Itm):Bool:=p.data.toList.isPrefixOf (key x)
def und (D:List Itm) (p:ByteArray):List Itm:=D.filter (pre p)
theorem bl_nil (a:List UInt8):By.bl a []=false:=by cases a<;>rfl
theorem pre_ge:∀ p a:List UInt8,p.isPrefixOf a=true→By.bl a p=false
 | [],a,_=>bl_nil a
 | x::p,[],h=>by cases h
 | x::p,y::a,h=>by
  have h':(x==y&&p.isPrefixOf a)=true:=h;rw [Bool.and_eq_true] at h';have e:x=y:=by simpa using h'.1
  subst e;rw [Bool.eq_false_iff];intro h2;rcases (By.bl_cons _ _ _ _).1 h2 with h3 | ⟨_,h3⟩
  ·exact By.u8_irrefl h3
  ·rw [pre_ge p a h'.2] at h3;cases h3
theorem pre_mid:∀ p a b:List UInt8,By.bl a p=false→By.bl a b=true→p.isPrefixOf b=true→p.isPrefixOf a=true
 | [],_,_,_,_,_=>rfl
 | x::p,a,[],_,_,h=>by cases h
 | x::p,[],y::b,h,_,_=>by cases h
 | x::p,z::a,y::b,h1,h2,h3=>by
  have h':(x==y&&p.isPrefixOf b)=true:=h3;rw [Bool.and_eq_true] at h';have e:x=y:=by simpa using h'.1
  subst e;have n1:¬ (z<x∨(z=x∧By.bl a p=true)):=fun e=>by rw [(By.bl_cons z x a p).2 e] at h1;cases h1
  rcases (By.bl_cons _ _ _ _).1 h2 with h4 | ⟨rfl,h4⟩
  ·exact absurd (.inl h4) n1
  ·have:By.bl a p=false:=by
    rw [Bool.eq_false_iff];exact fun e=>n1 (.inr ⟨rfl,e⟩)
   show (z==z&&p.isPrefixOf a)=true
   rw [pre_mid p a b this h4 h'.2];simp
theorem und_piece {D:List Itm}{p:ByteArray}{i:Nat}(hD:UpK key D) (h:At D p i):und D p=(D.drop i).takeWhile (pre p):=by
 obtain⟨h1,h2,h3⟩:=h;unfold und;have e0:D.filter (pre p)=(D.take i).filter (pre p)++(D.drop i).filter (pre p):=by rw [← List.filter_append,List.take_append_drop]
 have e1:(D.take i).filter (pre p)=[]:=by
  refine List.filter_eq_nil_iff.2 fun x hx hp=>?_
  have:=pre_ge _ _ hp;rw [show By.bl (key x) p.data.toList=true from h2 x hx] at this;cases this
 rw [e0,e1,List.nil_append];have hu:UpK key (D.drop i):=hD.sub (List.drop_sublist _ _);clear e0 e1;generalize D.drop i=E at *;induction E with
 | nil=>rfl
 | cons x E ih =>
  obtain⟨u1,u2⟩:=UpK.cons.1 hu;by_cases hx:pre p x=true
  ·rw [List.filter_cons_of_pos hx,List.takeWhile_cons_of_pos hx];rw [ih (fun y hy=>h3 y (List.mem_cons_of_mem _ hy)) u2]
  ·rw [List.takeWhile_cons_of_neg hx,List.filter_cons_of_neg hx];refine List.filter_eq_nil_iff.2 fun y hy hp=>hx ?_
   exact pre_mid _ _ _ (h3 x List.mem_cons_self) (u1 y hy) hp
end Go.Proofs.YtopepebcnaikiaaGreatDoor.It
namespace Go.Proofs.YtopepebcnaikiaaGreatDoor.Da
open Lib (hid)
open It (Itm Ch key ckey get app und pre UpK rt rc)
open Ino (Ky okK okK_iff wrK wrK_inj pfx deK deKE deK_back deK_ok wrK_pfx pfx_inj pfx_ok)
def kyC (I k:Nat):Ky:=⟨3,I,ByteArray.empty,k⟩
def cky (I k:Nat):ByteArray:=wrK (kyC I k)
theorem kyC_ok {I k:Nat}(h:1≤I) (hk:k<512):okK (kyC I k)=true:=okK_iff.2 ⟨h,.inr (.inr ⟨rfl,rfl,hk⟩)⟩
theorem kyC_lim {I k:Nat}(h:I<4294967296) (hk:k<512):(kyC I k).lim:=⟨by show 3<256;omega,h,by show k<4294967296;omega⟩
theorem cky_inj {I J k l:Nat}(hI:1≤I) (hI2:I<4294967296) (hJ:1≤J) (hJ2:J<4294967296) (hk:k<512) (hl:l<512) (h:cky I k=cky J l):I=J∧k=l:=by
 have:=wrK_inj (kyC_lim hI2 hk) (kyC_lim hJ2 hl) (kyC_ok hI hk) (kyC_ok hJ hl) h;unfold kyC at this;simp only [Ky.mk.injEq] at this;exact⟨this.2.1,this.2.2.2⟩
theorem cky_parse {I k:Nat}(hI:1≤I) (hI2:I<4294967296) (hk:k<512):deK (cky I k)=kyC I k∧deKE (cky I k)=0:=deK_back (kyC_lim hI2 hk) (kyC_ok hI hk)
structure Ck where
 n:Nat
 k:ByteArray
 h:Bool
 v:ByteArray
def ckOf (x:Itm):Option Ck:=if deKE x.k=0 then some ⟨(deK x.k).C,x.k,true,x.v⟩ else none
def chs (D:List Itm) (I:Nat):List Ck:=(und D (pfx 3 I)).filterMap ckOf
theorem pre_iff {p:ByteArray}{x:Itm}:pre p x=true↔∃ r,x.k.data.toList=p.data.toList++r:=by
 unfold pre key;rw [List.isPrefixOf_iff_prefix];exact⟨fun ⟨r,h⟩=>⟨r,h.symm⟩,fun ⟨r,h⟩=>⟨r,h.symm⟩⟩
theorem cky_pre {I k:Nat}(hI:1≤I) (hk:k<512):∃ r,(cky I k).data.toList=(pfx 3 I).data.toList++r:=by
 obtain⟨h,_⟩:=wrK_pfx (kyC_ok hI hk);unfold cky;rw [h];exact⟨_,by rw [ByteArray.data_append,Array.toList_append];rfl⟩
theorem ck_key {I:Nat}(hI:1≤I) (hI2:I<4294967296){x:Itm}(hp:pre (pfx 3 I) x=true) (hk:deKE x.k=0):∃ k,k<512∧x.k=cky I k∧(deK x.k).C=k:=by
 obtain⟨h1,h2,h3⟩:=deK_ok hk;obtain⟨p1,p2,p3,p4⟩:=wrK_pfx h1;obtain⟨q1,q2⟩:=pfx_ok (kyC_ok hI (show (0:Nat)<512 by omega));obtain⟨q3,q4⟩:=pfx_ok h1;obtain⟨r,hr⟩:=pre_iff.1 hp;have e5:(deK x.k).K=3∧(deK x.k).I=I:=by
  have e1:pfx (deK x.k).K (deK x.k).I=pfx 3 I:=by
   rw [← p2,h2];apply ByteArray.ext;apply Array.toList_inj.1;rw [ByteArray.data_extract,Array.toList_extract,List.extract_eq_take_drop,hr];have hz:(pfx 3 I).data.toList.length=5:=by rw [Array.length_toList];exact q2
   rw [List.drop_zero,Nat.sub_zero,List.take_append_of_le_length (by omega),List.take_of_length_le (by omega)]
  exact pfx_inj (a:=deK x.k) (b:=kyC I 0) h3 (kyC_lim hI2 (by omega)) h1 (kyC_ok hI (by omega)) e1
 obtain⟨e6,e7⟩:=e5;obtain⟨_,h4⟩:=okK_iff.1 h1;have hN:(deK x.k).N.size=0∧(deK x.k).C<512:=by
  rcases h4 with ⟨a,_⟩ | ⟨a,_⟩ | ⟨_,b,c⟩
  ·omega
  ·omega
  ·exact⟨b,c⟩
 have hNe:=Ino.size0 hN.1;refine⟨(deK x.k).C,hN.2,?_,rfl⟩;have:deK x.k=kyC I (deK x.k).C:=by
  have:deK x.k=⟨(deK x.k).K,(deK x.k).I,(deK x.k).N,(deK x.k).C⟩:=rfl;rw [this,e6,e7,hNe];rfl
 unfold cky;rw [← this,h2]
theorem mem_chs {D:List Itm}{I:Nat}(hI:1≤I) (hI2:I<4294967296) (c:Ck):c∈chs D I↔∃ k v,k<512∧(⟨cky I k,v⟩:Itm)∈D∧c=⟨k,cky I k,true,v⟩:=by
 unfold chs und ckOf;rw [List.mem_filterMap];constructor
 ·rintro ⟨x,hx,hc⟩;obtain⟨hD,hp⟩:=List.mem_filter.1 hx;split at hc
  ·rename_i hk;obtain⟨k,h1,h2,h3⟩:=ck_key hI hI2 hp hk;refine⟨k,x.v,h1,?_,?_⟩
   ·rw [← h2];exact hD
   ·rw [← Option.some.inj hc,h3,h2]
  ·cases hc
 ·rintro ⟨k,v,hk,hD,rfl⟩;refine⟨⟨cky I k,v⟩,List.mem_filter.2 ⟨hD,pre_iff.2 (cky_pre hI hk)⟩,?_⟩;obtain⟨p1,p2⟩:=cky_parse hI hI2 hk;show (if deKE (cky I k)=0 then _ else none)=_
  rw [if_pos p2];show some (Ck.mk (deK (cky I k)).C _ _ _)=_
  rw [p1];rfl
end Go.Proofs.YtopepebcnaikiaaGreatDoor.Da
namespace Go.Proofs.YtopepebcnaikiaaGreatDoor.Tm
open Lib (hid)
open Go.ChangeShapes Go.WideShapes Go.ChangeAt Go.RowKit
open Ar Rg St
open BigFrame
theorem str_eq (a b:ByteArray):(a.toList==b.toList)=decide (a.data.toList=b.data.toList):=by
 rw [ByteArray.toList_eq,ByteArray.toList_eq,Bool.eq_iff_iff];simp
def Z0:ByteArray:={ data:=#[0] }
def sfx (s:ByteArray):Bool:=decide (s.data.toList.getLast?=some 0)
theorem sfx_empty {s:ByteArray}(h:s.size=0):sfx s=false:=by
 have:s.data.toList=[]:=by
  rw [← List.length_eq_zero_iff];simpa using h
 unfold sfx;rw [this];rfl
theorem last_at {s:ByteArray}(h:0<s.size):s.data.toList.getLast?=some (s[s.size-1]'(by omega)):=by
 rw [List.getLast?_eq_getElem?,List.getElem?_eq_getElem (by simp;omega)];simp;rfl
theorem sfx_at {s:ByteArray}(h:0<s.size):sfx s=decide (s[s.size-1]'(by omega)=0):=by
 unfold sfx;rw [last_at h];exact decide_eq_decide.2 (by simp)
theorem sfx_cut {s:ByteArray}(h:0<s.size):((s.extract (s.size-1) s.size).toList==[0])=sfx s:=by
 have e0:((s.extract (s.size-1) s.size).toList==[0])=decide ((s.extract (s.size-1) s.size).data.toList=[0]):=by
  rw [ByteArray.toList_eq,Bool.eq_iff_iff];simp
 rw [e0,sfx_at h];refine decide_eq_decide.2 ?_;have e:(s.extract (s.size-1) s.size).data.toList=[s[s.size-1]'(by omega)]:=by
  rw [ByteArray.data_extract];have hl:s.data.size=s.size:=rfl;rw [Array.toList_extract,List.extract_eq_take_drop];have hd:s.data.toList.drop (s.size-1)=[s[s.size-1]'(by omega)]:=by
   rw [List.drop_eq_getElem_cons (by simp;omega),List.drop_eq_nil_of_le (by simp;omega)];simp;rfl
  rw [hd];rw [show s.size-(s.size-1)=1 by omega];rfl
 rw [e];simp
theorem liteSuffix_any (s:ByteArray) (hs:s.size≤9223372036854775807) (w:World) :
  Calls Tryz.prog 164 #[.string s,.string Z0] w fun e w'=>e=.returned (.bool (sfx s))∧w=w':=by
 by_cases h:0<s.size
 ·have h1:decide ((1:Int)≤(s.size:Int))=true:=by rw [decide_eq_true_iff];omega
  obtain⟨q,hq⟩:∃ q,sfx s=q:=⟨_,rfl⟩;have he:=sfx_cut h;rw [hq] at he ⊢;have h2:(0:Int)≤(s.size:Int)-1:=by omega
  have h3:((s.size:Int)-1).toNat=s.size-1:=by omega
  unfold Z0 at *;clear hq
  go_enter Tryz.func164,Tryz.ntmps164
  go_wp2
  go_ret
  exact⟨rfl,rfl⟩
 ·have h1:decide ((1:Int)≤(s.size:Int))=false:=by rw [decide_eq_false_iff_not];omega
  rw [sfx_empty (by omega)];unfold Z0
  go_enter Tryz.func164,Tryz.ntmps164
  go_wp2
  go_ret
  exact⟨rfl,rfl⟩
theorem hasSuffix_any (s:ByteArray) (hs:s.size≤9223372036854775807) (w:World) :
  Calls Tryz.prog 133 #[.string s,.string { data:=#[0] }] w fun e w'=>e=.returned (.bool (sfx s))∧w=w':=by
 have HC:=hid (liteSuffix_any s hs w);unfold Z0 at HC
 go_enter Tryz.func133,Tryz.ntmps133
 go_wp2_with (go_at_call 164;refine HC.out.mono ?_;rintro e w' ⟨rfl,rfl⟩)
 go_ret
 exact⟨rfl,rfl⟩
def cutL (l:List UInt8):List UInt8:=(l.reverse.dropWhile fun b=>decide (b=0)).reverse
def cutB (s:ByteArray):ByteArray:=⟨(cutL s.data.toList).toArray⟩
theorem cutL_snoc (l:List UInt8) (b:UInt8):cutL (l++[b])=if b=0 then cutL l else l++[b]:=by
 unfold cutL;rw [List.reverse_append,List.reverse_singleton,List.singleton_append];by_cases h:b=0
 ·rw [if_pos h,List.dropWhile_cons_of_pos (by simpa using h)]
 ·rw [if_neg h,List.dropWhile_cons_of_neg (by simpa using h),List.reverse_cons,List.reverse_reverse]
theorem split_last {s:ByteArray}(h:0<s.size):s.data.toList=(s.extract 0 (s.size-1)).data.toList++[s[s.size-1]'(by omega)]:=by
 have e:(s.extract 0 (s.size-1)).data.toList=s.data.toList.take (s.size-1):=by
  rw [ByteArray.data_extract,Array.toList_extract,List.extract_eq_take_drop];simp
 have hd:s.data.toList.drop (s.size-1)=[s[s.size-1]'(by omega)]:=by
  rw [List.drop_eq_getElem_cons (by simp;omega),List.drop_eq_nil_of_le (by simp;omega)];simp;rfl
 rw [e,← hd,List.take_append_drop]
theorem cutB_zero {s:ByteArray}(h:0<s.size) (hz:s[s.size-1]'(by omega)=0):cutB (s.extract 0 (s.size-1))=cutB s:=by
 unfold cutB;rw [split_last h,cutL_snoc,if_pos hz]
theorem cutB_done {s:ByteArray}(h:0<s.size) (hz:s[s.size-1]'(by omega)≠0):cutB s=s:=by
 unfold cutB;refine ByteArray.ext ?_;show (cutL s.data.toList).toArray=s.data
 rw [split_last h,cutL_snoc,if_neg hz,← split_last h]
theorem cutB_empty {s:ByteArray}(h:s.size=0):cutB s=s:=by
 have hl:s.data.toList=[]:=by rw [← List.length_eq_zero_iff];simpa using h
 unfold cutB;refine ByteArray.ext ?_;show (cutL s.data.toList).toArray=s.data
 rw [hl];have:s.data=#[]:=by rw [← Array.toList_inj,hl]
 rw [this];rfl
theorem trimByte_any (s:ByteArray) (hs:s.size≤9223372036854775807) (w:World) :
  Calls Tryz.prog 197 #[.string s,.int .u8 0] w fun e w'=>e=.returned (.string (cutB s))∧w=w':=by
 go_enter Tryz.func197,Tryz.ntmps197
 go_wp2_with fail
 go_loop [0] (fun v=>∃ t:ByteArray,t.size≤9223372036854775807∧v=.string t∧Hid (cutB t=cutB s)) (fun v=>match v with | .string t=>t.size | _=>0)
 case atStart=>exact⟨s,hs,rfl,rfl⟩
 case round =>
  obtain⟨t,ht,rfl,hc⟩:=hrel;by_cases h0:0<t.size
  ·have q1:decide ((0:Int)<(t.size:Int))=true:=by rw [decide_eq_true_iff];omega
   have h2:(0:Int)≤(t.size:Int)-1:=by omega
   have h3:((t.size:Int)-1).toNat=t.size-1:=by omega
   have h4:t.size-1<t.size:=by omega
   by_cases hz:t[t.size-1]=0
   ·have HC:=hid ((cutB_zero h0 hz).trans (Hid.out hc));have hb:((t[t.size-1].toNat:Int)==0)=true:=by rw [hz];rfl
    have h5:(t.extract 0 (t.size-1)).size=t.size-1:=by simp
    have H5:=hid h5;clear hc hz h5
    go_wp2
    exact⟨⟨_,by rw [H5.out];omega,rfl,HC.out⟩,by show (t.extract 0 (t.size-1)).size<t.size;rw [H5.out];omega⟩
   ·have HC:=hid ((cutB_done h0 hz).symm.trans (Hid.out hc));have hb:((t[t.size-1].toNat:Int)==0)=false:=by
     rw [beq_eq_false_iff_ne];intro e;have e2:t[t.size-1].toNat=0:=by omega
     exact hz (UInt8.toNat.inj e2)
    clear hc hz
    go_wp2
    go_ret
    exact⟨by rw [← HC.out];rfl,rfl⟩
  ·have q1:decide ((0:Int)<(t.size:Int))=false:=by rw [decide_eq_false_iff_not];omega
   have HC:=hid ((cutB_empty (show t.size=0 by omega)).symm.trans (Hid.out hc));clear hc
   go_wp2
   go_ret
   exact⟨by rw [← HC.out];rfl,rfl⟩
theorem trimRight_any (s:ByteArray) (hs:s.size≤9223372036854775807) (w:World) :
  Calls Tryz.prog 191 #[.string s,.string { data:=#[0] }] w fun e w'=>e=.returned (.string (cutB s))∧w=w':=by
 have HC:=hid (trimByte_any s hs w);by_cases h0:s.size=0
 ·have hk:s={ data:=#[] }:=by
   obtain⟨d⟩:=s
   congr
   exact Array.eq_empty_of_size_eq_zero h0
  have HE:=hid (cutB_empty h0);clear h0;rw [HE.out];subst hk
  go_enter Tryz.func191,Tryz.ntmps191
  go_wp2
  go_ret
  exact⟨rfl,rfl⟩
 ·have hk:s.toList.isEmpty=false:=by
   rw [Bool.eq_false_iff];intro h;have h2:s.toList=[]:=List.isEmpty_iff.1 h;rw [ByteArray.toList_eq] at h2;have h3:s.data.size=0:=by rw [← Array.length_toList,h2];rfl
   exact h0 h3
  clear h0
  go_enter Tryz.func191,Tryz.ntmps191
  go_wp2_with (go_at_call 197;refine HC.out.mono ?_;rintro e w' ⟨rfl,rfl⟩)
  go_ret
  exact⟨rfl,rfl⟩
end Go.Proofs.YtopepebcnaikiaaGreatDoor.Tm
namespace Go.Proofs.YtopepebcnaikiaaGreatDoor.It
open Lib (hid)
open Go.ChangeShapes Go.WideShapes Go.ChangeAt Go.RowKit
open Ar Rg St
open BigFrame
theorem enc_one (x:Itm):∀ u∈enc x,u.oneCell'=true:=by
 intro v hv;simp [enc] at hv;rcases hv with rfl | rfl<;>rfl
theorem infoI:(Tryz.prog.info? 90).map (fun i=>(i.zero,i.size,i.bytes))=some (some (.agg #[.string ByteArray.empty,.string ByteArray.empty]),2,32):=by kernel_rfl
theorem infoC:(Tryz.prog.info? 138).map (fun i=>(i.zero,i.size,i.bytes))=some (some (.agg #[.string ByteArray.empty,.bool false,.string ByteArray.empty]),3,40):=by kernel_rfl
abbrev MkI (w wr:World) (v:Value) (D:List Itm):Prop:=Mk enc 2 90 w wr v D
abbrev MkC (w wr:World) (v:Value) (D:List Ch):Prop:=Mk Sc.enc 3 138 w wr v D
theorem catI {ops:Array Oper}{rest:List Oper}{o:Oper}{a:Act}{Q:Exit→Act→World→Prop}{w wr:World}{v:Value}{D:List Itm}(hM:MkI w wr v D) (E:List Itm) (A:Option Addr) (m c:Nat){B:Nat}(hm:m=E.length) (hL:Ls enc 2 wr B A E) (hlen:D.length+m≤4398046511104)
  (hgd:o.guard=none) (s x:Operand) (ho:o.op=.call { callee:=.builtin .append,args:=#[s,x],argTypes:=#[22,22] }) (hs:a.eval s=v) (hx:a.eval x=.slice A m c)
  (h:∀ v' w',MkI w w' v' (D++E)→wr.grownBy w' v.ownBlock→wpList Tryz.prog ops Q rest (a.put o.dst v') w'):wpList Tryz.prog ops Q (o::rest) a wr:=by
 obtain⟨i0,hi,hz0,hz1,hz2⟩:=info_parts infoI;exact wpList_cat 22 i0 _ 32 Tryz.underlying22 hi hz0 hz1 hz2 rfl (by decide) enc_len enc_one hM m c hm hL (by unfold maxLen;omega) (by omega) hgd s x ho hs hx h
theorem catC {ops:Array Oper}{rest:List Oper}{o:Oper}{a:Act}{Q:Exit→Act→World→Prop}{w wr:World}{v:Value}{D:List Ch}(hM:MkC w wr v D) (E:List Ch) (A:Option Addr) (m c:Nat){B:Nat}(hm:m=E.length) (hL:Ls Sc.enc 3 wr B A E) (hlen:D.length+m≤3518437208883)
  (hgd:o.guard=none) (s x:Operand) (ho:o.op=.call { callee:=.builtin .append,args:=#[s,x],argTypes:=#[32,32] }) (hs:a.eval s=v) (hx:a.eval x=.slice A m c)
  (h:∀ v' w',MkC w w' v' (D++E)→wr.grownBy w' v.ownBlock→wpList Tryz.prog ops Q rest (a.put o.dst v') w'):wpList Tryz.prog ops Q (o::rest) a wr:=by
 obtain⟨i0,hi,hz0,hz1,hz2⟩:=info_parts infoC;exact wpList_cat 32 i0 _ 40 Tryz.underlying32 hi hz0 hz1 hz2 rfl (by decide) Sc.enc_len Sc.enc_one hM m c hm hL (by unfold maxLen;omega) (by omega) hgd s x ho hs hx h
theorem take_more {α:Type}{D E:List α}{i:Nat}{x:α}(h:D.take i=E.take i) (hx:D[i]?=some x) (hy:E[i]?=some x):D.take (i+1)=E.take (i+1):=by
 rw [List.take_add_one,List.take_add_one,h,hx,hy]
theorem up_srt {D:List Itm}(h:UpK key D):Srt key lt D:=Up.srt h
theorem pre_take:∀ p s:List UInt8,p.isPrefixOf s=(decide (p.length≤s.length)&&decide (s.take p.length=p))
 | [],s=>by simp
 | x::p,[]=>by simp
 | x::p,y::s=>by
  show (x==y&&p.isPrefixOf s)=_
  rw [pre_take p s];by_cases h:x=y
  ·subst h;simp
  ·have h2:¬ y=x:=fun e=>h e.symm
   simp [h,h2]
def pfx (p s:ByteArray):Bool:=p.data.toList.isPrefixOf s.data.toList
theorem litePrefix_any (s p:ByteArray) (hs:s.size≤9223372036854775807) (hp:p.size≤9223372036854775807) (w:World) :
  Calls Tryz.prog 119 #[.string s,.string p] w fun e w'=>e=.returned (.bool (pfx p s))∧w=w':=by
 have hl:s.data.toList.length=s.size:=by simp
 have hl2:p.data.toList.length=p.size:=by simp
 obtain⟨q,hq⟩:∃ q,pfx p s=q:=⟨_,rfl⟩;rw [hq];rw [pfx,pre_take,hl,hl2] at hq;by_cases h:p.size≤s.size
 ·have h1:decide ((p.size:Int)≤(s.size:Int))=true:=by rw [decide_eq_true_iff];omega
  have he:((s.extract 0 p.size).toList==p.toList)=q:=by
   rw [← hq,decide_eq_true h,Bool.true_and,str_eq];refine decide_eq_decide.2 ?_;rw [ByteArray.data_extract];simp
  clear hq hl hl2
  go_enter Tryz.func119,Tryz.ntmps119
  go_wp2
  go_ret
  exact⟨rfl,rfl⟩
 ·have h1:decide ((p.size:Int)≤(s.size:Int))=false:=by rw [decide_eq_false_iff_not];omega
  have hq':q=false:=by rw [← hq,decide_eq_false h];rfl
  subst hq';clear hq hl hl2
  go_enter Tryz.func119,Tryz.ntmps119
  go_wp2
  go_ret
  exact⟨rfl,rfl⟩
theorem hasPrefix_any (s p:ByteArray) (hs:s.size≤9223372036854775807) (hp:p.size≤9223372036854775807) (w:World) :
  Calls Tryz.prog 186 #[.string s,.string p] w fun e w'=>e=.returned (.bool (pfx p s))∧w=w':=by
 have HC:=hid (litePrefix_any s p hs hp w)
 go_enter Tryz.func186,Tryz.ntmps186
 go_wp2_with (go_at_call 119;refine HC.out.mono ?_;rintro e w' ⟨rfl,rfl⟩)
 go_ret
 exact⟨rfl,rfl⟩
def AtU (D:List Itm) (p:ByteArray) (i e:Nat):Prop:=i≤e∧∀ x∈(D.drop i).take (e-i),pre p x=true
theorem AtU.more {D:List Itm}{p:ByteArray}{i e:Nat}{x:Itm}(h:AtU D p i e) (hx:D[e]?=some x) (hp:pre p x=true):AtU D p i (e+1):=by
 obtain⟨h1,h2⟩:=h;refine⟨by omega,fun y hy=>?_⟩;rw [show e+1-i=(e-i)+1 by omega,List.take_add_one] at hy;rcases List.mem_append.1 hy with hy | hy
 ·exact h2 y hy
 ·rw [List.getElem?_drop,show i+(e-i)=e by omega,hx] at hy;simp at hy;subst hy;exact hp
theorem takeWhile_of {α:Type}(p:α→Bool):∀ (l:List α) (k:Nat),(∀ x∈l.take k,p x=true)→(l.length≤k∨∃ y,l[k]?=some y∧p y=false)→l.takeWhile p=l.take k
 | [],k,_,_=>by simp
 | x::l,0,_,h=>by
  rcases h with h | ⟨y,h1,h2⟩
  ·simp at h
  ·simp at h1;subst h1;rw [List.takeWhile_cons_of_neg (by simp [h2])];rfl
 | x::l,k+1,h,h'=>by
  have hx:p x=true:=h x (by rw [List.take_succ_cons];exact List.mem_cons_self);rw [List.takeWhile_cons_of_pos hx,List.take_succ_cons,takeWhile_of p l k (fun y hy=>h y (by rw [List.take_succ_cons];exact List.mem_cons_of_mem _ hy)) (by
   rcases h' with h' | ⟨y,h1,h2⟩
   ·left;simpa using h'
   ·right;exact⟨y,by simpa using h1,h2⟩)]
theorem AtU.done {D:List Itm}{p:ByteArray}{i e:Nat}(hD:UpK key D) (hp:At D p i) (h:AtU D p i e) (hx:D.length≤e∨∃ y,D[e]?=some y∧pre p y=false):(D.drop i).take (e-i)=und D p:=by
 rw [und_piece hD hp];refine (takeWhile_of _ _ _ h.2 ?_).symm;have:=h.1;rcases hx with hx | ⟨y,h1,h2⟩
 ·left;rw [List.length_drop];omega
 ·right;exact⟨y,by rw [List.getElem?_drop,show i+(e-i)=e by omega];exact h1,h2⟩
def er (b:Bool):Int:=if b then 0 else 4
theorem okI_sizes {D:List Itm}(h:rt D=true){i:Nat}{x:Itm}(hx:D[i]?=some x):x.k.size≤48∧x.v.size≤160:=by
 have:=(rt_iff.1 h).2 x (List.mem_of_getElem? hx);simp only [okI,okKey,Bool.and_eq_true,decide_eq_true_iff] at this;exact⟨this.1.2,this.2⟩
theorem under_any (D:List Itm) (p:ByteArray) (hps:p.size≤9223372036854775807) (A:Option Addr) (n c B:Nat) (hn:n=D.length) (hc:n≤c) (hcm:c≤maxLen) (hlen:n≤4398046511104) (w:World) (hB:B≤w.heap.size) (hD:Ls enc 2 w B A D) :
  Calls Tryz.prog 165 #[.slice A n c,.string p] w fun e w'=>∃ v,e=.returned (.tuple #[v,.int .i64 (er (rt D))])∧MkI w w' v (if rt D then und D p else []):=by
 unfold maxLen at hcm;have HN:=hid hn;have HD:=hid hD;have HC:=hid (rightList_any D A n c B hn (by omega) w hB hD);clear hn hD;cases hrt:rt D
 ·rw [hrt] at HC
  go_enter Tryz.func165,Tryz.ntmps165
  go_wp2_with (go_at_call 37;refine HC.out.mono ?_;rintro e w1 ⟨rfl,hb1⟩;have HB1:=hid hb1;clear hb1)
  go_ret2
  exact⟨_,rfl,Mk.nil HB1.out⟩
 ·have HR:=hid hrt;rw [hrt] at HC;clear hrt
  go_enter Tryz.func165,Tryz.ntmps165
  go_wp2_with fail
  go_at_call 37
  refine HC.out.mono ?_;rintro e w1 ⟨rfl,hb1⟩;have HB1:=hid hb1;clear hb1 HC
  go_wp2_with fail
  go_at_call 74
  refine (place_any D p A n c B HN.out (by omega) (up_srt (rt_iff.1 HR.out).1) w1 (Nat.le_trans hB HB1.out.size) (HD.out.below (HB1.out.mono hB))).mono ?_;rintro e w2 ⟨f,hf,rfl,hb2⟩;have hfn:f≤n:=by rw [HN.out];exact hf.1
  have HF:=hid hf;have HB2:=hid (HB1.out.trans (hb2.mono HB1.out.size));clear hb2 HB1 hf;obtain⟨A1,hif⟩:∃ A1,(if c=f then A else Option.map (fun x=>x.add (f*2)) A)=A1:=⟨_,rfl⟩;have HL1:=hid (show Ls enc 2 w B A1 (D.drop f) from hif▸HD.out.drop HN.out hc hfn)
  go_wp2_with fail
  go_loopw [8] (fun v wr=>∃ e:Nat,f≤e∧e≤n∧v=.int .i64 e∧Hid (AtU D p f e)∧Hid (Below w.heap.size w wr)) (fun v _=>n-(intOf v).toNat)
  case atStart=>exact⟨f,Nat.le_refl _,hfn,by go_num,⟨Nat.le_refl _,by simp⟩,HB2.out⟩
  case round =>
   obtain⟨e,hfe,hen,rfl,hat,hbel⟩:=hrel;by_cases hlt:e<n
   ·obtain⟨x,hx⟩:∃ x,D[e]?=some x:=⟨_,List.getElem?_eq_getElem (by rw [← HN.out];exact hlt)⟩;obtain⟨b,o,hAe,hb,hr⟩:=(HD.out.below ((Hid.out hbel).mono hB)) e x hx;have hbs:b<wr.heap.size:=Nat.lt_of_lt_of_le hb (Nat.le_trans hB (Hid.out hbel).size);have hc0:wr.cell? ⟨b,o+e*2,none⟩=some (.string x.k):=hr 0 _ rfl;clear hr;subst hAe;obtain⟨q,hq⟩:∃ q,pfx p x.k=q:=⟨_,rfl⟩;have hqc:=hasPrefix_any x.k p (by have:=(okI_sizes HR.out hx).1;omega) hps;rw [hq] at hqc;have HQC:=hid hqc;clear hqc;cases q
    ·have HU:=hid (show (D.drop f).take (e-f)=und D p from (Hid.out hat).done (rt_iff.1 HR.out).1 HF.out (.inr ⟨x,hx,hq⟩));have hA1:A1=some ⟨b,o+f*2,none⟩:=by rw [← hif,if_neg (by omega),Option.map_some,Ar.add_plain]
     clear hif;subst hA1;clear hat hx hq;have HLL:=hid (show e-f=((D.drop f).take (e-f)).length by rw [List.length_take,List.length_drop,← HN.out];omega)
     go_wp2_with (first|(go_at_call 186;refine (HQC.out _).mono ?_;rintro e w3 ⟨rfl,rfl⟩)|(at_builtin;refine catI (Mk.nil (Hid.out hbel)) ((D.drop f).take (e-f)) _ (e-f) _ HLL.out ((HL1.out.take (e-f)).below ((Hid.out hbel).mono hB)) (by simp;omega) rfl _ _ rfl rfl rfl ?_;intro v3 w3 hM3 hG3;have HM3:=hid hM3;clear hM3 hG3))
     go_ret2
     refine⟨_,rfl,?_⟩;have:=HM3.out;rw [List.nil_append,HU.out] at this;exact this
    ·have HA:=hid ((Hid.out hat).more hx hq);clear hat hx hq
     go_wp2_with (go_at_call 186;refine (HQC.out _).mono ?_;rintro e w3 ⟨rfl,rfl⟩)
     exact⟨⟨e+1,by omega,by omega,by go_num,HA.out,Hid.out hbel⟩,by simp [intOf]<;>omega⟩
   ·have HU:=hid (show (D.drop f).take (e-f)=und D p from (Hid.out hat).done (rt_iff.1 HR.out).1 HF.out (.inl (by rw [← HN.out];omega)));have HLL:=hid (show e-f=((D.drop f).take (e-f)).length by rw [List.length_take,List.length_drop,← HN.out];omega);clear hat
    go_wp2_with (at_builtin;refine catI (Mk.nil (Hid.out hbel)) ((D.drop f).take (e-f)) _ (e-f) _ HLL.out ((HL1.out.take (e-f)).below ((Hid.out hbel).mono hB)) (by simp;omega) rfl _ _ rfl rfl rfl ?_;intro v3 w3 hM3 hG3;have HM3:=hid hM3;clear hM3 hG3)
    go_ret2
    refine⟨_,rfl,?_⟩;have:=HM3.out;rw [List.nil_append,HU.out] at this;exact this
def AtA (D:List Itm) (L:List Ch) (i:Nat) (R O:List Itm):Prop:=UpK key R∧O++app R (L.drop i)=app D L∧R.length+O.length≤D.length+i
theorem AtA.step {D R O:List Itm}{L:List Ch}{i p:Nat}{c:Ch}(h:AtA D L i R O) (hL:UpK Sc.key L) (hc:L[i]?=some c) (hp:At R c.k p) :
  AtA D L (i+1) (R.drop (p+if found R c.k p then 1 else 0)) (O++R.take p++(if c.h then [itm c] else [])):=by
 obtain⟨h1,h2,h3⟩:=h;refine⟨h1.sub (List.drop_sublist _ _),?_,?_⟩
 ·rw [← h2,drop_atC hc,app_step h1 (by rw [← drop_atC hc];exact hL.sub (List.drop_sublist _ _)) hp];simp only [List.append_assoc]
 ·have:(if c.h then [itm c] else []).length≤1:=by split<;>simp
  have hp1:=hp.1;simp only [List.length_drop,List.length_append,List.length_take];omega
theorem found_lt {R:List Itm}{k:ByteArray}{p:Nat}(h:found R k p=true):p<R.length:=by
 unfold found at h;cases hx:R[p]? with
 | none=>rw [hx] at h;cases h
 | some y=>exact (List.getElem?_eq_some_iff.1 hx).1
set_option linter.unusedSimpArgs false in
theorem changed_any (D:List Itm) (L:List Ch) (A A':Option Addr) (n c n' c' B B':Nat) (hn:n=D.length) (hc:n≤c) (hcm:c≤maxLen) (hn':n'=L.length) (hlen:n≤1099511627776) (hlen':n'≤1099511627776) (hD:UpK key D) (hL:UpK Sc.key L)
  (w:World) (hB:B≤w.heap.size) (hB':B'≤w.heap.size) (hA:Ls enc 2 w B A D) (hA':Ls Sc.enc 3 w B' A' L) :
  Calls Tryz.prog 39 #[.slice A n c,.slice A' n' c'] w fun e w'=>∃ v,e=.returned v∧MkI w w' v (app D L):=by
 unfold maxLen at hcm;have HN':=hid hn';have HD:=hid hD;have HDL:=hid (show D.length≤1099511627776 by omega);have HL:=hid hL;have HA':=hid hA';have H0:=hid (show n=D.length∧n≤c∧c≤9223372036854775807∧Ls enc 2 w B A D from⟨hn,hc,hcm,hA⟩);clear hn hn' hD hL hA hA' hc hcm
 go_enter Tryz.func39,Tryz.ntmps39
 go_wp2_with fail
 go_loopw [0,5,12] (fun lv ov v wr=>∃ (i:Nat) (R O:List Itm) (A:Option Addr) (n c:Nat),i≤n'∧v=.int .i64 i∧lv=.slice A n c∧Hid (n=R.length∧n≤c∧c≤9223372036854775807∧Ls enc 2 w B A R)∧Hid (AtA D L i R O)∧Hid (MkI w wr ov O)) (fun _ _ v _=>n'-(intOf v).toNat)
 case atStart=>exact⟨0,D,[],A,n,c,Nat.zero_le _,by go_num,rfl,H0.out,⟨HD.out,rfl,by simp⟩,Mk.nil (Below.refl _ _)⟩
 case round =>
  clear H0;obtain⟨i,R,O,A,n,c,hi,rfl,rfl,hl,hat,hm⟩:=hrel;by_cases hlt:i<n'
  ·obtain⟨x,hx⟩:∃ x,L[i]?=some x:=⟨_,List.getElem?_eq_getElem (by rw [← HN'.out];exact hlt)⟩;obtain⟨b,o,hAe,hb,hr⟩:=(HA'.out.below ((Hid.out hm).2.mono hB')) i x hx;have hbs:b<wr.heap.size:=Nat.lt_of_lt_of_le hb (Nat.le_trans hB' (Hid.out hm).2.size);have hc0:wr.cell? ⟨b,o+i*3,none⟩=some (.string x.k):=hr 0 _ rfl;have hc1:wr.cell? ⟨b,o+i*3+1,none⟩=some (.bool x.h):=hr 1 _ rfl;have hc2:wr.cell? ⟨b,o+i*3+2,none⟩=some (.string x.v):=hr 2 _ rfl;clear hr;subst hAe;have HM:=hid (show MkI w (wr.alloc (.cells #[.string x.k,.bool x.h,.string x.v] 138)) _ O from (Hid.out hm).alloc _);have hd0:(wr.alloc (.cells #[.string x.k,.bool x.h,.string x.v] 138)).cell? ⟨wr.heap.size,0,none⟩=some (.string x.k):=by simp
   have hd1:(wr.alloc (.cells #[.string x.k,.bool x.h,.string x.v] 138)).cell? ⟨wr.heap.size,1,none⟩=some (.bool x.h):=by simp
   have hd2:(wr.alloc (.cells #[.string x.k,.bool x.h,.string x.v] 138)).cell? ⟨wr.heap.size,2,none⟩=some (.string x.v):=by simp
   have hncc:=(Hid.out hl).2.1;have hcm:=(Hid.out hl).2.2.1
   go_wp2_with fail
   go_at_call 74
   refine (place_any R x.k A n c B (Hid.out hl).1 (by have:=(Hid.out hl).1;have:=(Hid.out hat).2.2;have:=HN'.out;have:=HDL.out;omega) (up_srt (Hid.out hat).1) _ (by have:=(Hid.out hm).2.size;simp;omega) ((Hid.out hl).2.2.2.below ((Hid.out HM.out).2.mono hB))).mono ?_;rintro e w2 ⟨p,hp,rfl,hb2⟩;have HM2:=hid (HM.out.go hb2);have hpn:p≤n:=by rw [(Hid.out hl).1];exact hp.1
   have HP:=hid hp;have hlt2:wr.heap.size<w2.heap.size:=by have:=hb2.size;simp at this;omega
   have he0:w2.cell? ⟨wr.heap.size,0,none⟩=some (.string x.k):=(hb2.cell (p:=⟨wr.heap.size,0,none⟩) (by simp)).trans hd0;have he1:w2.cell? ⟨wr.heap.size,1,none⟩=some (.bool x.h):=(hb2.cell (p:=⟨wr.heap.size,1,none⟩) (by simp)).trans hd1;have he2:w2.cell? ⟨wr.heap.size,2,none⟩=some (.string x.v):=(hb2.cell (p:=⟨wr.heap.size,2,none⟩) (by simp)).trans hd2;clear hb2 HM hp hd0 hd1 hd2 hc0 hc1 hc2;have hop:O.length+n≤2199023255552:=by
    have h1:=(Hid.out hl).1;have h2:=(Hid.out hat).2.2;have h3:=HDL.out;omega
   have htl:(R.take p).length=p:=by rw [List.length_take];have:=(Hid.out hl).1;omega
   have HTL:=hid htl.symm;clear htl;obtain⟨A1,hif⟩:∃ A1,(if c=p then A else Option.map (fun x=>x.add (p*2)) A)=A1:=⟨_,rfl⟩;have HL1:=hid (show Ls enc 2 w B A1 (R.drop p) from hif▸(Hid.out hl).2.2.2.drop (Hid.out hl).1 hncc hpn);have hst:=(Hid.out hat).step HL.out hx HP.out;by_cases hf:found R x.k p=true
   ·have hp1:p<n:=by rw [(Hid.out hl).1];exact found_lt hf
    have hone:(1:Int)≤((n-p:Nat):Int):=by omega
    rw [if_neg (by omega)] at hif;obtain⟨A2,hif2⟩:∃ A2,(if c-p=1 then A1 else Option.map (fun x=>({ block:=x.block,off:=x.off+2 }:Addr)) A1)=A2:=⟨_,rfl⟩;have HL2:=hid (show Ls enc 2 w B A2 (R.drop (p+1)) from by
     rw [← hif2,← List.drop_drop];exact HL1.out.drop (n:=n-p) (c:=c-p) (p:=1) (by rw [List.length_drop,← (Hid.out hl).1]) (by omega) (by omega))
    by_cases hh:x.h=true
    ·rw [hh] at he1;simp only [hf,hh,if_true,Bool.false_eq_true,if_false,Nat.add_zero,List.append_nil] at hst;have HST:=hid hst;clear hst hx
     go_wp2_with (first | (at_builtin;refine catI (HM3.out.alloc _) [itm x] _ 1 1 rfl (Ls.new _ (itm x) _ _ (Nat.lt_succ_self _)) (by simp only [List.length_append,List.length_take];omega) rfl _ _ rfl rfl rfl ?_;intro v4 w4 hM4 hG4;have HM4:=hid hM4;clear hM4 hG4) | (at_builtin;refine catI HM2.out (R.take p) A p c HTL.out ((((Hid.out hl).2.2.2.take p).below (HM2.out.2.mono hB))) (by omega) rfl _ _ rfl rfl rfl ?_;intro v3 w3 hM3 hG3;have HM3:=hid hM3;have hd0:=(Hid.out hm).keep hG3 (Nat.le_refl _) he0;have hd1:=(Hid.out hm).keep hG3 (Nat.le_refl _) he1;have hd2:=(Hid.out hm).keep hG3 (Nat.le_refl _) he2;clear hM3 hG3 he0 he1 he2))
     exact⟨⟨i+1,R.drop (p+1),O++R.take p++[itm x],A2,n-p-1,c-p-1,by omega,by go_num,rfl,⟨by rw [List.length_drop,← (Hid.out hl).1]<;>omega,by omega,by omega,HL2.out⟩,HST.out,HM4.out⟩,by simp [intOf]<;>omega⟩
    ·have hh:x.h=false:=by simpa using hh
     rw [hh] at he1;simp only [hf,hh,if_true,Bool.false_eq_true,if_false,Nat.add_zero,List.append_nil] at hst;have HST:=hid hst;clear hst hx
     go_wp2_with (at_builtin;refine catI HM2.out (R.take p) A p c HTL.out ((((Hid.out hl).2.2.2.take p).below (HM2.out.2.mono hB))) (by omega) rfl _ _ rfl rfl rfl ?_;intro v3 w3 hM3 hG3;have HM3:=hid hM3;have hd0:=(Hid.out hm).keep hG3 (Nat.le_refl _) he0;have hd1:=(Hid.out hm).keep hG3 (Nat.le_refl _) he1;have hd2:=(Hid.out hm).keep hG3 (Nat.le_refl _) he2;clear hM3 hG3 he0 he1 he2)
     exact⟨⟨i+1,R.drop (p+1),O++R.take p,A2,n-p-1,c-p-1,by omega,by go_num,rfl,⟨by rw [List.length_drop,← (Hid.out hl).1]<;>omega,by omega,by omega,HL2.out⟩,HST.out,HM3.out⟩,by simp [intOf]<;>omega⟩
   ·have hf:found R x.k p=false:=by simpa using hf
    by_cases hh:x.h=true
    ·rw [hh] at he1;simp only [hf,hh,if_true,Bool.false_eq_true,if_false,Nat.add_zero,List.append_nil] at hst;have HST:=hid hst;clear hst hx
     go_wp2_with (first | (at_builtin;refine catI (HM3.out.alloc _) [itm x] _ 1 1 rfl (Ls.new _ (itm x) _ _ (Nat.lt_succ_self _)) (by simp only [List.length_append,List.length_take];omega) rfl _ _ rfl rfl rfl ?_;intro v4 w4 hM4 hG4;have HM4:=hid hM4;clear hM4 hG4) | (at_builtin;refine catI HM2.out (R.take p) A p c HTL.out ((((Hid.out hl).2.2.2.take p).below (HM2.out.2.mono hB))) (by omega) rfl _ _ rfl rfl rfl ?_;intro v3 w3 hM3 hG3;have HM3:=hid hM3;have hd0:=(Hid.out hm).keep hG3 (Nat.le_refl _) he0;have hd1:=(Hid.out hm).keep hG3 (Nat.le_refl _) he1;have hd2:=(Hid.out hm).keep hG3 (Nat.le_refl _) he2;clear hM3 hG3 he0 he1 he2))
     exact⟨⟨i+1,R.drop p,O++R.take p++[itm x],A1,n-p,c-p,by omega,by go_num,rfl,⟨by rw [List.length_drop,← (Hid.out hl).1]<;>omega,by omega,by omega,HL1.out⟩,HST.out,HM4.out⟩,by simp [intOf]<;>omega⟩
    ·have hh:x.h=false:=by simpa using hh
     rw [hh] at he1;simp only [hf,hh,if_true,Bool.false_eq_true,if_false,Nat.add_zero,List.append_nil] at hst;have HST:=hid hst;clear hst hx
     go_wp2_with (at_builtin;refine catI HM2.out (R.take p) A p c HTL.out ((((Hid.out hl).2.2.2.take p).below (HM2.out.2.mono hB))) (by omega) rfl _ _ rfl rfl rfl ?_;intro v3 w3 hM3 hG3;have HM3:=hid hM3;have hd0:=(Hid.out hm).keep hG3 (Nat.le_refl _) he0;have hd1:=(Hid.out hm).keep hG3 (Nat.le_refl _) he1;have hd2:=(Hid.out hm).keep hG3 (Nat.le_refl _) he2;clear hM3 hG3 he0 he1 he2)
     exact⟨⟨i+1,R.drop p,O++R.take p,A1,n-p,c-p,by omega,by go_num,rfl,⟨by rw [List.length_drop,← (Hid.out hl).1]<;>omega,by omega,by omega,HL1.out⟩,HST.out,HM3.out⟩,by simp [intOf]<;>omega⟩
  ·have HO:=hid (show O++R=app D L by
    have h:=(Hid.out hat).2.1;rw [List.drop_eq_nil_of_le (by rw [← HN'.out];omega)] at h;exact h)
   have hop:O.length+n≤4398046511104:=by
    have h1:=(Hid.out hl).1;have h2:=(Hid.out hat).2.2;have h3:=HDL.out;omega
   go_wp2_with (at_builtin;refine catI (Hid.out hm) R A n c (Hid.out hl).1 ((Hid.out hl).2.2.2.below ((Hid.out hm).2.mono hB)) (by omega) rfl _ _ rfl rfl rfl ?_;intro v3 w3 hM3 hG3;have HM3:=hid hM3;clear hM3 hG3)
   go_ret
   exact⟨_,rfl,by rw [← HO.out];exact HM3.out⟩
end Go.Proofs.YtopepebcnaikiaaGreatDoor.It
