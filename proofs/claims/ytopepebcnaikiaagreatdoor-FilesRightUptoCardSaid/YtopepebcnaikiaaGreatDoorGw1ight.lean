import Derived.Test.YtopepebcnaikiaaGreatDoorGb2
import Derived.Test.YtopepebcnaikiaaGreatDoorGb3
import Derived.Test.YtopepebcnaikiaaGreatDoorGb4
import Derived.Test.YtopepebcnaikiaaGreatDoorGb5
import Derived.Laws.Tables
import Derived.Laws.OwnMore
set_option maxRecDepth 100000
set_option maxHeartbeats 20000000
set_option linter.unusedVariables false
set_option linter.unusedSimpArgs false
set_option maxRecDepth 100000
namespace Go.Proofs.YtopepebcnaikiaaGreatDoor
theorem Gw1ighta {α:Type}(l:List α)(i:Nat)(x:α):l.toArray.setIfInBounds i x=(l.set i x).toArray:=List.setIfInBounds_toArray ..
theorem Gw1ightb {α:Type}{a b:α}{l:List α}:(a::l).set 0 b=b::l:=List.set_cons_zero
theorem Gw1ightc {α:Type}{a b:α}{l:List α}{n:Nat}:(a::l).set (n+1) b=a::l.set n b:=List.set_cons_succ
end Go.Proofs.YtopepebcnaikiaaGreatDoor
namespace Go.Proofs.YtopepebcnaikiaaGreatDoor.Fi
open Lib (hid)
open Ino
open It (Itm Ch get und app dif rt rc key ckey UpK get_iff rt_iff rt_up don mem_app mem_don up_app itm get_don app_cons app_nil okC okKey)
open Di
open Ph (nb spX spB laX laD laN la_ok la_err la_none)
variable {L M:List Itm}{s s':Vo}{C:List Ch}
theorem key_of (h:rgt L=true){x:Itm}(hx:x∈L):okK (deK x.k)=true∧wrK (deK x.k)=x.k∧(deK x.k).lim∧okP (ptOf x)=true:=by
 obtain⟨h1,h2⟩:=okX_1 ((rgt_iff.1 h).ok x hx);obtain⟨a,b,c⟩:=deK_ok h1;exact⟨a,b,c,h2⟩
theorem pre_of (h:rgt L=true){x:Itm}(hx:x∈L){b:Ky}(hb:okK b=true) (lb:b.lim):It.pre (pfx b.K b.I) x=true↔(deK x.k).K=b.K∧(deK x.k).I=b.I:=by
 obtain⟨h1,h2,h3,_⟩:=key_of h hx;obtain⟨p1,p2,p3,p4⟩:=wrK_pfx h1;obtain⟨q1,q2⟩:=pfx_ok hb;constructor
 ·intro hp;obtain⟨r,hr⟩:=Da.pre_iff.1 hp;have e1:pfx (deK x.k).K (deK x.k).I=pfx b.K b.I:=by
   rw [← p2,h2];apply ByteArray.ext;apply Array.toList_inj.1;rw [ByteArray.data_extract,Array.toList_extract,List.extract_eq_take_drop,hr];have hz:(pfx b.K b.I).data.toList.length=5:=by rw [Array.length_toList];exact q2
   rw [List.drop_zero,Nat.sub_zero,List.take_append_of_le_length (by omega),List.take_of_length_le (by omega)]
  exact pfx_inj h3 lb h1 hb e1
 ·rintro ⟨e1,e2⟩;obtain⟨r,hr⟩:∃ r,wrK (deK x.k)=pfx b.K b.I++r:=⟨_,by rw [← e1,← e2];exact p1⟩;have h5:x.k=pfx b.K b.I++r:=h2.symm.trans hr;exact Da.pre_iff.2 ⟨r.data.toList,by rw [h5,ByteArray.data_append,Array.toList_append]⟩
def rep (K i:Nat):Ky:=if K=2∨K=4 then ⟨K,i,⟨#[97]⟩,0⟩ else ⟨K,i,ByteArray.empty,0⟩
theorem rep_ok {K i:Nat}(h1:1≤K) (h4:K≤4) (hi:1≤i) (hi2:i<4294967296):okK (rep K i)=true∧(rep K i).lim∧(rep K i).K=K∧(rep K i).I=i:=by
 have hn:nb ⟨#[97]⟩=true:=by decide
 obtain rfl | rfl | rfl | rfl:K=1∨K=2∨K=3∨K=4:=by omega
 ·exact⟨okK_iff.2 ⟨hi,.inl ⟨rfl,rfl,rfl⟩⟩,⟨show (1:Nat)<256 by decide,hi2,show (0:Nat)<4294967296 by decide⟩,rfl,rfl⟩
 ·exact⟨okK_iff.2 ⟨hi,.inr (.inl ⟨.inl rfl,hn,rfl⟩)⟩,⟨show (2:Nat)<256 by decide,hi2,show (0:Nat)<4294967296 by decide⟩,rfl,rfl⟩
 ·exact⟨okK_iff.2 ⟨hi,.inr (.inr ⟨rfl,rfl,show (0:Nat)<512 by decide⟩)⟩,⟨show (3:Nat)<256 by decide,hi2,show (0:Nat)<4294967296 by decide⟩,rfl,rfl⟩
 ·exact⟨okK_iff.2 ⟨hi,.inr (.inl ⟨.inr rfl,hn,rfl⟩)⟩,⟨show (4:Nat)<256 by decide,hi2,show (0:Nat)<4294967296 by decide⟩,rfl,rfl⟩
theorem mem_und (h:rgt L=true){K i:Nat}(h1:1≤K) (h4:K≤4) (hi:1≤i) (hi2:i<4294967296){x:Itm}:x∈und L (pfx K i)↔x∈L∧(deK x.k).K=K∧(deK x.k).I=i:=by
 obtain⟨a,b,c,d⟩:=rep_ok h1 h4 hi hi2;unfold und;rw [List.mem_filter];constructor
 ·rintro ⟨hx,hp⟩;have:=(pre_of h hx a b).1 (by rw [c,d];exact hp);rw [c,d] at this;exact⟨hx,this⟩
 ·rintro ⟨hx,hp⟩;have:=(pre_of h hx a b).2 (by rw [c,d];exact hp);rw [c,d] at this;exact⟨hx,this⟩
theorem mem_gn (h:rgt L=true){i:Nat}(hi:1≤i) (hi2:i<4294967296){c:Ch}:c∈gn L i↔∃ x∈L,(deK x.k).I=i∧c=It.gone x:=by
 have key:∀ K,1≤K→K≤4→(c∈gnK L i K↔∃ x∈L,(deK x.k).K=K∧(deK x.k).I=i∧c=It.gone x):=fun K h1 h4=>by
  unfold gnK;rw [List.mem_map];constructor
  ·rintro ⟨x,hx,rfl⟩;obtain⟨a,b,e⟩:=(mem_und h h1 h4 hi hi2).1 hx;exact⟨x,a,b,e,rfl⟩
  ·rintro ⟨x,a,b,e,rfl⟩;exact⟨x,(mem_und h h1 h4 hi hi2).2 ⟨a,b,e⟩,rfl⟩
 unfold gn;rw [List.mem_append,List.mem_append,List.mem_append,key 1 (by decide) (by decide),key 2 (by decide) (by decide),key 3 (by decide) (by decide),key 4 (by decide) (by decide)];constructor
 ·rintro (⟨x,a,_,b⟩ | ⟨x,a,_,b⟩ | ⟨x,a,_,b⟩ | ⟨x,a,_,b⟩)<;>exact⟨x,a,b⟩
 ·rintro ⟨x,a,b⟩;obtain⟨k1,k4⟩:=okK_kind (key_of h a).1;obtain e | e | e | e:(deK x.k).K=1∨(deK x.k).K=2∨(deK x.k).K=3∨(deK x.k).K=4:=by omega
  ·exact .inl ⟨x,a,e,b⟩
  ·exact .inr (.inl ⟨x,a,e,b⟩)
  ·exact .inr (.inr (.inl ⟨x,a,e,b⟩))
  ·exact .inr (.inr (.inr ⟨x,a,e,b⟩))
theorem app_gone (hC:∀ c∈C,c.h=false){x:Itm}:x∈app L C↔x∈L∧∀ c∈C,ckey c≠key x:=by
 rw [mem_app];constructor
 ·rintro (h | ⟨c,hc,hh,_⟩)
  ·exact h
  ·rw [hC c hc.mem] at hh;cases hh
 ·exact .inl
theorem pts_snoc1 (L:List Itm) (x:Itm):vo (pts (L++[x]))=takeP (vo (pts L)) (ptOf x):=by
 unfold pts;rw [List.map_append];exact vo_snoc _ _
theorem nmd_cnt (j:Nat) (L:List Itm):(vo (pts L)).nmd j=(L.countP fun x=>decide ((deK x.k).K=2)&&decide (numOf x.v=j))%4294967296:=by
 induction L using snocRec with
 | h0=>rfl
 | h1 L x ih =>
  rw [pts_snoc1,List.countP_append,List.countP_singleton];unfold takeP;by_cases h1:(ptOf x).k.K=1
  ·have h1':(deK x.k).K=1:=h1;rw [if_pos h1,h1'];exact ih
  ·rw [if_neg h1];by_cases h2:(ptOf x).k.K=2
   ·have h2':(deK x.k).K=2:=h2;rw [if_pos h2];unfold takeE;dsimp only;by_cases hj:j=numOf (ptOf x).v
    ·have hj':numOf x.v=j:=hj.symm;rw [if_pos hj,ih,decide_eq_true h2',decide_eq_true hj'];simp only [Bool.and_self,if_true];omega
    ·have hj':¬ numOf x.v=j:=fun e=>hj e.symm
     rw [if_neg hj,ih,decide_eq_false hj'];simp
   ·have h2':¬ (deK x.k).K=2:=h2;rw [if_neg h2,decide_eq_false h2'];simpa using ih
theorem fil_same (f:Itm→Bool) (j:Nat) (L:List Itm) (hf:∀ x∈L,f x=false→(deK x.k).K=2→numOf x.v≠j):(vo (pts (L.filter f))).nmd j=(vo (pts L)).nmd j∧(vo (pts (L.filter f))).abv j=(vo (pts L)).abv j:=by
 induction L using snocRec with
 | h0=>exact⟨rfl,rfl⟩
 | h1 L x ih =>
  obtain⟨i1,i2⟩:=ih fun y hy=>hf y (List.mem_append_left _ hy)
  have hx:=hf x (by simp);rw [List.filter_append,pts_snoc1];cases hfx:f x with
  | true =>
   have e:[x].filter f=[x]:=by simp [hfx]
   rw [e,pts_snoc1];unfold takeP;split
   ·exact⟨i1,i2⟩
   ·split
    ·unfold takeE;dsimp only;rw [i1,i2];exact⟨rfl,rfl⟩
    ·exact⟨i1,i2⟩
  | false =>
   have e:[x].filter f=[]:=by simp [hfx]
   rw [e,List.append_nil];unfold takeP;split
   ·exact⟨i1,i2⟩
   ·split
    ·rename_i h2;have h3:¬ j=numOf (ptOf x).v:=fun e=>hx hfx h2 e.symm
     unfold takeE;dsimp only;rw [if_neg h3,if_neg h3];exact⟨i1,i2⟩
    ·exact⟨i1,i2⟩
theorem get_same (h:rt L=true) (h':rt M=true){k:ByteArray}(e:∀ v,(⟨k,v⟩:Itm)∈M↔(⟨k,v⟩:Itm)∈L):get M k=get L k:=by
 cases hg:get L k with
 | some v=>exact (get_some h').2 ((e v).2 ((get_some h).1 hg))
 | none =>
  cases hg':get M k with
  | none=>rfl
  | some v =>
   have:=(get_some h).2 ((e v).1 ((get_some h').1 hg'));rw [hg] at this;cases this
theorem ent_item (h:rgt L=true){x:Itm}(hx:x∈L) (h2:(deK x.k).K=2):(vo (pts L)).ent (deK x.k)=some (numOf x.v):=by
 obtain⟨a,b,c,_⟩:=key_of h hx;have hr:=rgt_iff.1 h;rw [ent_get hr.rt hr.ok a c h2,b,(get_some hr.rt).2 (show (⟨x.k,x.v⟩:Itm)∈L from hx)];rfl
end Go.Proofs.YtopepebcnaikiaaGreatDoor.Fi
namespace Go.Proofs.YtopepebcnaikiaaGreatDoor.Rg
open Lib (hid)
open Go.RowKit
section
variable {P:Program}{ops:Array Oper}{md:Region.Mode}{S:World→Prop}{n:Nat}{L:Array Bool→Act→Prop}
def anyS (P:Program) (md:Region.Mode) (ops:Array Oper) (S:World→Prop) (n:Nat) (L:Array Bool→Act→Prop):Nat→Array Bool→Act→Prop
 | 0,listed,a=>L listed a
 | f+1,listed,a=>Region.ready md ops listed≠[]∧∀ i∈Region.ready md ops listed,i<n∧stG P ops S i (anyS P md ops S n L f (listed.setIfInBounds i true)) a
theorem wpAny_of_S {g:Nat}{Q:Exit→Act→World→Prop}(hL:∀ listed a w,L listed a→S w→wpAny P md ops Q g listed a w):∀ (f:Nat) (listed:Array Bool) (a:Act) (w:World),S w→anyS P md ops S n L f listed a→wpAny P md ops Q (f+g) listed a w
 | 0,listed,a,w,hS,h=>by rw [Nat.zero_add];exact hL _ _ _ h hS
 | f+1,listed,a,w,hS,h=>by
  rw [show f+1+g=(f+g)+1 by omega];refine⟨fun h0=>absurd h0 h.1,fun i hi=>?_⟩;have h1:=(h.2 i hi).2;cases ho:ops[i]? with
  | none=>unfold stG at h1;rw [ho] at h1;unfold wpOp;rw [ho];exact wpAny_of_S hL f _ _ _ hS h1
  | some o =>
   obtain⟨v,hg,hn⟩:=(stG_at ho).1 h1;exact hg.wpOp ho hS fun w' hS'=>wpAny_of_S hL f _ _ _ hS' hn
theorem anyS_first {i:Nat}{oi:Oper}{v:Value}(hi:ops[i]?=some oi) (hsel:∀ (j:Nat) (o:Oper) cs b,ops[j]?=some o→o.op≠.select cs b)
  (hs:Region.sinkB md ops n=true) (hc:Region.chainB md ops n=true) (hn:n<ops.size) (hin:i<n)
  (hdone:∀ listed a,L listed a→∀ j∈Region.ready md ops listed,n≤j) :
  ∀ (f:Nat) (listed:Array Bool) (a:Act),HeadInv md ops n listed →
   (∀ j oj,ops[j]?=some oj→j≠i→listed.getD j true=false→(∀ e∈oj.after,Region.binds md e=true→e.on≠i)→oi.apart ops oj=true) →
   i∈Region.ready md ops listed→OpG P ops S oi v a →
   anyS P md ops S n L f (listed.setIfInBounds i true) (a.put oi.dst v)→anyS P md ops S n L (f+1) listed a:=by
 intro f;induction f with
 | zero =>
  intro listed a inv _ hr hy H;have hun:=(mem_ready.1 hr).1;refine⟨fun h=>(by rw [h] at hr;cases hr),fun j hj=>?_⟩;have hjn:j<n:=by
   rcases Nat.lt_or_ge j n with h | h
   ·exact h
   ·exact absurd hj (tail_waits hs hc hn inv _ i rfl hin hun j h)
  refine⟨hjn,?_⟩;by_cases hji:j=i
  ·subst hji;exact (stG_at hi).2 ⟨v,hy,H⟩
  ·have:=hdone _ _ H j (ready_mono hj hji);omega
 | succ f ih =>
  intro listed a inv hfree hr hy H;have hun:=(mem_ready.1 hr).1;refine⟨fun h=>(by rw [h] at hr;cases hr),fun j hj=>?_⟩;have hjn:j<n:=by
   rcases Nat.lt_or_ge j n with h | h
   ·exact h
   ·exact absurd hj (tail_waits hs hc hn inv _ i rfl hin hun j h)
  refine⟨hjn,?_⟩;by_cases hji:j=i
  ·subst hji;exact (stG_at hi).2 ⟨v,hy,H⟩
  ·have h1:=(H.2 j (ready_mono hj hji)).2;obtain⟨hjun,oj,hoj,hall⟩:=mem_ready.1 hj;have hnot:∀ e∈oj.after,Region.binds md e=true→e.on≠i:=fun e he hb heq=>by
    have h1:=hall e he hb;rw [heq,getD_both hun] at h1;cases h1
   have h2:=stG_put hoj (hfree j oj hoj hji hjun hnot) (fun cs b=>hsel i oi cs b hi) (fun cs b=>hsel j oj cs b hoj) hy h1;have hfree':∀ k ok,ops[k]?=some ok→k≠i→(listed.setIfInBounds j true).getD k true=false →
     (∀ e∈ok.after,Region.binds md e=true→e.on≠i)→oi.apart ops ok=true:=fun k ok hk hki hun hno=>by
    refine hfree k ok hk hki ?_ hno;by_cases hjk:j=k
    ·subst hjk;exact hjun
    ·rw [getD_set_ne true hjk] at hun;exact hun
   refine stG_mono (fun a' h3=>ih (listed.setIfInBounds j true) a' (inv.set hj hjn) hfree' (ready_mono hr (Ne.symm hji)) h3.1 ?_) h2;rw [Array.setIfInBounds_comm _ _ hji];exact h3.2
def lexSB (md:Region.Mode) (ops:Array Oper) (n g:Nat):Nat→Nat→Array Bool→Bool
 | 0,_,listed=>Region.seqB md ops g n listed
 | m+1,k,listed=>decide (k<n)&&(Region.ready md ops listed).contains k&&Region.free md ops listed k&&headB md ops n listed&&lexSB md ops n g m (k+1) (listed.setIfInBounds k true)
theorem anyS_lex {Q:Act→Prop}{g:Nat}(hB:tailB md ops n=true):∀ (l:List Oper) (k:Nat) (listed:Array Bool) (a:Act),(∀ j,j<l.length→l[j]?=ops[k+j]?) →
  lexSB md ops n g l.length k listed=true→wpG P ops S Q l a→anyS P md ops S n (fun listed a=>Region.seqB md ops g n listed=true∧Q a) l.length listed a
 | [],_,_,_,_,hX,h=>⟨hX,h⟩
 | o::l,k,listed,a,hl,hX,⟨v,hy,hn⟩=>by
  have h0:ops[k]?=some o:=by simpa using (hl 0 (by simp)).symm
  have hB':=hB;simp only [tailB,Bool.and_eq_true,decide_eq_true_eq] at hB';obtain⟨⟨⟨hsel,hn'⟩,hs⟩,hc⟩:=hB';simp only [List.length_cons,lexSB,Bool.and_eq_true,decide_eq_true_eq] at hX;obtain⟨⟨⟨⟨hk,hr⟩,hf⟩,hI⟩,hX⟩:=hX;refine anyS_first h0 (Region.noSelect_spec hsel) hs hc hn' hk (fun _ _ hL=>seqB_ready hL.1) l.length listed a (headB_inv hI) (Region.free_spec h0 hf) (by simpa using hr) hy ?_;exact anyS_lex hB l (k+1) _ _ (fun j hj=>by have:=hl (j+1) (by simpa using hj);simpa [Nat.add_assoc,Nat.add_comm 1 j] using this) hX hn
theorem wp_region_S (S:World→Prop){id:Nat}{Q:Exit→Act→World→Prop}{a:Act}{w:World}{l:List Oper}(n:Nat) (hm:P.follows .mixedOrders=true) (hB:tailB .any l.toArray n=true)
  (hX:lexSB .any l.toArray n (l.length-n) n 0 (Array.replicate l.toArray.size false)=true) (hS:S w.drew)
  (h:wpG P l.toArray S (fun a'=>∀ w',S w'→wpList P l.toArray Q (l.drop n) a' w') (l.take n) a):(Code.region id l.toArray true).wp P Q a w:=by
 have hB':=hB;simp only [tailB,Bool.and_eq_true,decide_eq_true_eq] at hB';obtain⟨⟨⟨hsel,hn⟩,hs⟩,hc⟩:=hB';have hn':n<l.length:=by simpa using hn
 have hlen:(l.take n).length=n:=by rw [List.length_take];omega
 have hdl:(l.drop n).length=l.length-n:=by simp
 refine wp_region_any hm ?_;have h2:=anyS_lex (md:=.any) (P:=P) (S:=S) (n:=n) (g:=l.length-n) hB (l.take n) 0 (Array.replicate l.toArray.size false) a (fun j hj=>by
  rw [List.getElem?_take,if_pos (by omega)];simp) (by rw [hlen];exact hX) h
 rw [hlen] at h2;have h3:=wpAny_of_S (g:=l.length-n) (Q:=Q) (fun listed a' w' hL hSw=>by
  have:=wpAny_of_seq (md:=.any) (P:=P) (Q':=Q) (l.drop n) n listed a' w' (fun j=>by simp [List.getElem?_drop]) (by rw [hdl];exact hL.1) (hL.2 w' hSw)
  rwa [hdl] at this) n _ _ _ hS h2
 rw [show n+(l.length-n)=l.toArray.size by simp;omega] at h3;exact h3
end
open Go.RowKit
section
variable {P:Program}{ops:Array Oper}{Q:Exit→Act→World→Prop}{md:Region.Mode}{S:Array Bool→World→Prop}
def wpAnyX (P:Program) (md:Region.Mode) (ops:Array Oper) (Q:Exit→Act→World→Prop) (S:Array Bool→World→Prop):Nat→Array Bool→Act→World→Prop
 | 0,listed,a,w=>Region.ready md ops listed=[]∧Q .normal a w
 | f+1,listed,a,w=>(Region.ready md ops listed=[]→Q .normal a w) ∧
  ∀ i∈Region.ready md ops listed,wpOp P ops Q i (fun a' w'=>S (listed.setIfInBounds i true) w'∧wpAnyX P md ops Q S f (listed.setIfInBounds i true) a' w') a w
theorem wpAny_of_X:∀ (f:Nat) (listed:Array Bool) (a:Act) (w:World),wpAnyX P md ops Q S f listed a w→wpAny P md ops Q f listed a w
 | 0,_,_,_,h=>h
 | f+1,_,_,_,h=>⟨h.1,fun i hi=>wpOp_mono (fun a' w' h'=>wpAny_of_X f _ a' w' h'.2) (h.2 i hi)⟩
def Cl (md:Region.Mode) (ops:Array Oper) (l:Array Bool):Prop:=∀ (j:Nat) (oj:Oper),ops[j]?=some oj→l.getD j false=true→∀ e∈oj.after,Region.binds md e=true→l.getD e.on false=true
theorem Cl.set {l:Array Bool}(h:Cl md ops l){j:Nat}(hj:j∈Region.ready md ops l):Cl md ops (l.setIfInBounds j true):=fun k ok hk hl e he hb=>by
 refine getD_set_true ?_;by_cases ejk:j=k
 ·subst ejk;obtain⟨_,oj,hoj,hall⟩:=mem_ready.1 hj;rw [hk] at hoj;cases hoj;exact hall e he hb
 ·refine h k ok hk ?_ e he hb
  rwa [getD_set_ne false ejk] at hl
def clB (md:Region.Mode) (ops:Array Oper) (listed:Array Bool):Bool:=(List.range ops.size).all fun j=>!listed.getD j false||match ops[j]? with
  | some oj=>oj.after.all fun e=>!Region.binds md e||listed.getD e.on false
  | none=>true
theorem clB_cl {listed:Array Bool}(h:clB md ops listed=true):Cl md ops listed:=fun j oj hj hl e he hb=>by
 unfold clB at h;rw [List.all_eq_true] at h;have:=h j (List.mem_range.2 (Array.getElem?_eq_some_iff.1 hj).1);rw [hl,hj] at this;simp only [Bool.not_true,Bool.false_or,Array.all_eq_true'] at this;have:=this e he;rw [hb] at this;simpa using this
def Bef (md:Region.Mode) (ops:Array Oper) (S:Array Bool→World→Prop) (i:Nat) (w:World):Prop:=∃ l:Array Bool,Cl md ops l∧l.getD i true=false∧S l w
theorem wpAnyX_first {i:Nat}{oi:Oper}{v:Value}(hi:ops[i]?=some oi) (hsel:∀ (j:Nat) (o:Oper) cs b,ops[j]?=some o→o.op≠.select cs b)
  (hQ:∀ c a w,Q (.panic c) (a.put oi.dst v) w→Q (.panic c) a w) (hm:∀ l w,S (l.setIfInBounds i true) w→S l w) :
  ∀ (fuel:Nat) (listed:Array Bool) (a:Act) (w:World),Cl md ops listed →
   (∀ j oj,ops[j]?=some oj→j≠i→listed.getD j true=false→(∀ e∈oj.after,Region.binds md e=true→e.on≠i)→oi.apart ops oj=true) →
   i∈Region.ready md ops listed→YieldsIf P ops (Bef md ops S i) oi v a→S (listed.setIfInBounds i true) w →
   wpAnyX P md ops Q S fuel (listed.setIfInBounds i true) (a.put oi.dst v) w→wpAnyX P md ops Q S (fuel+1) listed a w:=by
 intro fuel;induction fuel with
 | zero =>
  intro listed a w hcl _ hr hy hS H;have hun:=(mem_ready.1 hr).1;refine⟨fun h=>(by rw [h] at hr;cases hr),fun j hj=>?_⟩;by_cases hji:j=i
  ·subst hji;exact hy.wpOp hi ⟨listed,hcl,hun,hm _ _ hS⟩ ⟨hS,H⟩
  ·have:=ready_mono hj hji;rw [H.1] at this;cases this
 | succ fuel ih =>
  intro listed a w hcl hfree hr hy hS H;have hun:=(mem_ready.1 hr).1;refine⟨fun h=>(by rw [h] at hr;cases hr),fun j hj=>?_⟩;by_cases hji:j=i
  ·subst hji;exact hy.wpOp hi ⟨listed,hcl,hun,hm _ _ hS⟩ ⟨hS,H⟩
  ·have h1:=H.2 j (ready_mono hj hji);obtain⟨hjun,oj,hoj,hall⟩:=mem_ready.1 hj;have hnot:∀ e∈oj.after,Region.binds md e=true→e.on≠i:=fun e he hb heq=>by
    have h1:=hall e he hb;rw [heq,getD_both hun] at h1;cases h1
   have h2:=wpOp_putIf hoj (hfree j oj hoj hji hjun hnot) (fun cs b=>hsel i oi cs b hi) (fun cs b=>hsel j oj cs b hoj) hQ hy h1;have hfree':∀ k ok,ops[k]?=some ok→k≠i→(listed.setIfInBounds j true).getD k true=false →
     (∀ e∈ok.after,Region.binds md e=true→e.on≠i)→oi.apart ops ok=true:=fun k ok hk hki hun hno=>by
    refine hfree k ok hk hki ?_ hno;by_cases hjk:j=k
    ·subst hjk;exact hjun
    ·rw [getD_set_ne true hjk] at hun;exact hun
   have hcm:(listed.setIfInBounds j true).setIfInBounds i true=(listed.setIfInBounds i true).setIfInBounds j true:=Array.setIfInBounds_comm _ _ hji;refine wpOp_mono (fun a' w' h3=>⟨hm _ _ (by rw [hcm];exact h3.2.1),ih (listed.setIfInBounds j true) a' w' (hcl.set hj) hfree' (ready_mono hr (Ne.symm hji)) h3.1 (by rw [hcm];exact h3.2.1) ?_⟩) h2;rw [hcm];exact h3.2.2
theorem wp_region_X (S:Array Bool→World→Prop){id:Nat}{a:Act}{w:World}(hm:P.follows .mixedOrders=true) (h:wpAnyX P .any ops Q S ops.size (Array.replicate ops.size false) a w.drew):(Code.region id ops true).wp P Q a w :=
 wp_region_any hm (wpAny_of_X _ _ _ _ h)
theorem take_X {fuel:Nat}{listed:Array Bool}{tmps:Array Value}{w:World}(i d:Nat) (v:Value){oi:Oper}(hi:ops[i]?=some oi) (hd:oi.dst=some d)
  (hs:Region.noSelect ops=true) (hf:Region.free md ops listed i=true) (hr:(Region.ready md ops listed).contains i=true) (hc:clB md ops listed=true)
  (hQ:∀ c a w,Q (.panic c) (a.put oi.dst v) w→Q (.panic c) a w) (hm:∀ l w,S (l.setIfInBounds i true) w→S l w) (hy:YieldsIf P ops (Bef md ops S i) oi v { tmps:=tmps,defers:=[] }) (hS:S (listed.setIfInBounds i true) w)
  (h:wpAnyX P md ops Q S fuel (listed.setIfInBounds i true) { tmps:=tmps.setIfInBounds d v,defers:=[] } w):wpAnyX P md ops Q S (fuel+1) listed { tmps:=tmps,defers:=[] } w:=by
 refine wpAnyX_first hi (Region.noSelect_spec hs) hQ hm _ _ _ _ (clB_cl hc) (Region.free_spec hi hf) (by simpa using hr) hy hS ?_;rw [hd];exact h
theorem only_X {f:Nat}{listed:Array Bool}{tmps:Array Value}{w:World}(i:Nat){oi:Oper}(hi:ops[i]?=some oi) (hr:Region.ready md ops listed=[i]) (hw:Region.wanted oi (yielded ops tmps)=true)
  (h:∀ K:Act→World→Prop,Shut (∀ a' w',S (listed.setIfInBounds i true) w'→wpAnyX P md ops Q S f (listed.setIfInBounds i true) a' w'→K a' w')→Oper.wp P oi { tmps:=tmps,defers:=[] } w K Q):wpAnyX P md ops Q S (f+1) listed { tmps:=tmps,defers:=[] } w:=by
 refine⟨fun h0=>(by rw [hr] at h0;cases h0),fun j hj=>?_⟩;rw [hr] at hj;have hji:j=i:=by simpa using hj
 subst hji;refine wpOp_step hi fun K' hK=>?_
 rw [if_pos hw];exact h K' (fun a w hS hW=>hK a w ⟨hS,hW⟩)
theorem done_X {listed:Array Bool}{a:Act}{w:World}(hr:Region.ready md ops listed=[]) (h:Q .normal a w):∀ fuel,wpAnyX P md ops Q S fuel listed a w
 | 0=>⟨hr,h⟩
 | _+1=>⟨fun _=>h,by rw [hr];simp⟩
def Till (k:Nat) (S0:World→Prop):Array Bool→World→Prop:=fun l w=>l.getD k false=false→S0 w
theorem Till.mono {k i:Nat}{S0:World→Prop}(h:i≠k):∀ l w,Till k S0 (l.setIfInBounds i true) w→Till k S0 l w:=fun l w hS h0=>hS (by rw [getD_set_ne false h];exact h0)
theorem Till.bef {md:Region.Mode}{ops:Array Oper}{k i:Nat}{S0:World→Prop}{w:World}(h:Bef md ops (Till k S0) i w) (hk:(match ops[k]? with | some ok=>ok.after.any fun e=>Region.binds md e&&e.on==i | none=>false)=true):S0 w:=by
 obtain⟨l,hcl,hun,hS⟩:=h;refine hS ?_;cases hl:l.getD k false with
 | false=>rfl
 | true =>
  cases hok:ops[k]? with
  | none=>rw [hok] at hk;cases hk
  | some ok =>
   rw [hok] at hk;simp only [Array.any_eq_true'] at hk;obtain⟨e,he,hq⟩:=hk;rw [Bool.and_eq_true,beq_iff_eq] at hq;obtain⟨hb,rfl⟩:=hq;have h2:=hcl k ok hok hl e he hb;rw [getD_both hun] at h2;cases h2
end
end Go.Proofs.YtopepebcnaikiaaGreatDoor.Rg
namespace Go.Proofs.YtopepebcnaikiaaGreatDoor.Fi
open Lib (hid)
open Go.ChangeShapes Go.WideShapes Go.ChangeAt Go.RowKit
open BigFrame
open Ar Rg
open Ino
open It (Itm Ch get und app dif rt rc enc er getV get_any under_any apply_any diff_any MkI MkC)
open Di (ItA wlk rgt rgt_iff numOf Vo vo pts lsX lsL up En)
open Ph (nb spX spB laX laD laN)
open Pk (nB nE tN tR tE number_any take_any)
variable {w w' wr:World}{A:Option Addr}{n c:Nat}{L:List Itm}
structure VA (w:World) (A:Option Addr) (n c:Nat) (L:List Itm):Prop where
 it:ItA w A n L
 nc:n≤c
 cm:c≤maxLen
 rg:rgt L=true
theorem VA.go (h:VA w A n c L) (hb:Below w.heap.size w w'):VA w' A n c L:=⟨h.it.go hb,h.nc,h.cm,h.rg⟩
theorem VA.rt (h:VA w A n c L):rt L=true:=(rgt_iff.1 h.rg).rt
abbrev vV (A:Option Addr) (n c:Nat):Value:=.agg #[.slice A n c]
abbrev vNd (m:In) (i:Nat):Value:=.agg #[.int .u8 (m.K:Nat),.int .u16 (m.M:Nat),.int .u32 (m.L:Nat),.int .u32 (m.S:Nat),.string m.T,.int .u32 (i:Nat)]
abbrev vPl (p:Pl):Value:=.agg #[.int .u32 (p.d:Nat),.string p.k,.int .u32 (p.i:Nat)]
def Rw (w:World) (g:Nat) (cs:Array Value) (t:TypeId):Prop:=w.heap[g]?=some (.cells cs t (0,0))
theorem Rw.lt {g:Nat}{cs:Array Value}{t:TypeId}(h:Rw w g cs t):g<w.heap.size:=by
 rcases Nat.lt_or_ge g w.heap.size with hl | hg
 ·exact hl
 ·unfold Rw at h;rw [Array.getElem?_eq_none hg] at h;cases h
theorem Rw.go {g:Nat}{cs:Array Value}{t:TypeId}(h:Rw w g cs t) (hb:Below w.heap.size w w'):Rw w' g cs t:=(hb.block g h.lt).trans h
theorem Rw.cell {g:Nat}{cs:Array Value}{t:TypeId}(h:Rw w g cs t) (j:Nat) (v:Value) (hv:cs[j]?=some v):w.cell? ⟨g,j,none⟩=some v:=by
 rw [cell_of_row w g j cs t (0,0) h];exact hv
theorem Rw.range {g:Nat}{cs:Array Value}{t:TypeId}(h:Rw w g cs t) (o k:Nat):w.rangeAt g o ((cs.toList.drop o).take k):=fun j v hj=>by
 rw [cell_of_row w g (o+j) cs t (0,0) h];rw [List.getElem?_take] at hj;split at hj
 ·rw [List.getElem?_drop] at hj;simpa using hj
 ·cases hj
theorem Rw.put {g:Nat}{cs:Array Value}{t:TypeId}(h:Rw w g cs t) (j:Nat) (v:Value):Rw (w.setCell ⟨g,j,none⟩ v) g (cs.setIfInBounds j v) t:=by
 unfold Rw at h ⊢;unfold World.setCell;simp [Array.getElem?_modify,h]
theorem Rw.off {g g' j:Nat}{cs:Array Value}{t:TypeId}(h:Rw w g cs t) (v:Value) (hn:g≠g'):Rw (w.setCell ⟨g',j,none⟩ v) g cs t:=(Below.heap_setCell w ⟨g',j,none⟩ v g hn).trans h
theorem load_all {P:Program}{o:Oper}{a:Act}(ty:TypeId) (x:Operand) (ho:o.op=.load ty x) (g:Nat) (hx:a.eval x=.pointer (some ⟨g,0,none⟩)){t:TypeId}{cs:Array Value}{d:TypeDesc}(hg:Rw w g cs t)
  (hu:P.underlying ty=some d) (hd:(match d with | .struct _ | .array _ _=>true | _=>false)=true) (hi:(P.info? ty).map (·.size)=some cs.size):(execOp (Act.eval a) o).run P w=.ok (.value (.agg cs)) w:=by
 unfold execOp;simp only [ho,hx,Instr.loadAt,Instr.sureAddr,Sem.run_bind,Sem.run_pure,Result.andThen_ok,run_loadVar_row w g t ty cs (0,0) d hg hu hd hi]
theorem Rw.new (w:World) (cs:Array Value) (t:TypeId):Rw (w.alloc (.cells cs t)) w.heap.size cs t:=heap_alloc_new w _
theorem Rw.set {g:Nat}{cs old:Array Value}{t:TypeId}(h:Rw w g old t):Rw (w.setRow g cs) g cs t:=setRow_heap' h
theorem Rw.keep {g g':Nat}{cs:Array Value}{old:Array Value}{t:TypeId}(h:Rw w g cs t) (hn:g≠g'):Rw (w.setRow g' old) g cs t:=by
 unfold Rw World.setRow;simp only [Array.getElem?_modify];rw [if_neg (fun e=>hn e.symm)];exact h
theorem one_new (w:World) (c1:Array Value) (t1:TypeId):Rw (w.alloc (.cells c1 t1)) w.heap.size c1 t1∧Below w.heap.size w (w.alloc (.cells c1 t1))∧(w.alloc (.cells c1 t1)).heap.size=w.heap.size+1:=⟨Rw.new _ _ _,(Below.refl _ _).alloc (Nat.le_refl _) _,by simp⟩
theorem two_new (w:World) (c1 c2:Array Value) (t1 t2:TypeId):Rw ((w.alloc (.cells c1 t1)).alloc (.cells c2 t2)) w.heap.size c1 t1∧Rw ((w.alloc (.cells c1 t1)).alloc (.cells c2 t2)) (w.heap.size+1) c2 t2∧Below w.heap.size w ((w.alloc (.cells c1 t1)).alloc (.cells c2 t2))∧((w.alloc (.cells c1 t1)).alloc (.cells c2 t2)).heap.size=w.heap.size+2:=by
 have hz:(w.alloc (.cells c1 t1)).heap.size=w.heap.size+1:=by simp
 have h1:=(Rw.new w c1 t1).go ((Below.refl _ _).alloc (Nat.le_refl _) (.cells c2 t2));have h2:=Rw.new (w.alloc (.cells c1 t1)) c2 t2;rw [hz] at h2;exact⟨h1,h2,((Below.refl _ _).alloc (Nat.le_refl _) _).alloc (by simp) _,by simp⟩
theorem three_new (w:World) (c1 c2 c3:Array Value) (t1 t2 t3:TypeId):Rw (((w.alloc (.cells c1 t1)).alloc (.cells c2 t2)).alloc (.cells c3 t3)) w.heap.size c1 t1∧Rw (((w.alloc (.cells c1 t1)).alloc (.cells c2 t2)).alloc (.cells c3 t3)) (w.heap.size+1) c2 t2∧Rw (((w.alloc (.cells c1 t1)).alloc (.cells c2 t2)).alloc (.cells c3 t3)) (w.heap.size+2) c3 t3∧Below w.heap.size w (((w.alloc (.cells c1 t1)).alloc (.cells c2 t2)).alloc (.cells c3 t3))∧(((w.alloc (.cells c1 t1)).alloc (.cells c2 t2)).alloc (.cells c3 t3)).heap.size=w.heap.size+3:=by
 obtain⟨a1,a2,a3,a4⟩:=two_new w c1 c2 t1 t2;have hb:=(Below.refl ((w.alloc (.cells c1 t1)).alloc (.cells c2 t2)).heap.size ((w.alloc (.cells c1 t1)).alloc (.cells c2 t2))).alloc (Nat.le_refl _) (.cells c3 t3);have h3:=Rw.new ((w.alloc (.cells c1 t1)).alloc (.cells c2 t2)) c3 t3;rw [a4] at h3;exact⟨a1.go hb,a2.go hb,h3,a3.trans (hb.mono (by omega)),by simp⟩
theorem made (w:World) (old cs:Array Value) (t:TypeId):Rw ((w.alloc (.cells old t)).setRow w.heap.size cs) w.heap.size cs t∧Below w.heap.size w ((w.alloc (.cells old t)).setRow w.heap.size cs)∧((w.alloc (.cells old t)).setRow w.heap.size cs).heap.size=w.heap.size+1 :=
 ⟨(Rw.new w old t).set,below_setRow ((Below.refl _ _).alloc (Nat.le_refl _) _) (Nat.le_refl _) cs,by simp [World.setRow]⟩
theorem gg {g:Nat}{cs:Array Value}{t:TypeId}(h:Hid (Rw w g cs t)) (hb:Below w.heap.size w w'):Hid (Rw w' g cs t):=hid (h.out.go hb)
theorem gb {w0:World}(h:Hid (Below w0.heap.size w0 w)) (hb:Below w.heap.size w w'):Hid (Below w0.heap.size w0 w'):=hid (h.out.trans (hb.mono h.out.size))
theorem bx {w0:World}{B g:Nat}{cs:Array Value}(hw:w'=w.setRow g cs) (h:Hid (Below B w0 w)) (hg:B≤g):Hid (Below B w0 w'):=by subst hw;exact hid (below_setRow h.out hg cs)
theorem kx {g g':Nat}{cs old:Array Value}{t:TypeId}(hw:w'=w.setRow g' old) (h:Hid (Rw w g cs t)) (hn:g≠g'):Hid (Rw w' g cs t):=by subst hw;exact hid (h.out.keep hn)
theorem sx {g:Nat}{cs old:Array Value}{t:TypeId}(hw:w'=w.setRow g cs) (h:Hid (Rw w g old t)):Hid (Rw w' g cs t):=by subst hw;exact hid h.out.set
theorem cl1 {g:Nat}{t:TypeId}{v0:Value}(h:Rw w g #[v0] t):w.cell? ⟨g,0,none⟩=some v0:=h.cell 0 _ rfl
theorem cl2 {g:Nat}{t:TypeId}{v0 v1:Value}(h:Rw w g #[v0,v1] t):w.cell? ⟨g,0,none⟩=some v0∧w.cell? ⟨g,1,none⟩=some v1:=⟨h.cell 0 _ rfl,h.cell 1 _ rfl⟩
theorem cl3 {g:Nat}{t:TypeId}{v0 v1 v2:Value}(h:Rw w g #[v0,v1,v2] t):w.cell? ⟨g,0,none⟩=some v0∧w.cell? ⟨g,1,none⟩=some v1∧w.cell? ⟨g,2,none⟩=some v2:=⟨h.cell 0 _ rfl,h.cell 1 _ rfl,h.cell 2 _ rfl⟩
theorem cl4 {g:Nat}{t:TypeId}{v0 v1 v2 v3:Value}(h:Rw w g #[v0,v1,v2,v3] t):w.cell? ⟨g,0,none⟩=some v0∧w.cell? ⟨g,1,none⟩=some v1∧w.cell? ⟨g,2,none⟩=some v2∧w.cell? ⟨g,3,none⟩=some v3:=⟨h.cell 0 _ rfl,h.cell 1 _ rfl,h.cell 2 _ rfl,h.cell 3 _ rfl⟩
theorem cl5 {g:Nat}{t:TypeId}{v0 v1 v2 v3 v4:Value}(h:Rw w g #[v0,v1,v2,v3,v4] t):w.cell? ⟨g,0,none⟩=some v0∧w.cell? ⟨g,1,none⟩=some v1∧w.cell? ⟨g,2,none⟩=some v2∧w.cell? ⟨g,3,none⟩=some v3∧w.cell? ⟨g,4,none⟩=some v4:=⟨h.cell 0 _ rfl,h.cell 1 _ rfl,h.cell 2 _ rfl,h.cell 3 _ rfl,h.cell 4 _ rfl⟩
theorem cl6 {g:Nat}{t:TypeId}{v0 v1 v2 v3 v4 v5:Value}(h:Rw w g #[v0,v1,v2,v3,v4,v5] t):w.cell? ⟨g,0,none⟩=some v0∧w.cell? ⟨g,1,none⟩=some v1∧w.cell? ⟨g,2,none⟩=some v2∧w.cell? ⟨g,3,none⟩=some v3∧w.cell? ⟨g,4,none⟩=some v4∧w.cell? ⟨g,5,none⟩=some v5:=⟨h.cell 0 _ rfl,h.cell 1 _ rfl,h.cell 2 _ rfl,h.cell 3 _ rfl,h.cell 4 _ rfl,h.cell 5 _ rfl⟩
theorem cl7 {g:Nat}{t:TypeId}{v0 v1 v2 v3 v4 v5 v6:Value}(h:Rw w g #[v0,v1,v2,v3,v4,v5,v6] t):w.cell? ⟨g,0,none⟩=some v0∧w.cell? ⟨g,1,none⟩=some v1∧w.cell? ⟨g,2,none⟩=some v2∧w.cell? ⟨g,3,none⟩=some v3∧w.cell? ⟨g,4,none⟩=some v4∧w.cell? ⟨g,5,none⟩=some v5∧w.cell? ⟨g,6,none⟩=some v6:=⟨h.cell 0 _ rfl,h.cell 1 _ rfl,h.cell 2 _ rfl,h.cell 3 _ rfl,h.cell 4 _ rfl,h.cell 5 _ rfl,h.cell 6 _ rfl⟩
theorem cl8 {g:Nat}{t:TypeId}{v0 v1 v2 v3 v4 v5 v6 v7:Value}(h:Rw w g #[v0,v1,v2,v3,v4,v5,v6,v7] t):w.cell? ⟨g,0,none⟩=some v0∧w.cell? ⟨g,1,none⟩=some v1∧w.cell? ⟨g,2,none⟩=some v2∧w.cell? ⟨g,3,none⟩=some v3∧w.cell? ⟨g,4,none⟩=some v4∧w.cell? ⟨g,5,none⟩=some v5∧w.cell? ⟨g,6,none⟩=some v6∧w.cell? ⟨g,7,none⟩=some v7:=⟨h.cell 0 _ rfl,h.cell 1 _ rfl,h.cell 2 _ rfl,h.cell 3 _ rfl,h.cell 4 _ rfl,h.cell 5 _ rfl,h.cell 6 _ rfl,h.cell 7 _ rfl⟩
theorem new_row {P:Program}{ops:Array Oper}{rest:List Oper}{o:Oper}{a:Act}{Q:Exit→Act→World→Prop}{W:World}(hgd:o.guard=none) (ty:TypeId) (x y:Operand) (ho:o.op=.store ty x y){t:TypeId}{old:Array Value}(hW:W=w.alloc (.cells old t)) (cells:Array Value) (hx:a.eval x=.pointer (some ⟨w.heap.size,0,none⟩)) (hy:a.eval y=.agg cells)
  (hi:(P.info? ty).map (·.size)=some cells.size) (hold:old.size=cells.size) (h1:cells.all (·.oneCell')=true) (h:∀ w',(Rw w' w.heap.size cells t∧Below w.heap.size w w'∧w'.heap.size=w.heap.size+1)→wpList P ops Q rest (a.put o.dst undef) w'):wpList P ops Q (o::rest) a W:=by
 subst hW;exact wpList_store_row hgd ty x y ho w.heap.size cells hx hy t old (heap_alloc_new w _) hi hold h1 (h _ (made w old cells t))
theorem old_row {P:Program}{ops:Array Oper}{rest:List Oper}{o:Oper}{a:Act}{Q:Exit→Act→World→Prop}(hgd:o.guard=none) (ty:TypeId) (x y:Operand) (ho:o.op=.store ty x y) (g:Nat) (cells:Array Value){t:TypeId}{old:Array Value}(hx:a.eval x=.pointer (some ⟨g,0,none⟩)) (hy:a.eval y=.agg cells)
  (hg:Rw w g old t) (hi:(P.info? ty).map (·.size)=some cells.size) (hold:old.size=cells.size) (h1:cells.all (·.oneCell')=true) (h:∀ w',w'=w.setRow g cells→wpList P ops Q rest (a.put o.dst undef) w'):wpList P ops Q (o::rest) a w :=
 wpList_store_row hgd ty x y ho g cells hx hy t old hg hi hold h1 (h _ rfl)
theorem row6 (K M L S I:Int) (T:ByteArray):(#[.int .u8 K,.int .u16 M,.int .u32 L,.int .u32 S,.string T,.int .u32 I]:Array Value).all (·.oneCell')=true:=by simp [Value.oneCell']
theorem row3 (K I:Int) (T:ByteArray):(#[.int .u32 K,.string T,.int .u32 I]:Array Value).all (·.oneCell')=true:=by simp [Value.oneCell']
theorem keyOf_any (i:Nat) (hi:i<4294967296) (w:World):Calls Tryz.prog 139 #[.int .u32 (i:Int)] w fun e w'=>e=.returned (.string (kI i))∧Below w.heap.size w w':=by
 have HK:=hid (fun w=>key_in ⟨1,i,ByteArray.empty,0⟩ ⟨show (1:Nat)<256 by decide,hi,show (0:Nat)<4294967296 by decide⟩ w);unfold kI;generalize enK ⟨1,i,ByteArray.empty,0⟩=k at *;generalize chK ⟨1,i,ByteArray.empty,0⟩=x at *;unfold vK at HK;dsimp only at HK
 go_enter Tryz.func139,Tryz.ntmps139
 go_wp2_with (go_at_call 30;refine (HK.out _).mono ?_;rintro e w1 ⟨rfl,hb⟩;have HB:=hid hb;clear hb)
 go_ret
 exact⟨rfl,HB.out⟩
theorem kept_any (m:In) (i:Nat) (hm:m.lim) (hi:i<4294967296) (w:World):Calls Tryz.prog 102 #[vNd m i] w fun e w'=>e=.returned (.agg (Sc.enc (kept m i)).toArray)∧Below w.heap.size w w':=by
 have HE:=hid (fun w=>encode_in m hm w);have HK:=hid (fun w=>keyOf_any i hi w);show Calls _ _ _ _ fun e w'=>e=.returned (.agg #[.string (kI i),.bool true,.string (enI m)])∧_
 generalize enI m=s at *;generalize chI m=x at *;generalize kI i=k at *;obtain⟨mK,mM,mL,mS,mT⟩:=m;unfold vI at HE;dsimp only at HE ⊢;clear hm;have HN:=hid (two_new w #[.int .u8 mK,.int .u16 mM,.int .u32 mL,.int .u32 mS,.string mT,.int .u32 i] #[.string ⟨#[]⟩,.bool false,.string ⟨#[]⟩] 161 138)
 go_enter Tryz.func102,Tryz.ntmps102
 go_wp2_with fail
 try generalize ((w.alloc (.cells #[.int .u8 mK,.int .u16 mM,.int .u32 mL,.int .u32 mS,.string mT,.int .u32 i] 161)).alloc (.cells #[.string ⟨#[]⟩,.bool false,.string ⟨#[]⟩] 138))=w0 at *
 have Rn:=hid HN.out.1;have Rz:=hid HN.out.2.1;have B:=hid HN.out.2.2.1;clear HN;obtain⟨cn0,cn1,cn2,cn3,cn4,cn5⟩:=cl6 Rn.out;obtain⟨cz0,cz1,cz2⟩:=cl3 Rz.out;refine (HE.out _).mono ?_;rintro e w1 ⟨rfl,hb⟩;clear cn0 cn1 cn2 cn3 cn4 cn5 cz0 cz1 cz2;replace Rn:=gg Rn hb;replace Rz:=gg Rz hb;replace B:=gb B hb;obtain⟨cn0,cn1,cn2,cn3,cn4,cn5⟩:=cl6 Rn.out;obtain⟨cz0,cz1,cz2⟩:=cl3 Rz.out;clear hb
 go_wp2_with (first|(go_at_call 139;refine (HK.out _).mono ?_;rintro e w2 ⟨rfl,hb⟩;clear cn0 cn1 cn2 cn3 cn4 cn5 cz0 cz1 cz2;replace Rn:=gg Rn hb;replace Rz:=gg Rz hb;replace B:=gb B hb;obtain⟨cn0,cn1,cn2,cn3,cn4,cn5⟩:=cl6 Rn.out;obtain⟨cz0,cz1,cz2⟩:=cl3 Rz.out;clear hb)|(refine old_row rfl 138 (.tmp 2) (.tmp 15) rfl (w.heap.size+1) #[.string k,.bool true,.string s] rfl rfl Rz.out (by kernel_rfl) rfl (by simp [Value.oneCell']) ?_;intro w3 hw;clear cn0 cn1 cn2 cn3 cn4 cn5 cz0 cz1 cz2;replace B:=bx hw B (by omega);replace Rn:=kx hw Rn (by omega);replace Rz:=sx hw Rz;clear hw;obtain⟨cn0,cn1,cn2,cn3,cn4,cn5⟩:=cl6 Rn.out;obtain⟨cz0,cz1,cz2⟩:=cl3 Rz.out))
 refine bodyPost_ret (v:=.agg #[.string k,.bool true,.string s]) (results_cell_row rfl _ _ (w.heap.size+1) 138 #[.string k,.bool true,.string s] (0,0) _ rfl Rz.out Tryz.underlying138 rfl (by kernel_rfl)) rfl ?_;exact⟨rfl,B.out⟩
theorem names_any (p:Pl) (i:Nat) (hi:i<4294967296) (w:World):Calls Tryz.prog 103 #[vPl p,.int .u32 (i:Int)] w fun e w'=>e=.returned (.agg (Sc.enc (names p i)).toArray)∧Below w.heap.size w w':=by
 have HX:=hid (fun w=>number_any i 4 w (by omega));have hu:IntKind.u64.wrap (i:Int)=(i:Int):=u64_id (by omega);show Calls _ _ _ _ fun e w'=>e=.returned (.agg #[.string p.k,.bool true,.string (nB i 4)])∧_
 generalize nB i 4=s at *;generalize nE i 4=x at *;obtain⟨pd,pk,pi⟩:=p;dsimp only;clear hi;have HN:=hid (two_new w #[.int .u32 pd,.string pk,.int .u32 pi] #[.string ⟨#[]⟩,.bool false,.string ⟨#[]⟩] 170 138)
 go_enter Tryz.func103,Tryz.ntmps103
 go_wp2_with fail
 try generalize ((w.alloc (.cells #[.int .u32 pd,.string pk,.int .u32 pi] 170)).alloc (.cells #[.string ⟨#[]⟩,.bool false,.string ⟨#[]⟩] 138))=w0 at *
 have Rp:=hid HN.out.1;have Rz:=hid HN.out.2.1;have B:=hid HN.out.2.2.1;clear HN;obtain⟨cp0,cp1,cp2⟩:=cl3 Rp.out;obtain⟨cz0,cz1,cz2⟩:=cl3 Rz.out;refine (HX.out _).mono ?_;rintro e w1 ⟨rfl,hb⟩;clear cp0 cp1 cp2 cz0 cz1 cz2;replace Rp:=gg Rp hb;replace Rz:=gg Rz hb;replace B:=gb B hb;obtain⟨cp0,cp1,cp2⟩:=cl3 Rp.out;obtain⟨cz0,cz1,cz2⟩:=cl3 Rz.out;clear hb
 go_wp2_with (first|(refine old_row rfl 138 (.tmp 4) (.tmp 16) rfl (w.heap.size+1) #[.string pk,.bool true,.string s] rfl rfl Rz.out (by kernel_rfl) rfl (by simp [Value.oneCell']) ?_;intro w2 hw;clear cp0 cp1 cp2 cz0 cz1 cz2;replace B:=bx hw B (by omega);replace Rp:=kx hw Rp (by omega);replace Rz:=sx hw Rz;clear hw;obtain⟨cp0,cp1,cp2⟩:=cl3 Rp.out;obtain⟨cz0,cz1,cz2⟩:=cl3 Rz.out))
 refine bodyPost_ret (v:=.agg #[.string pk,.bool true,.string s]) (results_cell_row rfl _ _ (w.heap.size+1) 138 #[.string pk,.bool true,.string s] (0,0) _ rfl Rz.out Tryz.underlying138 rfl (by kernel_rfl)) rfl ?_;exact⟨rfl,B.out⟩
theorem isFree_any (p:Pl) (w:World):Calls Tryz.prog 109 #[vPl p] w fun e w'=>e=.returned (.agg (Sc.enc (isFree p)).toArray)∧Below w.heap.size w w':=by
 show Calls _ _ _ _ fun e w'=>e=.returned (.agg #[.string p.k,.bool false,.string ⟨#[]⟩])∧_
 obtain⟨pd,pk,pi⟩:=p;dsimp only
 go_enter Tryz.func109,Tryz.ntmps109
 go_wp2
 refine bodyPost_ret (v:=.agg #[.string pk,.bool false,.string ⟨#[]⟩]) (by simp [results,Tryz.results109,go_sem]) rfl ?_;exact⟨rfl,((Below.refl _ _).alloc (Nat.le_refl _) _).alloc (by simp) _⟩
theorem get_in (h:VA w A n c L) (k:ByteArray):Calls Tryz.prog 99 #[.slice A n c,.string k] w fun e w'=>e=.returned (.tuple #[.string ((get L k).getD ⟨#[]⟩),.int .i64 (if (get L k).isSome then 0 else 5)])∧Below w.heap.size w w':=by
 refine (get_any L k A n c w.heap.size h.it.1 (by have:=h.it.2.1;omega) w (Nat.le_refl _) h.it.2.2).mono fun e w' ⟨h1,h2⟩=>⟨?_,h2⟩
 rw [h1,h.rt];unfold getV;cases get L k<;>rfl
theorem get_size (h:VA w A n c L) (k:ByteArray):((get L k).getD ⟨#[]⟩).size≤160:=by
 cases e:get L k with
 | none=>exact Nat.zero_le _
 | some v=>exact (Di.rt_sizes h.rt _ ((get_some h.rt).1 e)).2
theorem nd_deI (L:List Itm) (i:Nat):nd L i=deI ((get L (kI i)).getD ⟨#[]⟩):=rfl
theorem nd_lim (L:List Itm) (i:Nat):(nd L i).lim:=by
 unfold nd deI;split
 ·exact tkI_lim _
 ·exact⟨by decide,by decide,by decide,by decide⟩
theorem node_any (h:VA w A n c L) (i:Nat) (hi:i<4294967296):Calls Tryz.prog 112 #[vV A n c,.int .u32 (i:Int)] w fun e w'=>e=.returned (vNd (nd L i) i)∧Below w.heap.size w w':=by
 have HV:=hid h;have HK:=hid (fun w=>keyOf_any i hi w);have HG:=hid (fun (w1:World) (hb:Below w.heap.size w w1)=>get_in (h.go hb) (kI i));have HD:=hid (fun w=>decode_in ((get L (kI i)).getD ⟨#[]⟩) (by have:=get_size h (kI i);unfold maxLen;omega) w);rw [← nd_deI] at HD;generalize nd L i=m at *;generalize (get L (kI i)).getD ⟨#[]⟩=s at *;generalize (get L (kI i)).isSome=q at *;generalize (if q=true then (0:Int) else 5)=x at *;generalize deIE s=y at *;generalize kI i=k at *;obtain⟨mK,mM,mL,mS,mT⟩:=m;unfold vI at HD;dsimp only at HD ⊢;clear hi h;have HN:=hid (two_new w #[.slice A n c] #[.int .u8 0,.int .u16 0,.int .u32 0,.int .u32 0,.string ⟨#[]⟩,.int .u32 0] 84 161)
 go_enter Tryz.func112,Tryz.ntmps112
 go_wp2_with fail
 try generalize ((w.alloc (.cells #[.slice A n c] 84)).alloc (.cells #[.int .u8 0,.int .u16 0,.int .u32 0,.int .u32 0,.string ⟨#[]⟩,.int .u32 0] 161))=w0 at *
 have Rv:=hid HN.out.1;have Rz:=hid HN.out.2.1;have B:=hid HN.out.2.2.1;clear HN;have cv0:=cl1 Rv.out;obtain⟨cz0,cz1,cz2,cz3,cz4,cz5⟩:=cl6 Rz.out;refine wp_region_G (fun w'=>Below w0.heap.size w0 w') (by kernel_rfl) (by kernel_rfl) (Below.refl _ _).drew ?_;refine wpG_val (.pointer (some ⟨w.heap.size,0,none⟩)) rfl (by rfl) (fun w' hSw=>by go_simp) ?_;simp only [Gw1ighta,Gw1ightb,Gw1ightc];refine wpG_val (.slice A n c) rfl (by rfl) (fun w' hSw=>by have c:=(Rv.out.go hSw).cell 0 _ rfl;go_simp) ?_;simp only [Gw1ighta,Gw1ightb,Gw1ightc];refine wpG_val (.int .u32 (i:Int)) rfl (by rfl) (fun w' hSw=>by go_simp) ?_;simp only [Gw1ighta,Gw1ightb,Gw1ightc];refine wpG_call (.string k) 139 #[.int .u32 (i:Int)] rfl (by rfl) (fun w'=>by go_simp) (fun w' hSw=>(HK.out w').mono fun e w2 h=>⟨h.1,hSw.trans (h.2.mono hSw.size)⟩) ?_;simp only [Gw1ighta,Gw1ightb,Gw1ightc];refine wpG_call (.tuple #[.string s,.int .i64 x]) 99 #[.slice A n c,.string k] rfl (by rfl) (fun w'=>by go_simp) (fun w' hSw=>(HG.out w' (B.out.trans (hSw.mono B.out.size))).mono fun e w2 h=>⟨h.1,hSw.trans (h.2.mono hSw.size)⟩) ?_;simp only [Gw1ighta,Gw1ightb,Gw1ightc];refine wpG_val (.tuple #[.string s,.int .i64 x]) rfl (by rfl) (fun w' hSw=>by go_simp) ?_;simp only [Gw1ighta,Gw1ightb,Gw1ightc];refine wpG_val (.string s) rfl (by rfl) (fun w' hSw=>by go_simp) ?_;simp only [Gw1ighta,Gw1ightb,Gw1ightc];refine wpG_val (.int .i64 x) rfl (by rfl) (fun w' hSw=>by go_simp) ?_;simp only [Gw1ighta,Gw1ightb,Gw1ightc];refine wpG_val (.string s) rfl (by rfl) (fun w' hSw=>by go_simp) ?_;simp only [Gw1ighta,Gw1ightb,Gw1ightc];refine wpG_val (.int .i64 x) rfl (by rfl) (fun w' hSw=>by go_simp) ?_;simp only [Gw1ighta,Gw1ightb,Gw1ightc];refine wpG_nil ?_;intro w1 hb;clear cv0 cz0 cz1 cz2 cz3 cz4 cz5;replace Rv:=gg Rv hb;replace Rz:=gg Rz hb;replace B:=gb B hb;have cv0:=cl1 Rv.out;obtain⟨cz0,cz1,cz2,cz3,cz4,cz5⟩:=cl6 Rz.out;clear hb
 go_wp2_with (first|(go_at_call 145;refine (HD.out _).mono ?_;rintro e w2 ⟨rfl,hb⟩;clear cv0 cz0 cz1 cz2 cz3 cz4 cz5;replace Rv:=gg Rv hb;replace Rz:=gg Rz hb;replace B:=gb B hb;have cv0:=cl1 Rv.out;obtain⟨cz0,cz1,cz2,cz3,cz4,cz5⟩:=cl6 Rz.out;clear hb)|(refine new_row rfl 35 (.tmp 7) (.tmp 20) rfl rfl #[.int .u8 mK,.int .u16 mM,.int .u32 mL,.int .u32 mS,.string mT] rfl rfl (by kernel_rfl) rfl (row5 _ _ _ _ _) ?_;intro w3 M;have Dd_z:=hid Rz.out.lt;clear cv0 cz0 cz1 cz2 cz3 cz4 cz5;replace Rv:=gg Rv M.2.1;replace Rz:=gg Rz M.2.1;replace B:=gb B M.2.1;have Rd:=hid M.1;have cv0:=cl1 Rv.out;obtain⟨cz0,cz1,cz2,cz3,cz4,cz5⟩:=cl6 Rz.out;obtain⟨cd0,cd1,cd2,cd3,cd4⟩:=cl5 Rd.out;clear M)|(refine wpList_load_row rfl 35 (.tmp 22) rfl (w2.heap.size) rfl 35 #[.int .u8 mK,.int .u16 mM,.int .u32 mL,.int .u32 mS,.string mT] (0,0) _ Rd.out Tryz.underlying35 rfl (by kernel_rfl) ?_)|(refine old_row rfl 161 (.tmp 4) (.tmp 24) rfl (w.heap.size+1) #[.int .u8 mK,.int .u16 mM,.int .u32 mL,.int .u32 mS,.string mT,.int .u32 i] rfl rfl Rz.out (by kernel_rfl) rfl (row6 _ _ _ _ _ _) ?_;intro w4 hw;clear cv0 cz0 cz1 cz2 cz3 cz4 cz5 cd0 cd1 cd2 cd3 cd4;replace B:=bx hw B (by omega);replace Rv:=kx hw Rv (by omega);replace Rd:=kx hw Rd (Nat.ne_of_gt Dd_z.out);replace Rz:=sx hw Rz;clear hw;have cv0:=cl1 Rv.out;obtain⟨cz0,cz1,cz2,cz3,cz4,cz5⟩:=cl6 Rz.out;obtain⟨cd0,cd1,cd2,cd3,cd4⟩:=cl5 Rd.out))
 refine bodyPost_ret (v:=.agg #[.int .u8 mK,.int .u16 mM,.int .u32 mL,.int .u32 mS,.string mT,.int .u32 i]) (results_cell_row rfl _ _ (w.heap.size+1) 161 #[.int .u8 mK,.int .u16 mM,.int .u32 mL,.int .u32 mS,.string mT,.int .u32 i] (0,0) _ rfl Rz.out Tryz.underlying161 rfl (by kernel_rfl)) rfl ?_;exact⟨rfl,B.out⟩
theorem enn_none {k:ByteArray}(h:get L k=none):enn L k=0:=by unfold enn;rw [h]
theorem enn_some {k v:ByteArray}(h:get L k=some v):enn L k=numOf v:=by unfold enn;rw [h]
theorem enn_lt (L:List Itm) (k:ByteArray):enn L k<4294967296:=by
 unfold enn;split
 ·exact Di.numOf_lt _
 ·decide
theorem entry_any (h:VA w A n c L) (k:ByteArray):Calls Tryz.prog 142 #[vV A n c,.string k] w fun e w'=>e=.returned (.int .u32 ((enn L k:Nat):Int))∧Below w.heap.size w w':=by
 cases he:get L k with
 | none =>
  have HV:=hid h;have HG:=hid (fun (w1:World) (hb:Below w.heap.size w w1)=>get_in (h.go hb) k);rw [he] at HG;rw [enn_none he];dsimp only [Option.getD_none,Option.isSome_none] at HG;simp only [Bool.false_eq_true,if_false] at HG;clear he h;have HN:=hid (one_new w #[.slice A n c] 84)
  go_enter Tryz.func142,Tryz.ntmps142
  go_wp2_with fail
  try generalize (w.alloc (.cells #[.slice A n c] 84))=w0 at *
  have Rv:=hid HN.out.1;have B:=hid HN.out.2.1;clear HN;have cv0:=cl1 Rv.out;refine (HG.out _ B.out).mono ?_;rintro e w1 ⟨rfl,hb⟩;clear cv0;replace Rv:=gg Rv hb;replace B:=gb B hb;have cv0:=cl1 Rv.out;clear hb
  go_wp2
  go_ret
  exact⟨rfl,B.out⟩
 | some v =>
  have HV:=hid h;have HG:=hid (fun (w1:World) (hb:Below w.heap.size w w1)=>get_in (h.go hb) k);have hsz:=get_size h k;rw [he] at HG hsz;rw [enn_some he];dsimp only [Option.getD_some,Option.isSome_some] at HG hsz;simp only [if_true] at HG;have HT:=hid (fun w=>take_any v 4 w (by unfold maxLen;omega));obtain⟨m,hm⟩:∃ m,numOf v=m:=⟨_,rfl⟩;have hml:=Di.numOf_lt v;have hmt:tN v 4=(m:Int):=by rw [← hm];exact tn_nat v 4 (by decide)
  rw [hm] at hml ⊢;rw [hmt] at HT;have hu:IntKind.u32.wrap (m:Int)=(m:Int):=u32_id hml;generalize tR v 4=r at *;generalize tE v 4=x at *;clear he h hm hml hmt hsz;have HN:=hid (one_new w #[.slice A n c] 84)
  go_enter Tryz.func142,Tryz.ntmps142
  go_wp2_with fail
  try generalize (w.alloc (.cells #[.slice A n c] 84))=w0 at *
  have Rv:=hid HN.out.1;have B:=hid HN.out.2.1;clear HN;have cv0:=cl1 Rv.out;refine (HG.out _ B.out).mono ?_;rintro e w1 ⟨rfl,hb⟩;clear cv0;replace Rv:=gg Rv hb;replace B:=gb B hb;have cv0:=cl1 Rv.out;clear hb
  go_wp2_with (first|(go_at_call 163;refine (HT.out _).mono ?_;rintro e w2 ⟨rfl,hb⟩;clear cv0;replace Rv:=gg Rv hb;replace B:=gb B hb;have cv0:=cl1 Rv.out;clear hb))
  go_ret
  exact⟨rfl,B.out⟩
theorem pfx_size (K I:Nat):(pfx K I).size≤5:=by
 unfold pfx;split
 ·exact Nat.zero_le _
 ·rw [ByteArray.size_append,Pk.bs_size,Pk.bs_size,Pk.be_length];have:(Ino.lt K).length≤1:=by
   unfold Ino.lt;split
   ·decide
   ·split
    ·decide
    ·split
     ·decide
     ·split<;>decide
  omega
theorem has_any (h:VA w A n c L) (K i:Nat) (hK:K<256) (hi:i<4294967296):Calls Tryz.prog 146 #[vV A n c,.int .u8 (K:Int),.int .u32 (i:Int)] w fun e w'=>∃ v,e=.returned v∧MkI w w' v (und L (pfx K i)):=by
 have HV:=hid h;have HP:=hid (fun w=>prefix_in K i hK hi w);have HU:=hid (fun (w1:World) (hb:Below w.heap.size w w1)=>under_any L (pfx K i) (by have:=pfx_size K i;omega) A n c w1.heap.size (h.go hb).it.1 h.nc h.cm (by have:=h.it.2.1;omega) w1 (Nat.le_refl _) (h.go hb).it.2.2);rw [h.rt,if_pos rfl] at HU;generalize pfx K i=p at *;clear h;have HN:=hid (one_new w #[.slice A n c] 84)
 go_enter Tryz.func146,Tryz.ntmps146
 go_wp2_with fail
 try generalize (w.alloc (.cells #[.slice A n c] 84))=w0 at *
 have Rv:=hid HN.out.1;have B:=hid HN.out.2.1;clear HN;have cv0:=cl1 Rv.out;refine wp_region_X (fun _ (w':World)=>Below w0.heap.size w0 w') (by kernel_rfl) ?_;have hd:Below w0.heap.size w0 w0.drew:=(Below.refl _ _).drew;generalize hW1:w0.drew=w1 at *;have hS:=hd;clear hW1;have Qv:=hid (Rv.out);clear cv0;replace Rv:=gg Rv hd;replace B:=gb B hd;have cv0:=cl1 Rv.out;clear hd;refine take_X 0 10 (.pointer (some ⟨w.heap.size,0,none⟩)) rfl (by rfl) (by kernel_rfl) (by kernel_rfl) (by kernel_rfl) (by kernel_rfl) (fun _ _ _ h=>h) (fun _ _ h=>h) (Or.inl ⟨by rfl,fun w' hB=>by go_simp⟩) hS ?_;simp only [Gw1ighta,Gw1ightb,Gw1ightc];refine take_X 1 11 (.slice A n c) rfl (by rfl) (by kernel_rfl) (by kernel_rfl) (by kernel_rfl) (by kernel_rfl) (fun _ _ _ h=>h) (fun _ _ h=>h) (Or.inl ⟨by rfl,fun w' hB=>by obtain⟨_,_,_,hSw⟩:=hB;have c:=(Qv.out.go hSw).cell 0 _ rfl;go_simp⟩) hS ?_;simp only [Gw1ighta,Gw1ightb,Gw1ightc];refine take_X 2 12 (.int .u8 (K:Int)) rfl (by rfl) (by kernel_rfl) (by kernel_rfl) (by kernel_rfl) (by kernel_rfl) (fun _ _ _ h=>h) (fun _ _ h=>h) (Or.inl ⟨by rfl,fun w' hB=>by go_simp⟩) hS ?_;simp only [Gw1ighta,Gw1ightb,Gw1ightc];refine take_X 3 13 (.int .u32 (i:Int)) rfl (by rfl) (by kernel_rfl) (by kernel_rfl) (by kernel_rfl) (by kernel_rfl) (fun _ _ _ h=>h) (fun _ _ h=>h) (Or.inl ⟨by rfl,fun w' hB=>by go_simp⟩) hS ?_;simp only [Gw1ighta,Gw1ightb,Gw1ightc];refine only_X 4 rfl (by kernel_rfl) (by rfl) (fun K hK=>?_)
 go_wp2_with fail
 go_at_call 82
 refine (HP.out _).mono ?_;rintro e w2 ⟨rfl,hb⟩;have hS2:=hS.trans (hb.mono hS.size);clear cv0;replace Rv:=gg Rv hb;replace B:=gb B hb;have cv0:=cl1 Rv.out;clear hb;refine hK.out _ _ hS2 ?_;clear hK K;try simp only [Act.put,Gw1ighta,Gw1ightb,Gw1ightc]
 replace hS:=hS2;clear hS2;refine only_X 5 rfl (by kernel_rfl) (by rfl) (fun K hK=>?_)
 go_wp2_with fail
 go_at_call 165
 refine (HU.out _ B.out).mono ?_;rintro e w3 ⟨v,rfl,hm⟩;have hb:=hm.2;have HM:=hid (hm.since B.out);have hS2:=hS.trans (hb.mono hS.size);clear cv0;replace Rv:=gg Rv hb;replace B:=gb B hb;clear hm;have cv0:=cl1 Rv.out;clear hb;refine hK.out _ _ hS2 ?_;clear hK K;try simp only [Act.put,Gw1ighta,Gw1ightb,Gw1ightc]
 replace hS:=hS2;clear hS2;refine take_X 6 9 (.tuple #[v,.int .i64 (er true)]) rfl (by rfl) (by kernel_rfl) (by kernel_rfl) (by kernel_rfl) (by kernel_rfl) (fun _ _ _ h=>h) (fun _ _ h=>h) (Or.inl ⟨by rfl,fun w' hB=>by go_simp⟩) hS ?_;simp only [Gw1ighta,Gw1ightb,Gw1ightc];refine take_X 7 16 (v) rfl (by rfl) (by kernel_rfl) (by kernel_rfl) (by kernel_rfl) (by kernel_rfl) (fun _ _ _ h=>h) (fun _ _ h=>h) (Or.inl ⟨by rfl,fun w' hB=>by go_simp⟩) hS ?_;simp only [Gw1ighta,Gw1ightb,Gw1ightc];refine take_X 8 17 (.int .i64 (er true)) rfl (by rfl) (by kernel_rfl) (by kernel_rfl) (by kernel_rfl) (by kernel_rfl) (fun _ _ _ h=>h) (fun _ _ h=>h) (Or.inl ⟨by rfl,fun w' hB=>by go_simp⟩) hS ?_;simp only [Gw1ighta,Gw1ightb,Gw1ightc];refine take_X 9 7 (v) rfl (by rfl) (by kernel_rfl) (by kernel_rfl) (by kernel_rfl) (by kernel_rfl) (fun _ _ _ h=>h) (fun _ _ h=>h) (Or.inl ⟨by rfl,fun w' hB=>by go_simp⟩) hS ?_;simp only [Gw1ighta,Gw1ightb,Gw1ightc];refine take_X 10 8 (.int .i64 (er true)) rfl (by rfl) (by kernel_rfl) (by kernel_rfl) (by kernel_rfl) (by kernel_rfl) (fun _ _ _ h=>h) (fun _ _ h=>h) (Or.inl ⟨by rfl,fun w' hB=>by go_simp⟩) hS ?_;simp only [Gw1ighta,Gw1ightb,Gw1ightc];refine done_X (by kernel_rfl) ?_ _;clear hS Qv
 go_wp2
 go_ret
 exact⟨v,rfl,HM.out⟩
theorem ne_pos {α:Type}(D:List α):(!D.isEmpty)=decide (0<D.length):=by cases D<;>simp
theorem busy_any (h:VA w A n c L) (i:Nat) (hi:i<4294967296):Calls Tryz.prog 113 #[vV A n c,.int .u32 (i:Int)] w fun e w'=>e=.returned (.bool (busy L i))∧Below w.heap.size w w':=by
 have HU:=hid (fun (w1:World) (hb:Below w.heap.size w w1)=>has_any (h.go hb) 2 i (by decide) hi);unfold Fi.busy;rw [ne_pos];generalize und L (pfx 2 i)=D at *;clear h hi;have HN:=hid (one_new w #[.slice A n c] 84)
 go_enter Tryz.func113,Tryz.ntmps113
 go_wp2_with fail
 try generalize (w.alloc (.cells #[.slice A n c] 84))=w0 at *
 have Rv:=hid HN.out.1;have B:=hid HN.out.2.1;clear HN;have cv0:=cl1 Rv.out;refine (HU.out _ B.out).mono ?_;rintro e w1 ⟨v,rfl,hm⟩;have hb:=hm.2;obtain⟨A2,c2,rfl,_⟩:=hm.ls It.enc_len;clear cv0;replace Rv:=gg Rv hb;replace B:=gb B hb;clear hm;have cv0:=cl1 Rv.out;clear hb
 go_wp2
 go_ret
 exact⟨rfl,B.out⟩
end Go.Proofs.YtopepebcnaikiaaGreatDoor.Fi
namespace Go.Proofs.YtopepebcnaikiaaGreatDoor.Fi
open Lib (hid)
open Go.ChangeShapes Go.WideShapes Go.ChangeAt Go.RowKit
open BigFrame
open Ar Rg
open Ino
open It (Itm Ch get und app dif rt rc enc er getV get_any under_any apply_any diff_any MkI MkC)
open Di (ItA wlk rgt rgt_iff numOf Vo vo pts lsX lsL up En NmA Walk_any)
open Ph (nb spX spB laX laD laN splitN lastN nameQ SpPost LaPost Nm)
open Pk (nB nE tN tR tE number_any take_any)
variable {w w' wr:World}{A:Option Addr}{n c:Nat}{L:List Itm}
noncomputable def wdI (L:List Itm) (fo:Bool) (D:List ByteArray):Nat:=if (wlk L fo D).2=0 then (wlk L fo D).1 else 0
noncomputable def wdN (L:List Itm) (fo:Bool) (D:List ByteArray):In:=if (wlk L fo D).2=0 then nd L (wdI L fo D) else zIn
theorem wlk_lt (h:rgt L=true){fo:Bool}{D:List ByteArray}(h0:(wlk L fo D).2=0):(wlk L fo D).1<4294967296:=by
 obtain⟨m,hm,_⟩:=wlk_some h h0;exact (ino_num h hm).2.1
theorem wdI_lt (h:rgt L=true) (fo:Bool) (D:List ByteArray):wdI L fo D<4294967296:=by
 unfold wdI;split
 ·exact wlk_lt h (by assumption)
 ·decide
theorem zIn_lim:zIn.lim:=⟨by decide,by decide,by decide,by decide⟩
theorem ld_yes {p:ByteArray}(h:spX p=0) (fo:Bool):ldX L p fo=(wlk L fo (spB p)).2∧ldI L p fo=wdI L fo (spB p)∧ldN L p fo=wdN L fo (spB p):=by
 have e:ldX L p fo=(wlk L fo (spB p)).2:=by unfold ldX;rw [if_pos h]
 have e2:ldI L p fo=wdI L fo (spB p):=by unfold ldI wdI;rw [e]
 refine⟨e,e2,?_⟩;unfold ldN wdN;rw [e,e2]
theorem ld_no {p:ByteArray}(h:spX p≠0) (fo:Bool):ldX L p fo=spX p∧ldI L p fo=0∧ldN L p fo=zIn:=by
 have e:ldX L p fo=spX p:=by unfold ldX;rw [if_neg h]
 refine⟨e,?_,?_⟩
 ·unfold ldI;rw [e,if_neg h]
 ·unfold ldN;rw [e,if_neg h]
theorem ldI_lt (h:rgt L=true) (p:ByteArray) (fo:Bool):ldI L p fo<4294967296:=by
 by_cases hs:spX p=0
 ·rw [(ld_yes hs fo).2.1];exact wdI_lt h _ _
 ·rw [(ld_no hs fo).2.1];decide
theorem ldN_lim (L:List Itm) (p:ByteArray) (fo:Bool):(ldN L p fo).lim:=by
 unfold ldN;split
 ·exact nd_lim _ _
 ·exact zIn_lim
theorem ne0 {x:Int}(h:x≠0):(x != 0)=true∧(x==0)=false:=by
 constructor
 ·rw [bne_iff_ne];exact h
 ·rw [beq_eq_false_iff_ne];exact h
theorem nm_go {A':Option Addr}{n' c':Nat}{D:List ByteArray}(h:Nm w A' n' c' D) (hl:D.length≤256) (hs:∀ x∈D,x.size≤maxLen):NmA w A' n' c' D:=⟨h.1,h.2.1,h.2.2.1,by have:=h.1;omega,h.2.2.2,hs⟩
theorem spB_sizes {p:ByteArray}:∀ x∈spB p,x.size≤maxLen:=by
 by_cases h:spX p=0
 ·exact Di.sp_sizes h
 ·unfold spB;rw [Ph.sp_err h];intro x hx;cases hx
theorem laD_sub (p:ByteArray):∀ x∈laD p,x∈spB p:=by
 intro x hx;unfold laD at hx;split at hx
 ·exact List.dropLast_subset _ hx
 ·cases hx
theorem laD_len (p:ByteArray):(laD p).length≤256:=by
 have:=Di.spB_len p;unfold laD;split
 ·rw [List.length_dropLast];omega
 ·exact Nat.zero_le _
theorem walked_any (h:VA w A n c L){A':Option Addr}{n' c':Nat}{D:List ByteArray}(hN:NmA w A' n' c' D) (fo:Bool):Calls Tryz.prog 136 #[vV A n c,.slice A' n' c',.bool fo] w fun e w'=>e=.returned (.tuple #[vNd (wdN L fo D) (wdI L fo D),.int .i64 (wlk L fo D).2])∧Below w.heap.size w w':=by
 by_cases h0:(wlk L fo D).2=0
 ·
  have HV:=hid h;have HW:=hid (fun (w1:World) (hb:Below w.heap.size w w1)=>Walk_any c fo (h.go hb).it (hN.go hb));have e1:wdI L fo D=(wlk L fo D).1:=by unfold wdI;rw [if_pos h0]
  have e2:wdN L fo D=nd L (wlk L fo D).1:=by unfold wdN;rw [if_pos h0,e1]
  have hlt:=wlk_lt h.rg h0;rw [e1,e2];rw [h0] at HW ⊢;generalize (wlk L fo D).1=i at *;have HD:=hid (fun (w1:World) (hb:Below w.heap.size w w1)=>node_any (h.go hb) i hlt);generalize nd L i=m at *;obtain⟨mK,mM,mL,mS,mT⟩:=m;try dsimp only at HD ⊢
  clear h hN hlt e1 e2 h0;have HN:=hid (two_new w #[.slice A n c] #[.int .u8 0,.int .u16 0,.int .u32 0,.int .u32 0,.string ⟨#[]⟩,.int .u32 0] 84 161)
  go_enter Tryz.func136,Tryz.ntmps136
  go_wp2_with fail
  try generalize ((w.alloc (.cells #[.slice A n c] 84)).alloc (.cells #[.int .u8 0,.int .u16 0,.int .u32 0,.int .u32 0,.string ⟨#[]⟩,.int .u32 0] 161))=w0 at *
  have Rv:=hid HN.out.1;have Rz:=hid HN.out.2.1;have B:=hid HN.out.2.2.1;clear HN;have cv0:=cl1 Rv.out;obtain⟨cz0,cz1,cz2,cz3,cz4,cz5⟩:=cl6 Rz.out;refine (HW.out _ B.out).mono ?_;rintro e w1 ⟨rfl,hb⟩;clear cv0 cz0 cz1 cz2 cz3 cz4 cz5;replace Rv:=gg Rv hb;replace Rz:=gg Rz hb;replace B:=gb B hb;have cv0:=cl1 Rv.out;obtain⟨cz0,cz1,cz2,cz3,cz4,cz5⟩:=cl6 Rz.out;clear hb
  go_wp2_with (first|(refine wpList_load_row rfl 84 (.tmp 22) rfl (w.heap.size) rfl 84 #[.slice A n c] (0,0) _ Rv.out Tryz.underlying84 rfl (by kernel_rfl) ?_)|(go_at_call 112;refine (HD.out _ B.out).mono ?_;rintro e w2 ⟨rfl,hb⟩;clear cv0 cz0 cz1 cz2 cz3 cz4 cz5;replace Rv:=gg Rv hb;replace Rz:=gg Rz hb;replace B:=gb B hb;have cv0:=cl1 Rv.out;obtain⟨cz0,cz1,cz2,cz3,cz4,cz5⟩:=cl6 Rz.out;clear hb)|(refine old_row rfl 161 (.tmp 6) (.tmp 24) rfl (w.heap.size+1) #[.int .u8 mK,.int .u16 mM,.int .u32 mL,.int .u32 mS,.string mT,.int .u32 i] rfl rfl Rz.out (by kernel_rfl) rfl (row6 _ _ _ _ _ _) ?_;intro w3 hw;clear cv0 cz0 cz1 cz2 cz3 cz4 cz5;replace B:=bx hw B (by omega);replace Rv:=kx hw Rv (by omega);replace Rz:=sx hw Rz;clear hw;have cv0:=cl1 Rv.out;obtain⟨cz0,cz1,cz2,cz3,cz4,cz5⟩:=cl6 Rz.out))
  refine bodyPost_ret (v:=.tuple #[.agg #[.int .u8 mK,.int .u16 mM,.int .u32 mL,.int .u32 mS,.string mT,.int .u32 i],.int .i64 0]) (results_row2 rfl _ _ (w.heap.size+1) 161 #[.int .u8 mK,.int .u16 mM,.int .u32 mL,.int .u32 mS,.string mT,.int .u32 i] (0,0) _ rfl Rz.out Tryz.underlying161 rfl (by kernel_rfl) _ rfl) rfl ?_;exact⟨rfl,B.out⟩
 ·
  have HV:=hid h;have HW:=hid (fun (w1:World) (hb:Below w.heap.size w w1)=>Walk_any c fo (h.go hb).it (hN.go hb));have e1:wdI L fo D=0:=by unfold wdI;rw [if_neg h0]
  have e2:wdN L fo D=zIn:=by unfold wdN;rw [if_neg h0]
  have e3:=ne0 h0;rw [e1,e2];generalize (wlk L fo D).1=i at *;generalize (wlk L fo D).2=x at *;show Calls _ _ _ _ fun e w'=>e=.returned (.tuple #[.agg #[.int .u8 0,.int .u16 0,.int .u32 0,.int .u32 0,.string ⟨#[]⟩,.int .u32 0],.int .i64 x])∧_
  clear h hN e1 e2 h0;have HN:=hid (two_new w #[.slice A n c] #[.int .u8 0,.int .u16 0,.int .u32 0,.int .u32 0,.string ⟨#[]⟩,.int .u32 0] 84 161)
  go_enter Tryz.func136,Tryz.ntmps136
  go_wp2_with fail
  try generalize ((w.alloc (.cells #[.slice A n c] 84)).alloc (.cells #[.int .u8 0,.int .u16 0,.int .u32 0,.int .u32 0,.string ⟨#[]⟩,.int .u32 0] 161))=w0 at *
  have Rv:=hid HN.out.1;have Rz:=hid HN.out.2.1;have B:=hid HN.out.2.2.1;clear HN;have cv0:=cl1 Rv.out;obtain⟨cz0,cz1,cz2,cz3,cz4,cz5⟩:=cl6 Rz.out;refine (HW.out _ B.out).mono ?_;rintro e w1 ⟨rfl,hb⟩;clear cv0 cz0 cz1 cz2 cz3 cz4 cz5;replace Rv:=gg Rv hb;replace Rz:=gg Rz hb;replace B:=gb B hb;have cv0:=cl1 Rv.out;obtain⟨cz0,cz1,cz2,cz3,cz4,cz5⟩:=cl6 Rz.out;clear hb
  go_wp2_with (first|(refine old_row rfl 161 (.tmp 6) (.tmp 20) rfl (w.heap.size+1) #[.int .u8 0,.int .u16 0,.int .u32 0,.int .u32 0,.string ⟨#[]⟩,.int .u32 0] rfl rfl Rz.out (by kernel_rfl) rfl (row6 _ _ _ _ _ _) ?_;intro w2 hw;clear cv0 cz0 cz1 cz2 cz3 cz4 cz5;replace B:=bx hw B (by omega);replace Rv:=kx hw Rv (by omega);replace Rz:=sx hw Rz;clear hw;have cv0:=cl1 Rv.out;obtain⟨cz0,cz1,cz2,cz3,cz4,cz5⟩:=cl6 Rz.out))
  refine bodyPost_ret (v:=.tuple #[.agg #[.int .u8 0,.int .u16 0,.int .u32 0,.int .u32 0,.string ⟨#[]⟩,.int .u32 0],.int .i64 x]) (results_row2 rfl _ _ (w.heap.size+1) 161 #[.int .u8 0,.int .u16 0,.int .u32 0,.int .u32 0,.string ⟨#[]⟩,.int .u32 0] (0,0) _ rfl Rz.out Tryz.underlying161 rfl (by kernel_rfl) _ rfl) rfl ?_;exact⟨rfl,B.out⟩
theorem led_any (h:VA w A n c L) (p:ByteArray) (hp:p.size≤1048576) (fo:Bool):Calls Tryz.prog 96 #[vV A n c,.string p,.bool fo] w fun e w'=>e=.returned (.tuple #[vNd (ldN L p fo) (ldI L p fo),.int .i64 (ldX L p fo)])∧Below w.heap.size w w':=by
 by_cases hs:spX p=0
 ·
  have HV:=hid h;have HS:=hid (fun w=>splitN p (by unfold maxLen;omega) _ _ rfl rfl w);obtain⟨e1,e2,e3⟩:=ld_yes (L:=L) hs fo;rw [e1,e2,e3];rw [hs] at HS;have HW:=hid (fun (w1:World) (hb:Below w.heap.size w w1) (A':Option Addr) (n' c':Nat) (hN:NmA w1 A' n' c' (spB p))=>walked_any (h.go hb) hN fo);have HSL:=hid (Di.spB_len p);have HSS:=hid (@spB_sizes p);generalize spB p=D at *;generalize wdI L fo D=i at *;generalize wdN L fo D=m at *;generalize (wlk L fo D).2=x at *;obtain⟨mK,mM,mL,mS,mT⟩:=m;try dsimp only at HW ⊢
  clear h hp e1 e2 e3 hs;have HN:=hid (two_new w #[.slice A n c] #[.int .u8 0,.int .u16 0,.int .u32 0,.int .u32 0,.string ⟨#[]⟩,.int .u32 0] 84 161)
  go_enter Tryz.func96,Tryz.ntmps96
  go_wp2_with fail
  try generalize ((w.alloc (.cells #[.slice A n c] 84)).alloc (.cells #[.int .u8 0,.int .u16 0,.int .u32 0,.int .u32 0,.string ⟨#[]⟩,.int .u32 0] 161))=w0 at *
  have Rv:=hid HN.out.1;have Rz:=hid HN.out.2.1;have B:=hid HN.out.2.2.1;clear HN;have cv0:=cl1 Rv.out;obtain⟨cz0,cz1,cz2,cz3,cz4,cz5⟩:=cl6 Rz.out;refine (HS.out _).mono ?_;rintro e w1 ⟨A',n',c',rfl,hNm,hb⟩;have HNM:=hid hNm;clear cv0 cz0 cz1 cz2 cz3 cz4 cz5;replace Rv:=gg Rv hb;replace Rz:=gg Rz hb;replace B:=gb B hb;clear hNm;have cv0:=cl1 Rv.out;obtain⟨cz0,cz1,cz2,cz3,cz4,cz5⟩:=cl6 Rz.out;clear hb
  go_wp2_with (first|(refine wpList_load_row rfl 84 (.tmp 19) rfl (w.heap.size) rfl 84 #[.slice A n c] (0,0) _ Rv.out Tryz.underlying84 rfl (by kernel_rfl) ?_)|(go_at_call 136;refine (HW.out _ B.out A' n' c' (nm_go HNM.out HSL.out HSS.out)).mono ?_;rintro e w2 ⟨rfl,hb⟩;clear cv0 cz0 cz1 cz2 cz3 cz4 cz5;replace Rv:=gg Rv hb;replace Rz:=gg Rz hb;replace B:=gb B hb;have cv0:=cl1 Rv.out;obtain⟨cz0,cz1,cz2,cz3,cz4,cz5⟩:=cl6 Rz.out;clear hb)|(refine old_row rfl 161 (.tmp 6) (.tmp 23) rfl (w.heap.size+1) #[.int .u8 mK,.int .u16 mM,.int .u32 mL,.int .u32 mS,.string mT,.int .u32 i] rfl rfl Rz.out (by kernel_rfl) rfl (row6 _ _ _ _ _ _) ?_;intro w3 hw;clear cv0 cz0 cz1 cz2 cz3 cz4 cz5;replace B:=bx hw B (by omega);replace Rv:=kx hw Rv (by omega);replace Rz:=sx hw Rz;clear hw;have cv0:=cl1 Rv.out;obtain⟨cz0,cz1,cz2,cz3,cz4,cz5⟩:=cl6 Rz.out))
  refine bodyPost_ret (v:=.tuple #[.agg #[.int .u8 mK,.int .u16 mM,.int .u32 mL,.int .u32 mS,.string mT,.int .u32 i],.int .i64 x]) (results_row2 rfl _ _ (w.heap.size+1) 161 #[.int .u8 mK,.int .u16 mM,.int .u32 mL,.int .u32 mS,.string mT,.int .u32 i] (0,0) _ rfl Rz.out Tryz.underlying161 rfl (by kernel_rfl) _ rfl) rfl ?_;exact⟨rfl,B.out⟩
 ·
  have HV:=hid h;have HS:=hid (fun w=>splitN p (by unfold maxLen;omega) _ _ rfl rfl w);obtain⟨e1,e2,e3⟩:=ld_no (L:=L) hs fo;have e4:=ne0 hs;rw [e1,e2,e3];generalize spB p=D at *;generalize spX p=x at *;show Calls _ _ _ _ fun e w'=>e=.returned (.tuple #[.agg #[.int .u8 0,.int .u16 0,.int .u32 0,.int .u32 0,.string ⟨#[]⟩,.int .u32 0],.int .i64 x])∧_
  clear h hp e1 e2 e3 hs;have HN:=hid (two_new w #[.slice A n c] #[.int .u8 0,.int .u16 0,.int .u32 0,.int .u32 0,.string ⟨#[]⟩,.int .u32 0] 84 161)
  go_enter Tryz.func96,Tryz.ntmps96
  go_wp2_with fail
  try generalize ((w.alloc (.cells #[.slice A n c] 84)).alloc (.cells #[.int .u8 0,.int .u16 0,.int .u32 0,.int .u32 0,.string ⟨#[]⟩,.int .u32 0] 161))=w0 at *
  have Rv:=hid HN.out.1;have Rz:=hid HN.out.2.1;have B:=hid HN.out.2.2.1;clear HN;have cv0:=cl1 Rv.out;obtain⟨cz0,cz1,cz2,cz3,cz4,cz5⟩:=cl6 Rz.out;refine (HS.out _).mono ?_;rintro e w1 ⟨A',n',c',rfl,hNm,hb⟩;have HNM:=hid hNm;clear cv0 cz0 cz1 cz2 cz3 cz4 cz5;replace Rv:=gg Rv hb;replace Rz:=gg Rz hb;replace B:=gb B hb;clear hNm;have cv0:=cl1 Rv.out;obtain⟨cz0,cz1,cz2,cz3,cz4,cz5⟩:=cl6 Rz.out;clear hb
  go_wp2_with (first|(refine old_row rfl 161 (.tmp 6) (.tmp 17) rfl (w.heap.size+1) #[.int .u8 0,.int .u16 0,.int .u32 0,.int .u32 0,.string ⟨#[]⟩,.int .u32 0] rfl rfl Rz.out (by kernel_rfl) rfl (row6 _ _ _ _ _ _) ?_;intro w2 hw;clear cv0 cz0 cz1 cz2 cz3 cz4 cz5;replace B:=bx hw B (by omega);replace Rv:=kx hw Rv (by omega);replace Rz:=sx hw Rz;clear hw;have cv0:=cl1 Rv.out;obtain⟨cz0,cz1,cz2,cz3,cz4,cz5⟩:=cl6 Rz.out))
  refine bodyPost_ret (v:=.tuple #[.agg #[.int .u8 0,.int .u16 0,.int .u32 0,.int .u32 0,.string ⟨#[]⟩,.int .u32 0],.int .i64 x]) (results_row2 rfl _ _ (w.heap.size+1) 161 #[.int .u8 0,.int .u16 0,.int .u32 0,.int .u32 0,.string ⟨#[]⟩,.int .u32 0] (0,0) _ rfl Rz.out Tryz.underlying161 rfl (by kernel_rfl) _ rfl) rfl ?_;exact⟨rfl,B.out⟩
theorem fn_dir {p:ByteArray}{fo:Bool}(h0:ldX L p fo=0) (h1:(ldN L p fo).K=1):fnX L p fo=11∧fnI L p fo=0∧fnN L p fo=zIn:=by
 have e:fnX L p fo=11:=by unfold fnX;rw [if_pos ⟨h0,h1⟩]
 refine⟨e,?_,?_⟩
 ·unfold fnI;rw [e,if_neg (by decide)]
 ·unfold fnN;rw [e,if_neg (by decide)]
theorem fn_no {p:ByteArray}{fo:Bool}(h:¬ (ldX L p fo=0∧(ldN L p fo).K=1)):fnX L p fo=ldX L p fo∧fnI L p fo=ldI L p fo∧fnN L p fo=ldN L p fo:=by
 have e:fnX L p fo=ldX L p fo:=by unfold fnX;rw [if_neg h]
 refine⟨e,?_,?_⟩
 ·unfold fnI;rw [e];split
  ·rfl
  ·unfold ldI;rw [if_neg (by assumption)]
 ·unfold fnN;rw [e];split
  ·rfl
  ·unfold ldN;rw [if_neg (by assumption)]
theorem eqK {k:Nat}(h:k=1):((k:Int)==1)=true∧((k:Int) != 1)=false:=by subst h;exact⟨rfl,rfl⟩
theorem neK {k:Nat}(h:k≠1):((k:Int)==1)=false∧((k:Int) != 1)=true:=by
 have:(k:Int)≠1:=by omega
 exact⟨by rw [beq_eq_false_iff_ne];exact this,by rw [bne_iff_ne];exact this⟩
theorem notDir_any (h:VA w A n c L) (p:ByteArray) (hp:p.size≤1048576) (fo:Bool):Calls Tryz.prog 94 #[vV A n c,.string p,.bool fo] w fun e w'=>e=.returned (.tuple #[vNd (fnN L p fo) (fnI L p fo),.int .i64 (fnX L p fo)])∧Below w.heap.size w w':=by
 by_cases h0:ldX L p fo=0
 ·by_cases h1:(ldN L p fo).K=1
  ·
   have HL:=hid (fun (w1:World) (hb:Below w.heap.size w w1)=>led_any (h.go hb) p hp fo);obtain⟨e1,e2,e3⟩:=fn_dir h0 h1;rw [e1,e2,e3];show Calls _ _ _ _ fun e w'=>e=.returned (.tuple #[.agg #[.int .u8 0,.int .u16 0,.int .u32 0,.int .u32 0,.string ⟨#[]⟩,.int .u32 0],.int .i64 11])∧_
   clear e1 e2 e3;generalize ldI L p fo=i at *;generalize ldN L p fo=m at *;generalize ldX L p fo=x at *;obtain⟨mK,mM,mL,mS,mT⟩:=m;try dsimp only at *
   clear h hp;subst h0;have e5:=eqK h1;clear h1;have HN:=hid (two_new w #[.slice A n c] #[.int .u8 0,.int .u16 0,.int .u32 0,.int .u32 0,.string ⟨#[]⟩,.int .u32 0] 84 161)
   go_enter Tryz.func94,Tryz.ntmps94
   go_wp2_with fail
   try generalize ((w.alloc (.cells #[.slice A n c] 84)).alloc (.cells #[.int .u8 0,.int .u16 0,.int .u32 0,.int .u32 0,.string ⟨#[]⟩,.int .u32 0] 161))=w0 at *
   have Rv:=hid HN.out.1;have Rz:=hid HN.out.2.1;have B:=hid HN.out.2.2.1;clear HN;have cv0:=cl1 Rv.out;obtain⟨cz0,cz1,cz2,cz3,cz4,cz5⟩:=cl6 Rz.out;refine (HL.out _ B.out).mono ?_;rintro e w1 ⟨rfl,hb⟩;clear cv0 cz0 cz1 cz2 cz3 cz4 cz5;replace Rv:=gg Rv hb;replace Rz:=gg Rz hb;replace B:=gb B hb;have cv0:=cl1 Rv.out;obtain⟨cz0,cz1,cz2,cz3,cz4,cz5⟩:=cl6 Rz.out;clear hb
   go_wp2_with (first|(refine new_row rfl 161 (.tmp 8) (.tmp 15) rfl rfl #[.int .u8 mK,.int .u16 mM,.int .u32 mL,.int .u32 mS,.string mT,.int .u32 i] rfl rfl (by kernel_rfl) rfl (row6 _ _ _ _ _ _) ?_;intro w2 M;have Dd_z:=hid Rz.out.lt;clear cv0 cz0 cz1 cz2 cz3 cz4 cz5;replace Rv:=gg Rv M.2.1;replace Rz:=gg Rz M.2.1;replace B:=gb B M.2.1;have Rd:=hid M.1;have cv0:=cl1 Rv.out;obtain⟨cz0,cz1,cz2,cz3,cz4,cz5⟩:=cl6 Rz.out;obtain⟨cd0,cd1,cd2,cd3,cd4,cd5⟩:=cl6 Rd.out;clear M)|(refine old_row rfl 161 (.tmp 6) (.tmp 25) rfl (w.heap.size+1) #[.int .u8 0,.int .u16 0,.int .u32 0,.int .u32 0,.string ⟨#[]⟩,.int .u32 0] rfl rfl Rz.out (by kernel_rfl) rfl (row6 _ _ _ _ _ _) ?_;intro w3 hw;clear cv0 cz0 cz1 cz2 cz3 cz4 cz5 cd0 cd1 cd2 cd3 cd4 cd5;replace B:=bx hw B (by omega);replace Rv:=kx hw Rv (by omega);replace Rd:=kx hw Rd (Nat.ne_of_gt Dd_z.out);replace Rz:=sx hw Rz;clear hw;have cv0:=cl1 Rv.out;obtain⟨cz0,cz1,cz2,cz3,cz4,cz5⟩:=cl6 Rz.out;obtain⟨cd0,cd1,cd2,cd3,cd4,cd5⟩:=cl6 Rd.out))
   refine bodyPost_ret (v:=.tuple #[.agg #[.int .u8 0,.int .u16 0,.int .u32 0,.int .u32 0,.string ⟨#[]⟩,.int .u32 0],.int .i64 11]) (results_row2 rfl _ _ (w.heap.size+1) 161 #[.int .u8 0,.int .u16 0,.int .u32 0,.int .u32 0,.string ⟨#[]⟩,.int .u32 0] (0,0) _ rfl Rz.out Tryz.underlying161 rfl (by kernel_rfl) _ rfl) rfl ?_;exact⟨rfl,B.out⟩
  ·
   have HL:=hid (fun (w1:World) (hb:Below w.heap.size w w1)=>led_any (h.go hb) p hp fo);obtain⟨e1,e2,e3⟩:=fn_no (L:=L) (p:=p) (fo:=fo) (fun h2=>h1 h2.2);rw [e1,e2,e3];clear e1 e2 e3;generalize ldI L p fo=i at *;generalize ldN L p fo=m at *;generalize ldX L p fo=x at *;obtain⟨mK,mM,mL,mS,mT⟩:=m;try dsimp only at *
   clear h hp;subst h0;have e5:=neK h1;clear h1;have HN:=hid (two_new w #[.slice A n c] #[.int .u8 0,.int .u16 0,.int .u32 0,.int .u32 0,.string ⟨#[]⟩,.int .u32 0] 84 161)
   go_enter Tryz.func94,Tryz.ntmps94
   go_wp2_with fail
   try generalize ((w.alloc (.cells #[.slice A n c] 84)).alloc (.cells #[.int .u8 0,.int .u16 0,.int .u32 0,.int .u32 0,.string ⟨#[]⟩,.int .u32 0] 161))=w0 at *
   have Rv:=hid HN.out.1;have Rz:=hid HN.out.2.1;have B:=hid HN.out.2.2.1;clear HN;have cv0:=cl1 Rv.out;obtain⟨cz0,cz1,cz2,cz3,cz4,cz5⟩:=cl6 Rz.out;refine (HL.out _ B.out).mono ?_;rintro e w1 ⟨rfl,hb⟩;clear cv0 cz0 cz1 cz2 cz3 cz4 cz5;replace Rv:=gg Rv hb;replace Rz:=gg Rz hb;replace B:=gb B hb;have cv0:=cl1 Rv.out;obtain⟨cz0,cz1,cz2,cz3,cz4,cz5⟩:=cl6 Rz.out;clear hb
   go_wp2_with (first|(refine new_row rfl 161 (.tmp 8) (.tmp 15) rfl rfl #[.int .u8 mK,.int .u16 mM,.int .u32 mL,.int .u32 mS,.string mT,.int .u32 i] rfl rfl (by kernel_rfl) rfl (row6 _ _ _ _ _ _) ?_;intro w2 M;have Dd_z:=hid Rz.out.lt;clear cv0 cz0 cz1 cz2 cz3 cz4 cz5;replace Rv:=gg Rv M.2.1;replace Rz:=gg Rz M.2.1;replace B:=gb B M.2.1;have Rd:=hid M.1;have cv0:=cl1 Rv.out;obtain⟨cz0,cz1,cz2,cz3,cz4,cz5⟩:=cl6 Rz.out;obtain⟨cd0,cd1,cd2,cd3,cd4,cd5⟩:=cl6 Rd.out;clear M)|(refine wpList_load_row rfl 161 (.tmp 26) rfl (w1.heap.size) rfl 161 #[.int .u8 mK,.int .u16 mM,.int .u32 mL,.int .u32 mS,.string mT,.int .u32 i] (0,0) _ Rd.out Tryz.underlying161 rfl (by kernel_rfl) ?_)|(refine old_row rfl 161 (.tmp 6) (.tmp 26) rfl (w.heap.size+1) #[.int .u8 mK,.int .u16 mM,.int .u32 mL,.int .u32 mS,.string mT,.int .u32 i] rfl rfl Rz.out (by kernel_rfl) rfl (row6 _ _ _ _ _ _) ?_;intro w3 hw;clear cv0 cz0 cz1 cz2 cz3 cz4 cz5 cd0 cd1 cd2 cd3 cd4 cd5;replace B:=bx hw B (by omega);replace Rv:=kx hw Rv (by omega);replace Rd:=kx hw Rd (Nat.ne_of_gt Dd_z.out);replace Rz:=sx hw Rz;clear hw;have cv0:=cl1 Rv.out;obtain⟨cz0,cz1,cz2,cz3,cz4,cz5⟩:=cl6 Rz.out;obtain⟨cd0,cd1,cd2,cd3,cd4,cd5⟩:=cl6 Rd.out))
   refine bodyPost_ret (v:=.tuple #[.agg #[.int .u8 mK,.int .u16 mM,.int .u32 mL,.int .u32 mS,.string mT,.int .u32 i],.int .i64 0]) (results_row2 rfl _ _ (w.heap.size+1) 161 #[.int .u8 mK,.int .u16 mM,.int .u32 mL,.int .u32 mS,.string mT,.int .u32 i] (0,0) _ rfl Rz.out Tryz.underlying161 rfl (by kernel_rfl) _ rfl) rfl ?_;exact⟨rfl,B.out⟩
 ·
  have HL:=hid (fun (w1:World) (hb:Below w.heap.size w w1)=>led_any (h.go hb) p hp fo);obtain⟨e1,e2,e3⟩:=fn_no (L:=L) (p:=p) (fo:=fo) (fun h2=>h0 h2.1);rw [e1,e2,e3];clear e1 e2 e3;generalize ldI L p fo=i at *;generalize ldN L p fo=m at *;generalize ldX L p fo=x at *;obtain⟨mK,mM,mL,mS,mT⟩:=m;try dsimp only at *
  clear h hp;have e5:=ne0 h0;clear h0;have HN:=hid (two_new w #[.slice A n c] #[.int .u8 0,.int .u16 0,.int .u32 0,.int .u32 0,.string ⟨#[]⟩,.int .u32 0] 84 161)
  go_enter Tryz.func94,Tryz.ntmps94
  go_wp2_with fail
  try generalize ((w.alloc (.cells #[.slice A n c] 84)).alloc (.cells #[.int .u8 0,.int .u16 0,.int .u32 0,.int .u32 0,.string ⟨#[]⟩,.int .u32 0] 161))=w0 at *
  have Rv:=hid HN.out.1;have Rz:=hid HN.out.2.1;have B:=hid HN.out.2.2.1;clear HN;have cv0:=cl1 Rv.out;obtain⟨cz0,cz1,cz2,cz3,cz4,cz5⟩:=cl6 Rz.out;refine (HL.out _ B.out).mono ?_;rintro e w1 ⟨rfl,hb⟩;clear cv0 cz0 cz1 cz2 cz3 cz4 cz5;replace Rv:=gg Rv hb;replace Rz:=gg Rz hb;replace B:=gb B hb;have cv0:=cl1 Rv.out;obtain⟨cz0,cz1,cz2,cz3,cz4,cz5⟩:=cl6 Rz.out;clear hb
  go_wp2_with (first|(refine new_row rfl 161 (.tmp 8) (.tmp 15) rfl rfl #[.int .u8 mK,.int .u16 mM,.int .u32 mL,.int .u32 mS,.string mT,.int .u32 i] rfl rfl (by kernel_rfl) rfl (row6 _ _ _ _ _ _) ?_;intro w2 M;have Dd_z:=hid Rz.out.lt;clear cv0 cz0 cz1 cz2 cz3 cz4 cz5;replace Rv:=gg Rv M.2.1;replace Rz:=gg Rz M.2.1;replace B:=gb B M.2.1;have Rd:=hid M.1;have cv0:=cl1 Rv.out;obtain⟨cz0,cz1,cz2,cz3,cz4,cz5⟩:=cl6 Rz.out;obtain⟨cd0,cd1,cd2,cd3,cd4,cd5⟩:=cl6 Rd.out;clear M)|(refine wpList_load_row rfl 161 (.tmp 26) rfl (w1.heap.size) rfl 161 #[.int .u8 mK,.int .u16 mM,.int .u32 mL,.int .u32 mS,.string mT,.int .u32 i] (0,0) _ Rd.out Tryz.underlying161 rfl (by kernel_rfl) ?_)|(refine old_row rfl 161 (.tmp 6) (.tmp 26) rfl (w.heap.size+1) #[.int .u8 mK,.int .u16 mM,.int .u32 mL,.int .u32 mS,.string mT,.int .u32 i] rfl rfl Rz.out (by kernel_rfl) rfl (row6 _ _ _ _ _ _) ?_;intro w3 hw;clear cv0 cz0 cz1 cz2 cz3 cz4 cz5 cd0 cd1 cd2 cd3 cd4 cd5;replace B:=bx hw B (by omega);replace Rv:=kx hw Rv (by omega);replace Rd:=kx hw Rd (Nat.ne_of_gt Dd_z.out);replace Rz:=sx hw Rz;clear hw;have cv0:=cl1 Rv.out;obtain⟨cz0,cz1,cz2,cz3,cz4,cz5⟩:=cl6 Rz.out;obtain⟨cd0,cd1,cd2,cd3,cd4,cd5⟩:=cl6 Rd.out))
  refine bodyPost_ret (v:=.tuple #[.agg #[.int .u8 mK,.int .u16 mM,.int .u32 mL,.int .u32 mS,.string mT,.int .u32 i],.int .i64 x]) (results_row2 rfl _ _ (w.heap.size+1) 161 #[.int .u8 mK,.int .u16 mM,.int .u32 mL,.int .u32 mS,.string mT,.int .u32 i] (0,0) _ rfl Rz.out Tryz.underlying161 rfl (by kernel_rfl) _ rfl) rfl ?_;exact⟨rfl,B.out⟩
theorem pl_no {p:ByteArray}(h:plX L p≠0):pl L p=zPl:=by unfold pl;rw [if_neg h]
theorem pl_yes {p:ByteArray}(h:plX L p=0):laX p=0∧(wlk L true (laD p)).2=0∧(nd L (wlk L true (laD p)).1).K=1∧pl L p=pl0 L p:=by
 have e:pl L p=pl0 L p:=by unfold pl;rw [if_pos h]
 unfold plX at h;split at h
 ·contradiction
 ·rename_i h1;split at h
  ·contradiction
  ·rename_i h2;split at h
   ·contradiction
   ·rename_i h3;exact⟨Decidable.not_not.1 h1,Decidable.not_not.1 h2,Decidable.not_not.1 h3,e⟩
theorem pl_lt (h:rgt L=true) (p:ByteArray):(pl L p).d<4294967296∧(pl L p).i<4294967296:=by
 by_cases h0:plX L p=0
 ·obtain⟨_,h2,_,e⟩:=pl_yes h0;rw [e];exact⟨wlk_lt h h2,enn_lt _ _⟩
 ·rw [pl_no h0];exact⟨by decide,by decide⟩
theorem place_any (h:VA w A n c L) (p:ByteArray) (hp:p.size≤1048576):Calls Tryz.prog 107 #[vV A n c,.string p] w fun e w'=>e=.returned (.tuple #[vPl (pl L p),.int .i64 (plX L p)])∧Below w.heap.size w w':=by
 by_cases h0:laX p=0
 ·by_cases h1:(wlk L true (laD p)).2=0
  ·by_cases h2:(nd L (wlk L true (laD p)).1).K=1
   ·
    have HV:=hid h;have HS:=hid (fun w=>lastN p (by unfold maxLen;omega) _ _ _ rfl rfl rfl w);have HW:=hid (fun (w1:World) (hb:Below w.heap.size w w1) (A':Option Addr) (n' c':Nat) (hN:NmA w1 A' n' c' (laD p))=>walked_any (h.go hb) hN true);have HSL:=hid (laD_len p);have HSS:=hid (fun x hx=>@spB_sizes p x (laD_sub p x hx));have f1:wdI L true (laD p)=(wlk L true (laD p)).1:=by unfold wdI;rw [if_pos h1]
    have f2:wdN L true (laD p)=nd L (wlk L true (laD p)).1:=by unfold wdN;rw [if_pos h1,f1]
    have hlt:=wlk_lt h.rg h1;rw [f1,f2,h1] at HW;rw [h0] at HS;have e1:plX L p=0:=by unfold plX;rw [if_neg (fun h=>h h0),if_neg (fun h=>h h1),if_neg (fun h=>h h2)]
    have e2:pl L p=pl0 L p:=by unfold pl;rw [if_pos e1]
    have e3:=eqK h2;rw [e1,e2];unfold pl0 kE;have HK:=hid (fun w=>key_in ⟨2,(wlk L true (laD p)).1,laN p,0⟩ ⟨show (2:Nat)<256 by decide,hlt,show (0:Nat)<4294967296 by decide⟩ w);have HE:=hid (fun (w1:World) (hb:Below w.heap.size w w1)=>entry_any (h.go hb) (enK ⟨2,(wlk L true (laD p)).1,laN p,0⟩));unfold vK at HK;try dsimp only at HK ⊢
    generalize enn L (enK ⟨2,(wlk L true (laD p)).1,laN p,0⟩)=j at *;generalize enK ⟨2,(wlk L true (laD p)).1,laN p,0⟩=k at *;generalize chK ⟨2,(wlk L true (laD p)).1,laN p,0⟩=y at *;generalize nd L (wlk L true (laD p)).1=m at *;generalize (wlk L true (laD p)).1=i at *;generalize laD p=D at *;generalize laN p=s at *;obtain⟨mK,mM,mL,mS,mT⟩:=m;try dsimp only at HW e3
    clear h hp e1 e2 h0 h1 h2 f1 f2 hlt;have HN:=hid (two_new w #[.slice A n c] #[.int .u32 0,.string ⟨#[]⟩,.int .u32 0] 84 170)
    go_enter Tryz.func107,Tryz.ntmps107
    go_wp2_with fail
    try generalize ((w.alloc (.cells #[.slice A n c] 84)).alloc (.cells #[.int .u32 0,.string ⟨#[]⟩,.int .u32 0] 170))=w0 at *
    have Rv:=hid HN.out.1;have Rz:=hid HN.out.2.1;have B:=hid HN.out.2.2.1;clear HN;have cv0:=cl1 Rv.out;obtain⟨cz0,cz1,cz2⟩:=cl3 Rz.out;refine (HS.out _).mono ?_;rintro e w1 ⟨A',n',c',rfl,hNm,hb⟩;have HNM:=hid hNm;clear cv0 cz0 cz1 cz2;replace Rv:=gg Rv hb;replace Rz:=gg Rz hb;replace B:=gb B hb;clear hNm;have cv0:=cl1 Rv.out;obtain⟨cz0,cz1,cz2⟩:=cl3 Rz.out;clear hb
    go_wp2_with (first|(refine wpList_load_row rfl 84 (.tmp 23) rfl (w.heap.size) rfl 84 #[.slice A n c] (0,0) _ Rv.out Tryz.underlying84 rfl (by kernel_rfl) ?_)|(go_at_call 136;refine (HW.out _ B.out A' n' c' (nm_go HNM.out HSL.out HSS.out)).mono ?_;rintro e w2 ⟨rfl,hb⟩;clear cv0 cz0 cz1 cz2;replace Rv:=gg Rv hb;replace Rz:=gg Rz hb;replace B:=gb B hb;have cv0:=cl1 Rv.out;obtain⟨cz0,cz1,cz2⟩:=cl3 Rz.out;clear hb)|(refine new_row rfl 161 (.tmp 9) (.tmp 26) rfl rfl #[.int .u8 mK,.int .u16 mM,.int .u32 mL,.int .u32 mS,.string mT,.int .u32 i] rfl rfl (by kernel_rfl) rfl (row6 _ _ _ _ _ _) ?_;intro w3 M;have Dd_z:=hid Rz.out.lt;clear cv0 cz0 cz1 cz2;replace Rv:=gg Rv M.2.1;replace Rz:=gg Rz M.2.1;replace B:=gb B M.2.1;have Rd:=hid M.1;have cv0:=cl1 Rv.out;obtain⟨cz0,cz1,cz2⟩:=cl3 Rz.out;obtain⟨cd0,cd1,cd2,cd3,cd4,cd5⟩:=cl6 Rd.out;clear M)|(go_at_call 30;refine (HK.out _).mono ?_;rintro e w4 ⟨rfl,hb⟩;clear cv0 cz0 cz1 cz2 cd0 cd1 cd2 cd3 cd4 cd5;replace Rv:=gg Rv hb;replace Rz:=gg Rz hb;replace Rd:=gg Rd hb;replace B:=gb B hb;have cv0:=cl1 Rv.out;obtain⟨cz0,cz1,cz2⟩:=cl3 Rz.out;obtain⟨cd0,cd1,cd2,cd3,cd4,cd5⟩:=cl6 Rd.out;clear hb))
    refine wp_region_S (fun w'=>Below w4.heap.size w4 w') 6 (by kernel_rfl) (by kernel_rfl) (by kernel_rfl) ((Below.refl _ _).drew) ?_;simp only [List.take_succ_cons,List.take_zero];refine wpG_val (.pointer (some ⟨w2.heap.size,5,none⟩)) rfl (by rfl) (fun w' hSw=>by go_simp) ?_;simp only [Gw1ighta,Gw1ightb,Gw1ightc];refine wpG_val (.int .u32 i) rfl (by rfl) (fun w' hSw=>by have c:=(Rd.out.go hSw).cell 5 _ rfl;go_simp) ?_;simp only [Gw1ighta,Gw1ightb,Gw1ightc];refine wpG_val (.string k) rfl (by rfl) (fun w' hSw=>by go_simp) ?_;simp only [Gw1ighta,Gw1ightb,Gw1ightc];refine wpG_val (.agg #[.slice A n c]) rfl (by rfl) (fun w' hSw=>load_all 84 (.tmp 2) rfl (w.heap.size) rfl (Rv.out.go hSw) Tryz.underlying84 rfl (by kernel_rfl)) ?_;simp only [Gw1ighta,Gw1ightb,Gw1ightc];refine wpG_val (.string k) rfl (by rfl) (fun w' hSw=>by go_simp) ?_;simp only [Gw1ighta,Gw1ightb,Gw1ightc];refine wpG_call (.int .u32 j) 142 #[.agg #[.slice A n c],.string k] rfl (by rfl) (fun w'=>by go_simp) (fun w' hSw=>(HE.out w' (B.out.trans (hSw.mono B.out.size))).mono fun e w2 h=>⟨h.1,hSw.trans (h.2.mono hSw.size)⟩) ?_;simp only [Gw1ighta,Gw1ightb,Gw1ightc];refine wpG_nil ?_;intro w5 hb;simp only [List.drop_succ_cons,List.drop_zero];clear cv0 cz0 cz1 cz2 cd0 cd1 cd2 cd3 cd4 cd5;replace Rv:=gg Rv hb;replace Rz:=gg Rz hb;replace Rd:=gg Rd hb;replace B:=gb B hb;have cv0:=cl1 Rv.out;obtain⟨cz0,cz1,cz2⟩:=cl3 Rz.out;obtain⟨cd0,cd1,cd2,cd3,cd4,cd5⟩:=cl6 Rd.out;clear hb
    go_wp2_with (first|(refine old_row rfl 170 (.tmp 4) (.tmp 51) rfl (w.heap.size+1) #[.int .u32 i,.string k,.int .u32 j] rfl rfl Rz.out (by kernel_rfl) rfl (row3 _ _ _) ?_;intro w6 hw;clear cv0 cz0 cz1 cz2 cd0 cd1 cd2 cd3 cd4 cd5;replace B:=bx hw B (by omega);replace Rv:=kx hw Rv (by omega);replace Rd:=kx hw Rd (Nat.ne_of_gt Dd_z.out);replace Rz:=sx hw Rz;clear hw;have cv0:=cl1 Rv.out;obtain⟨cz0,cz1,cz2⟩:=cl3 Rz.out;obtain⟨cd0,cd1,cd2,cd3,cd4,cd5⟩:=cl6 Rd.out))
    refine bodyPost_ret (v:=.tuple #[.agg #[.int .u32 i,.string k,.int .u32 j],.int .i64 0]) (results_row2 rfl _ _ (w.heap.size+1) 170 #[.int .u32 i,.string k,.int .u32 j] (0,0) _ rfl Rz.out Tryz.underlying170 rfl (by kernel_rfl) _ rfl) rfl ?_;exact⟨rfl,B.out⟩
   ·
    have HV:=hid h;have HS:=hid (fun w=>lastN p (by unfold maxLen;omega) _ _ _ rfl rfl rfl w);have HW:=hid (fun (w1:World) (hb:Below w.heap.size w w1) (A':Option Addr) (n' c':Nat) (hN:NmA w1 A' n' c' (laD p))=>walked_any (h.go hb) hN true);have HSL:=hid (laD_len p);have HSS:=hid (fun x hx=>@spB_sizes p x (laD_sub p x hx));have f1:wdI L true (laD p)=(wlk L true (laD p)).1:=by unfold wdI;rw [if_pos h1]
    have f2:wdN L true (laD p)=nd L (wlk L true (laD p)).1:=by unfold wdN;rw [if_pos h1,f1]
    have hlt:=wlk_lt h.rg h1;rw [f1,f2,h1] at HW;rw [h0] at HS;have e1:plX L p=12:=by unfold plX;rw [if_neg (fun h=>h h0),if_neg (fun h=>h h1),if_pos h2]
    have e2:pl L p=zPl:=pl_no (by rw [e1];decide);have e3:=neK h2;rw [e1,e2];generalize nd L (wlk L true (laD p)).1=m at *;generalize (wlk L true (laD p)).1=i at *;generalize laD p=D at *;generalize laN p=s at *;obtain⟨mK,mM,mL,mS,mT⟩:=m;try dsimp only at HW e3
    show Calls _ _ _ _ fun e w'=>e=.returned (.tuple #[.agg #[.int .u32 0,.string ⟨#[]⟩,.int .u32 0],.int .i64 12])∧_
    clear h hp e1 e2 h0 h1 h2 f1 f2 hlt;have HN:=hid (two_new w #[.slice A n c] #[.int .u32 0,.string ⟨#[]⟩,.int .u32 0] 84 170)
    go_enter Tryz.func107,Tryz.ntmps107
    go_wp2_with fail
    try generalize ((w.alloc (.cells #[.slice A n c] 84)).alloc (.cells #[.int .u32 0,.string ⟨#[]⟩,.int .u32 0] 170))=w0 at *
    have Rv:=hid HN.out.1;have Rz:=hid HN.out.2.1;have B:=hid HN.out.2.2.1;clear HN;have cv0:=cl1 Rv.out;obtain⟨cz0,cz1,cz2⟩:=cl3 Rz.out;refine (HS.out _).mono ?_;rintro e w1 ⟨A',n',c',rfl,hNm,hb⟩;have HNM:=hid hNm;clear cv0 cz0 cz1 cz2;replace Rv:=gg Rv hb;replace Rz:=gg Rz hb;replace B:=gb B hb;clear hNm;have cv0:=cl1 Rv.out;obtain⟨cz0,cz1,cz2⟩:=cl3 Rz.out;clear hb
    go_wp2_with (first|(refine wpList_load_row rfl 84 (.tmp 23) rfl (w.heap.size) rfl 84 #[.slice A n c] (0,0) _ Rv.out Tryz.underlying84 rfl (by kernel_rfl) ?_)|(go_at_call 136;refine (HW.out _ B.out A' n' c' (nm_go HNM.out HSL.out HSS.out)).mono ?_;rintro e w2 ⟨rfl,hb⟩;clear cv0 cz0 cz1 cz2;replace Rv:=gg Rv hb;replace Rz:=gg Rz hb;replace B:=gb B hb;have cv0:=cl1 Rv.out;obtain⟨cz0,cz1,cz2⟩:=cl3 Rz.out;clear hb)|(refine new_row rfl 161 (.tmp 9) (.tmp 26) rfl rfl #[.int .u8 mK,.int .u16 mM,.int .u32 mL,.int .u32 mS,.string mT,.int .u32 i] rfl rfl (by kernel_rfl) rfl (row6 _ _ _ _ _ _) ?_;intro w3 M;have Dd_z:=hid Rz.out.lt;clear cv0 cz0 cz1 cz2;replace Rv:=gg Rv M.2.1;replace Rz:=gg Rz M.2.1;replace B:=gb B M.2.1;have Rd:=hid M.1;have cv0:=cl1 Rv.out;obtain⟨cz0,cz1,cz2⟩:=cl3 Rz.out;obtain⟨cd0,cd1,cd2,cd3,cd4,cd5⟩:=cl6 Rd.out;clear M)|(refine old_row rfl 170 (.tmp 4) (.tmp 36) rfl (w.heap.size+1) #[.int .u32 0,.string ⟨#[]⟩,.int .u32 0] rfl rfl Rz.out (by kernel_rfl) rfl (row3 _ _ _) ?_;intro w4 hw;clear cv0 cz0 cz1 cz2 cd0 cd1 cd2 cd3 cd4 cd5;replace B:=bx hw B (by omega);replace Rv:=kx hw Rv (by omega);replace Rd:=kx hw Rd (Nat.ne_of_gt Dd_z.out);replace Rz:=sx hw Rz;clear hw;have cv0:=cl1 Rv.out;obtain⟨cz0,cz1,cz2⟩:=cl3 Rz.out;obtain⟨cd0,cd1,cd2,cd3,cd4,cd5⟩:=cl6 Rd.out))
    refine bodyPost_ret (v:=.tuple #[.agg #[.int .u32 0,.string ⟨#[]⟩,.int .u32 0],.int .i64 12]) (results_row2 rfl _ _ (w.heap.size+1) 170 #[.int .u32 0,.string ⟨#[]⟩,.int .u32 0] (0,0) _ rfl Rz.out Tryz.underlying170 rfl (by kernel_rfl) _ rfl) rfl ?_;exact⟨rfl,B.out⟩
  ·
   have HV:=hid h;have HS:=hid (fun w=>lastN p (by unfold maxLen;omega) _ _ _ rfl rfl rfl w);have HW:=hid (fun (w1:World) (hb:Below w.heap.size w w1) (A':Option Addr) (n' c':Nat) (hN:NmA w1 A' n' c' (laD p))=>walked_any (h.go hb) hN true);have HSL:=hid (laD_len p);have HSS:=hid (fun x hx=>@spB_sizes p x (laD_sub p x hx));have e1:plX L p=(wlk L true (laD p)).2:=by unfold plX;rw [if_neg (fun h=>h h0),if_pos h1]
   have e2:pl L p=zPl:=pl_no (by rw [e1];exact h1);have e3:=ne0 h1;rw [e1,e2];rw [h0] at HS;generalize wdI L true (laD p)=i at *;generalize wdN L true (laD p)=m at *;generalize (wlk L true (laD p)).2=x at *;generalize laD p=D at *;generalize laN p=s at *;obtain⟨mK,mM,mL,mS,mT⟩:=m;try dsimp only at HW
   show Calls _ _ _ _ fun e w'=>e=.returned (.tuple #[.agg #[.int .u32 0,.string ⟨#[]⟩,.int .u32 0],.int .i64 x])∧_
   clear h hp e1 e2 h0 h1;have HN:=hid (two_new w #[.slice A n c] #[.int .u32 0,.string ⟨#[]⟩,.int .u32 0] 84 170)
   go_enter Tryz.func107,Tryz.ntmps107
   go_wp2_with fail
   try generalize ((w.alloc (.cells #[.slice A n c] 84)).alloc (.cells #[.int .u32 0,.string ⟨#[]⟩,.int .u32 0] 170))=w0 at *
   have Rv:=hid HN.out.1;have Rz:=hid HN.out.2.1;have B:=hid HN.out.2.2.1;clear HN;have cv0:=cl1 Rv.out;obtain⟨cz0,cz1,cz2⟩:=cl3 Rz.out;refine (HS.out _).mono ?_;rintro e w1 ⟨A',n',c',rfl,hNm,hb⟩;have HNM:=hid hNm;clear cv0 cz0 cz1 cz2;replace Rv:=gg Rv hb;replace Rz:=gg Rz hb;replace B:=gb B hb;clear hNm;have cv0:=cl1 Rv.out;obtain⟨cz0,cz1,cz2⟩:=cl3 Rz.out;clear hb
   go_wp2_with (first|(refine wpList_load_row rfl 84 (.tmp 23) rfl (w.heap.size) rfl 84 #[.slice A n c] (0,0) _ Rv.out Tryz.underlying84 rfl (by kernel_rfl) ?_)|(go_at_call 136;refine (HW.out _ B.out A' n' c' (nm_go HNM.out HSL.out HSS.out)).mono ?_;rintro e w2 ⟨rfl,hb⟩;clear cv0 cz0 cz1 cz2;replace Rv:=gg Rv hb;replace Rz:=gg Rz hb;replace B:=gb B hb;have cv0:=cl1 Rv.out;obtain⟨cz0,cz1,cz2⟩:=cl3 Rz.out;clear hb)|(refine new_row rfl 161 (.tmp 9) (.tmp 26) rfl rfl #[.int .u8 mK,.int .u16 mM,.int .u32 mL,.int .u32 mS,.string mT,.int .u32 i] rfl rfl (by kernel_rfl) rfl (row6 _ _ _ _ _ _) ?_;intro w3 M;have Dd_z:=hid Rz.out.lt;clear cv0 cz0 cz1 cz2;replace Rv:=gg Rv M.2.1;replace Rz:=gg Rz M.2.1;replace B:=gb B M.2.1;have Rd:=hid M.1;have cv0:=cl1 Rv.out;obtain⟨cz0,cz1,cz2⟩:=cl3 Rz.out;obtain⟨cd0,cd1,cd2,cd3,cd4,cd5⟩:=cl6 Rd.out;clear M)|(refine old_row rfl 170 (.tmp 4) (.tmp 30) rfl (w.heap.size+1) #[.int .u32 0,.string ⟨#[]⟩,.int .u32 0] rfl rfl Rz.out (by kernel_rfl) rfl (row3 _ _ _) ?_;intro w4 hw;clear cv0 cz0 cz1 cz2 cd0 cd1 cd2 cd3 cd4 cd5;replace B:=bx hw B (by omega);replace Rv:=kx hw Rv (by omega);replace Rd:=kx hw Rd (Nat.ne_of_gt Dd_z.out);replace Rz:=sx hw Rz;clear hw;have cv0:=cl1 Rv.out;obtain⟨cz0,cz1,cz2⟩:=cl3 Rz.out;obtain⟨cd0,cd1,cd2,cd3,cd4,cd5⟩:=cl6 Rd.out))
   refine bodyPost_ret (v:=.tuple #[.agg #[.int .u32 0,.string ⟨#[]⟩,.int .u32 0],.int .i64 x]) (results_row2 rfl _ _ (w.heap.size+1) 170 #[.int .u32 0,.string ⟨#[]⟩,.int .u32 0] (0,0) _ rfl Rz.out Tryz.underlying170 rfl (by kernel_rfl) _ rfl) rfl ?_;exact⟨rfl,B.out⟩
 ·
  have HV:=hid h;have HS:=hid (fun w=>lastN p (by unfold maxLen;omega) _ _ _ rfl rfl rfl w);have e1:plX L p=laX p:=by unfold plX;rw [if_pos h0]
  have e2:pl L p=zPl:=pl_no (by rw [e1];exact h0);have e3:=ne0 h0;rw [e1,e2];generalize laD p=D at *;generalize laN p=s at *;generalize laX p=x at *;show Calls _ _ _ _ fun e w'=>e=.returned (.tuple #[.agg #[.int .u32 0,.string ⟨#[]⟩,.int .u32 0],.int .i64 x])∧_
  clear h hp e1 e2 h0;have HN:=hid (two_new w #[.slice A n c] #[.int .u32 0,.string ⟨#[]⟩,.int .u32 0] 84 170)
  go_enter Tryz.func107,Tryz.ntmps107
  go_wp2_with fail
  try generalize ((w.alloc (.cells #[.slice A n c] 84)).alloc (.cells #[.int .u32 0,.string ⟨#[]⟩,.int .u32 0] 170))=w0 at *
  have Rv:=hid HN.out.1;have Rz:=hid HN.out.2.1;have B:=hid HN.out.2.2.1;clear HN;have cv0:=cl1 Rv.out;obtain⟨cz0,cz1,cz2⟩:=cl3 Rz.out;refine (HS.out _).mono ?_;rintro e w1 ⟨A',n',c',rfl,hNm,hb⟩;have HNM:=hid hNm;clear cv0 cz0 cz1 cz2;replace Rv:=gg Rv hb;replace Rz:=gg Rz hb;replace B:=gb B hb;clear hNm;have cv0:=cl1 Rv.out;obtain⟨cz0,cz1,cz2⟩:=cl3 Rz.out;clear hb
  go_wp2_with (first|(refine old_row rfl 170 (.tmp 4) (.tmp 20) rfl (w.heap.size+1) #[.int .u32 0,.string ⟨#[]⟩,.int .u32 0] rfl rfl Rz.out (by kernel_rfl) rfl (row3 _ _ _) ?_;intro w2 hw;clear cv0 cz0 cz1 cz2;replace B:=bx hw B (by omega);replace Rv:=kx hw Rv (by omega);replace Rz:=sx hw Rz;clear hw;have cv0:=cl1 Rv.out;obtain⟨cz0,cz1,cz2⟩:=cl3 Rz.out))
  refine bodyPost_ret (v:=.tuple #[.agg #[.int .u32 0,.string ⟨#[]⟩,.int .u32 0],.int .i64 x]) (results_row2 rfl _ _ (w.heap.size+1) 170 #[.int .u32 0,.string ⟨#[]⟩,.int .u32 0] (0,0) _ rfl Rz.out Tryz.underlying170 rfl (by kernel_rfl) _ rfl) rfl ?_;exact⟨rfl,B.out⟩
theorem eqZ {k:Nat}(h:k=0):((k:Int)==0)=true∧((k:Int) != 0)=false:=by subst h;exact⟨rfl,rfl⟩
theorem neZ {k:Nat}(h:k≠0):((k:Int)==0)=false∧((k:Int) != 0)=true:=by
 have:(k:Int)≠0:=by omega
 exact⟨by rw [beq_eq_false_iff_ne];exact this,by rw [bne_iff_ne];exact this⟩
theorem nm_err {p:ByteArray}(h0:plX L p=0) (h1:(pl L p).i=0):nmX L p=5∧nm L p=zPl:=by
 have e:nmX L p=5:=by unfold nmX;rw [if_pos ⟨h0,h1⟩]
 exact⟨e,by unfold nm;rw [e,if_neg (by decide)]⟩
theorem nm_no {p:ByteArray}(h:¬ (plX L p=0∧(pl L p).i=0)):nmX L p=plX L p∧nm L p=pl L p:=by
 have e:nmX L p=plX L p:=by unfold nmX;rw [if_neg h]
 refine⟨e,?_⟩;unfold nm;rw [e];split
 ·rfl
 ·rw [pl_no (by assumption)]
theorem fr_err {p:ByteArray}(h0:plX L p=0) (h1:(pl L p).i≠0):frX L p=6∧fr L p=zPl:=by
 have e:frX L p=6:=by unfold frX;rw [if_pos ⟨h0,h1⟩]
 exact⟨e,by unfold fr;rw [e,if_neg (by decide)]⟩
theorem fr_no {p:ByteArray}(h:¬ (plX L p=0∧(pl L p).i≠0)):frX L p=plX L p∧fr L p=pl L p:=by
 have e:frX L p=plX L p:=by unfold frX;rw [if_neg h]
 refine⟨e,?_⟩;unfold fr;rw [e];split
 ·rfl
 ·rw [pl_no (by assumption)]
theorem named_any (h:VA w A n c L) (p:ByteArray) (hp:p.size≤1048576):Calls Tryz.prog 106 #[vV A n c,.string p] w fun e w'=>e=.returned (.tuple #[vPl (nm L p),.int .i64 (nmX L p)])∧Below w.heap.size w w':=by
 by_cases h0:plX L p=0
 ·by_cases h1:(pl L p).i=0
  ·
   have HL:=hid (fun (w1:World) (hb:Below w.heap.size w w1)=>place_any (h.go hb) p hp);obtain⟨e1,e2⟩:=nm_err h0 h1;rw [e1,e2];show Calls _ _ _ _ fun e w'=>e=.returned (.tuple #[.agg #[.int .u32 0,.string ⟨#[]⟩,.int .u32 0],.int .i64 5])∧_
   clear e1 e2;generalize pl L p=q at *;generalize plX L p=x at *;obtain⟨qd,qk,qi⟩:=q;try dsimp only at *
   clear h hp;subst h0;have e5:=eqZ h1;clear h1;have HN:=hid (two_new w #[.slice A n c] #[.int .u32 0,.string ⟨#[]⟩,.int .u32 0] 84 170)
   go_enter Tryz.func106,Tryz.ntmps106
   go_wp2_with fail
   try generalize ((w.alloc (.cells #[.slice A n c] 84)).alloc (.cells #[.int .u32 0,.string ⟨#[]⟩,.int .u32 0] 170))=w0 at *
   have Rv:=hid HN.out.1;have Rz:=hid HN.out.2.1;have B:=hid HN.out.2.2.1;clear HN;have cv0:=cl1 Rv.out;obtain⟨cz0,cz1,cz2⟩:=cl3 Rz.out;refine (HL.out _ B.out).mono ?_;rintro e w1 ⟨rfl,hb⟩;clear cv0 cz0 cz1 cz2;replace Rv:=gg Rv hb;replace Rz:=gg Rz hb;replace B:=gb B hb;have cv0:=cl1 Rv.out;obtain⟨cz0,cz1,cz2⟩:=cl3 Rz.out;clear hb
   go_wp2_with (first|(refine new_row rfl 170 (.tmp 6) (.tmp 12) rfl rfl #[.int .u32 qd,.string qk,.int .u32 qi] rfl rfl (by kernel_rfl) rfl (row3 _ _ _) ?_;intro w2 M;have Dq_z:=hid Rz.out.lt;clear cv0 cz0 cz1 cz2;replace Rv:=gg Rv M.2.1;replace Rz:=gg Rz M.2.1;replace B:=gb B M.2.1;have Rq:=hid M.1;have cv0:=cl1 Rv.out;obtain⟨cz0,cz1,cz2⟩:=cl3 Rz.out;obtain⟨cq0,cq1,cq2⟩:=cl3 Rq.out;clear M)|(refine old_row rfl 170 (.tmp 4) (.tmp 21) rfl (w.heap.size+1) #[.int .u32 0,.string ⟨#[]⟩,.int .u32 0] rfl rfl Rz.out (by kernel_rfl) rfl (row3 _ _ _) ?_;intro w3 hw;clear cv0 cz0 cz1 cz2 cq0 cq1 cq2;replace B:=bx hw B (by omega);replace Rv:=kx hw Rv (by omega);replace Rq:=kx hw Rq (Nat.ne_of_gt Dq_z.out);replace Rz:=sx hw Rz;clear hw;have cv0:=cl1 Rv.out;obtain⟨cz0,cz1,cz2⟩:=cl3 Rz.out;obtain⟨cq0,cq1,cq2⟩:=cl3 Rq.out))
   refine bodyPost_ret (v:=.tuple #[.agg #[.int .u32 0,.string ⟨#[]⟩,.int .u32 0],.int .i64 5]) (results_row2 rfl _ _ (w.heap.size+1) 170 #[.int .u32 0,.string ⟨#[]⟩,.int .u32 0] (0,0) _ rfl Rz.out Tryz.underlying170 rfl (by kernel_rfl) _ rfl) rfl ?_;exact⟨rfl,B.out⟩
  ·
   have HL:=hid (fun (w1:World) (hb:Below w.heap.size w w1)=>place_any (h.go hb) p hp);obtain⟨e1,e2⟩:=nm_no (L:=L) (p:=p) (fun h2=>h1 h2.2);rw [e1,e2];clear e1 e2;generalize pl L p=q at *;generalize plX L p=x at *;obtain⟨qd,qk,qi⟩:=q;try dsimp only at *
   clear h hp;subst h0;have e5:=neZ h1;clear h1;have HN:=hid (two_new w #[.slice A n c] #[.int .u32 0,.string ⟨#[]⟩,.int .u32 0] 84 170)
   go_enter Tryz.func106,Tryz.ntmps106
   go_wp2_with fail
   try generalize ((w.alloc (.cells #[.slice A n c] 84)).alloc (.cells #[.int .u32 0,.string ⟨#[]⟩,.int .u32 0] 170))=w0 at *
   have Rv:=hid HN.out.1;have Rz:=hid HN.out.2.1;have B:=hid HN.out.2.2.1;clear HN;have cv0:=cl1 Rv.out;obtain⟨cz0,cz1,cz2⟩:=cl3 Rz.out;refine (HL.out _ B.out).mono ?_;rintro e w1 ⟨rfl,hb⟩;clear cv0 cz0 cz1 cz2;replace Rv:=gg Rv hb;replace Rz:=gg Rz hb;replace B:=gb B hb;have cv0:=cl1 Rv.out;obtain⟨cz0,cz1,cz2⟩:=cl3 Rz.out;clear hb
   go_wp2_with (first|(refine new_row rfl 170 (.tmp 6) (.tmp 12) rfl rfl #[.int .u32 qd,.string qk,.int .u32 qi] rfl rfl (by kernel_rfl) rfl (row3 _ _ _) ?_;intro w2 M;have Dq_z:=hid Rz.out.lt;clear cv0 cz0 cz1 cz2;replace Rv:=gg Rv M.2.1;replace Rz:=gg Rz M.2.1;replace B:=gb B M.2.1;have Rq:=hid M.1;have cv0:=cl1 Rv.out;obtain⟨cz0,cz1,cz2⟩:=cl3 Rz.out;obtain⟨cq0,cq1,cq2⟩:=cl3 Rq.out;clear M)|(refine wpList_load_row rfl 170 (.tmp 22) rfl (w1.heap.size) rfl 170 #[.int .u32 qd,.string qk,.int .u32 qi] (0,0) _ Rq.out Tryz.underlying170 rfl (by kernel_rfl) ?_)|(refine old_row rfl 170 (.tmp 4) (.tmp 22) rfl (w.heap.size+1) #[.int .u32 qd,.string qk,.int .u32 qi] rfl rfl Rz.out (by kernel_rfl) rfl (row3 _ _ _) ?_;intro w3 hw;clear cv0 cz0 cz1 cz2 cq0 cq1 cq2;replace B:=bx hw B (by omega);replace Rv:=kx hw Rv (by omega);replace Rq:=kx hw Rq (Nat.ne_of_gt Dq_z.out);replace Rz:=sx hw Rz;clear hw;have cv0:=cl1 Rv.out;obtain⟨cz0,cz1,cz2⟩:=cl3 Rz.out;obtain⟨cq0,cq1,cq2⟩:=cl3 Rq.out))
   refine bodyPost_ret (v:=.tuple #[.agg #[.int .u32 qd,.string qk,.int .u32 qi],.int .i64 0]) (results_row2 rfl _ _ (w.heap.size+1) 170 #[.int .u32 qd,.string qk,.int .u32 qi] (0,0) _ rfl Rz.out Tryz.underlying170 rfl (by kernel_rfl) _ rfl) rfl ?_;exact⟨rfl,B.out⟩
 ·
  have HL:=hid (fun (w1:World) (hb:Below w.heap.size w w1)=>place_any (h.go hb) p hp);obtain⟨e1,e2⟩:=nm_no (L:=L) (p:=p) (fun h2=>h0 h2.1);rw [e1,e2];clear e1 e2;generalize pl L p=q at *;generalize plX L p=x at *;obtain⟨qd,qk,qi⟩:=q;try dsimp only at *
  clear h hp;have e5:=ne0 h0;clear h0;have HN:=hid (two_new w #[.slice A n c] #[.int .u32 0,.string ⟨#[]⟩,.int .u32 0] 84 170)
  go_enter Tryz.func106,Tryz.ntmps106
  go_wp2_with fail
  try generalize ((w.alloc (.cells #[.slice A n c] 84)).alloc (.cells #[.int .u32 0,.string ⟨#[]⟩,.int .u32 0] 170))=w0 at *
  have Rv:=hid HN.out.1;have Rz:=hid HN.out.2.1;have B:=hid HN.out.2.2.1;clear HN;have cv0:=cl1 Rv.out;obtain⟨cz0,cz1,cz2⟩:=cl3 Rz.out;refine (HL.out _ B.out).mono ?_;rintro e w1 ⟨rfl,hb⟩;clear cv0 cz0 cz1 cz2;replace Rv:=gg Rv hb;replace Rz:=gg Rz hb;replace B:=gb B hb;have cv0:=cl1 Rv.out;obtain⟨cz0,cz1,cz2⟩:=cl3 Rz.out;clear hb
  go_wp2_with (first|(refine new_row rfl 170 (.tmp 6) (.tmp 12) rfl rfl #[.int .u32 qd,.string qk,.int .u32 qi] rfl rfl (by kernel_rfl) rfl (row3 _ _ _) ?_;intro w2 M;have Dq_z:=hid Rz.out.lt;clear cv0 cz0 cz1 cz2;replace Rv:=gg Rv M.2.1;replace Rz:=gg Rz M.2.1;replace B:=gb B M.2.1;have Rq:=hid M.1;have cv0:=cl1 Rv.out;obtain⟨cz0,cz1,cz2⟩:=cl3 Rz.out;obtain⟨cq0,cq1,cq2⟩:=cl3 Rq.out;clear M)|(refine wpList_load_row rfl 170 (.tmp 22) rfl (w1.heap.size) rfl 170 #[.int .u32 qd,.string qk,.int .u32 qi] (0,0) _ Rq.out Tryz.underlying170 rfl (by kernel_rfl) ?_)|(refine old_row rfl 170 (.tmp 4) (.tmp 22) rfl (w.heap.size+1) #[.int .u32 qd,.string qk,.int .u32 qi] rfl rfl Rz.out (by kernel_rfl) rfl (row3 _ _ _) ?_;intro w3 hw;clear cv0 cz0 cz1 cz2 cq0 cq1 cq2;replace B:=bx hw B (by omega);replace Rv:=kx hw Rv (by omega);replace Rq:=kx hw Rq (Nat.ne_of_gt Dq_z.out);replace Rz:=sx hw Rz;clear hw;have cv0:=cl1 Rv.out;obtain⟨cz0,cz1,cz2⟩:=cl3 Rz.out;obtain⟨cq0,cq1,cq2⟩:=cl3 Rq.out))
  refine bodyPost_ret (v:=.tuple #[.agg #[.int .u32 qd,.string qk,.int .u32 qi],.int .i64 x]) (results_row2 rfl _ _ (w.heap.size+1) 170 #[.int .u32 qd,.string qk,.int .u32 qi] (0,0) _ rfl Rz.out Tryz.underlying170 rfl (by kernel_rfl) _ rfl) rfl ?_;exact⟨rfl,B.out⟩
theorem free_any (h:VA w A n c L) (p:ByteArray) (hp:p.size≤1048576):Calls Tryz.prog 100 #[vV A n c,.string p] w fun e w'=>e=.returned (.tuple #[vPl (fr L p),.int .i64 (frX L p)])∧Below w.heap.size w w':=by
 by_cases h0:plX L p=0
 ·by_cases h1:(pl L p).i≠0
  ·
   have HL:=hid (fun (w1:World) (hb:Below w.heap.size w w1)=>place_any (h.go hb) p hp);obtain⟨e1,e2⟩:=fr_err h0 h1;rw [e1,e2];show Calls _ _ _ _ fun e w'=>e=.returned (.tuple #[.agg #[.int .u32 0,.string ⟨#[]⟩,.int .u32 0],.int .i64 6])∧_
   clear e1 e2;generalize pl L p=q at *;generalize plX L p=x at *;obtain⟨qd,qk,qi⟩:=q;try dsimp only at *
   clear h hp;subst h0;have e5:=neZ h1;clear h1;have HN:=hid (two_new w #[.slice A n c] #[.int .u32 0,.string ⟨#[]⟩,.int .u32 0] 84 170)
   go_enter Tryz.func100,Tryz.ntmps100
   go_wp2_with fail
   try generalize ((w.alloc (.cells #[.slice A n c] 84)).alloc (.cells #[.int .u32 0,.string ⟨#[]⟩,.int .u32 0] 170))=w0 at *
   have Rv:=hid HN.out.1;have Rz:=hid HN.out.2.1;have B:=hid HN.out.2.2.1;clear HN;have cv0:=cl1 Rv.out;obtain⟨cz0,cz1,cz2⟩:=cl3 Rz.out;refine (HL.out _ B.out).mono ?_;rintro e w1 ⟨rfl,hb⟩;clear cv0 cz0 cz1 cz2;replace Rv:=gg Rv hb;replace Rz:=gg Rz hb;replace B:=gb B hb;have cv0:=cl1 Rv.out;obtain⟨cz0,cz1,cz2⟩:=cl3 Rz.out;clear hb
   go_wp2_with (first|(refine new_row rfl 170 (.tmp 6) (.tmp 12) rfl rfl #[.int .u32 qd,.string qk,.int .u32 qi] rfl rfl (by kernel_rfl) rfl (row3 _ _ _) ?_;intro w2 M;have Dq_z:=hid Rz.out.lt;clear cv0 cz0 cz1 cz2;replace Rv:=gg Rv M.2.1;replace Rz:=gg Rz M.2.1;replace B:=gb B M.2.1;have Rq:=hid M.1;have cv0:=cl1 Rv.out;obtain⟨cz0,cz1,cz2⟩:=cl3 Rz.out;obtain⟨cq0,cq1,cq2⟩:=cl3 Rq.out;clear M)|(refine old_row rfl 170 (.tmp 4) (.tmp 21) rfl (w.heap.size+1) #[.int .u32 0,.string ⟨#[]⟩,.int .u32 0] rfl rfl Rz.out (by kernel_rfl) rfl (row3 _ _ _) ?_;intro w3 hw;clear cv0 cz0 cz1 cz2 cq0 cq1 cq2;replace B:=bx hw B (by omega);replace Rv:=kx hw Rv (by omega);replace Rq:=kx hw Rq (Nat.ne_of_gt Dq_z.out);replace Rz:=sx hw Rz;clear hw;have cv0:=cl1 Rv.out;obtain⟨cz0,cz1,cz2⟩:=cl3 Rz.out;obtain⟨cq0,cq1,cq2⟩:=cl3 Rq.out))
   refine bodyPost_ret (v:=.tuple #[.agg #[.int .u32 0,.string ⟨#[]⟩,.int .u32 0],.int .i64 6]) (results_row2 rfl _ _ (w.heap.size+1) 170 #[.int .u32 0,.string ⟨#[]⟩,.int .u32 0] (0,0) _ rfl Rz.out Tryz.underlying170 rfl (by kernel_rfl) _ rfl) rfl ?_;exact⟨rfl,B.out⟩
  ·
   have HL:=hid (fun (w1:World) (hb:Below w.heap.size w w1)=>place_any (h.go hb) p hp);obtain⟨e1,e2⟩:=fr_no (L:=L) (p:=p) (fun h2=>h2.2 (Decidable.not_not.1 h1));rw [e1,e2];clear e1 e2;generalize pl L p=q at *;generalize plX L p=x at *;obtain⟨qd,qk,qi⟩:=q;try dsimp only at *
   clear h hp;subst h0;have e5:=eqZ (Decidable.not_not.1 h1);clear h1;have HN:=hid (two_new w #[.slice A n c] #[.int .u32 0,.string ⟨#[]⟩,.int .u32 0] 84 170)
   go_enter Tryz.func100,Tryz.ntmps100
   go_wp2_with fail
   try generalize ((w.alloc (.cells #[.slice A n c] 84)).alloc (.cells #[.int .u32 0,.string ⟨#[]⟩,.int .u32 0] 170))=w0 at *
   have Rv:=hid HN.out.1;have Rz:=hid HN.out.2.1;have B:=hid HN.out.2.2.1;clear HN;have cv0:=cl1 Rv.out;obtain⟨cz0,cz1,cz2⟩:=cl3 Rz.out;refine (HL.out _ B.out).mono ?_;rintro e w1 ⟨rfl,hb⟩;clear cv0 cz0 cz1 cz2;replace Rv:=gg Rv hb;replace Rz:=gg Rz hb;replace B:=gb B hb;have cv0:=cl1 Rv.out;obtain⟨cz0,cz1,cz2⟩:=cl3 Rz.out;clear hb
   go_wp2_with (first|(refine new_row rfl 170 (.tmp 6) (.tmp 12) rfl rfl #[.int .u32 qd,.string qk,.int .u32 qi] rfl rfl (by kernel_rfl) rfl (row3 _ _ _) ?_;intro w2 M;have Dq_z:=hid Rz.out.lt;clear cv0 cz0 cz1 cz2;replace Rv:=gg Rv M.2.1;replace Rz:=gg Rz M.2.1;replace B:=gb B M.2.1;have Rq:=hid M.1;have cv0:=cl1 Rv.out;obtain⟨cz0,cz1,cz2⟩:=cl3 Rz.out;obtain⟨cq0,cq1,cq2⟩:=cl3 Rq.out;clear M)|(refine wpList_load_row rfl 170 (.tmp 22) rfl (w1.heap.size) rfl 170 #[.int .u32 qd,.string qk,.int .u32 qi] (0,0) _ Rq.out Tryz.underlying170 rfl (by kernel_rfl) ?_)|(refine old_row rfl 170 (.tmp 4) (.tmp 22) rfl (w.heap.size+1) #[.int .u32 qd,.string qk,.int .u32 qi] rfl rfl Rz.out (by kernel_rfl) rfl (row3 _ _ _) ?_;intro w3 hw;clear cv0 cz0 cz1 cz2 cq0 cq1 cq2;replace B:=bx hw B (by omega);replace Rv:=kx hw Rv (by omega);replace Rq:=kx hw Rq (Nat.ne_of_gt Dq_z.out);replace Rz:=sx hw Rz;clear hw;have cv0:=cl1 Rv.out;obtain⟨cz0,cz1,cz2⟩:=cl3 Rz.out;obtain⟨cq0,cq1,cq2⟩:=cl3 Rq.out))
   refine bodyPost_ret (v:=.tuple #[.agg #[.int .u32 qd,.string qk,.int .u32 qi],.int .i64 0]) (results_row2 rfl _ _ (w.heap.size+1) 170 #[.int .u32 qd,.string qk,.int .u32 qi] (0,0) _ rfl Rz.out Tryz.underlying170 rfl (by kernel_rfl) _ rfl) rfl ?_;exact⟨rfl,B.out⟩
 ·
  have HL:=hid (fun (w1:World) (hb:Below w.heap.size w w1)=>place_any (h.go hb) p hp);obtain⟨e1,e2⟩:=fr_no (L:=L) (p:=p) (fun h2=>h0 h2.1);rw [e1,e2];clear e1 e2;generalize pl L p=q at *;generalize plX L p=x at *;obtain⟨qd,qk,qi⟩:=q;try dsimp only at *
  clear h hp;have e5:=ne0 h0;clear h0;have HN:=hid (two_new w #[.slice A n c] #[.int .u32 0,.string ⟨#[]⟩,.int .u32 0] 84 170)
  go_enter Tryz.func100,Tryz.ntmps100
  go_wp2_with fail
  try generalize ((w.alloc (.cells #[.slice A n c] 84)).alloc (.cells #[.int .u32 0,.string ⟨#[]⟩,.int .u32 0] 170))=w0 at *
  have Rv:=hid HN.out.1;have Rz:=hid HN.out.2.1;have B:=hid HN.out.2.2.1;clear HN;have cv0:=cl1 Rv.out;obtain⟨cz0,cz1,cz2⟩:=cl3 Rz.out;refine (HL.out _ B.out).mono ?_;rintro e w1 ⟨rfl,hb⟩;clear cv0 cz0 cz1 cz2;replace Rv:=gg Rv hb;replace Rz:=gg Rz hb;replace B:=gb B hb;have cv0:=cl1 Rv.out;obtain⟨cz0,cz1,cz2⟩:=cl3 Rz.out;clear hb
  go_wp2_with (first|(refine new_row rfl 170 (.tmp 6) (.tmp 12) rfl rfl #[.int .u32 qd,.string qk,.int .u32 qi] rfl rfl (by kernel_rfl) rfl (row3 _ _ _) ?_;intro w2 M;have Dq_z:=hid Rz.out.lt;clear cv0 cz0 cz1 cz2;replace Rv:=gg Rv M.2.1;replace Rz:=gg Rz M.2.1;replace B:=gb B M.2.1;have Rq:=hid M.1;have cv0:=cl1 Rv.out;obtain⟨cz0,cz1,cz2⟩:=cl3 Rz.out;obtain⟨cq0,cq1,cq2⟩:=cl3 Rq.out;clear M)|(refine wpList_load_row rfl 170 (.tmp 22) rfl (w1.heap.size) rfl 170 #[.int .u32 qd,.string qk,.int .u32 qi] (0,0) _ Rq.out Tryz.underlying170 rfl (by kernel_rfl) ?_)|(refine old_row rfl 170 (.tmp 4) (.tmp 22) rfl (w.heap.size+1) #[.int .u32 qd,.string qk,.int .u32 qi] rfl rfl Rz.out (by kernel_rfl) rfl (row3 _ _ _) ?_;intro w3 hw;clear cv0 cz0 cz1 cz2 cq0 cq1 cq2;replace B:=bx hw B (by omega);replace Rv:=kx hw Rv (by omega);replace Rq:=kx hw Rq (Nat.ne_of_gt Dq_z.out);replace Rz:=sx hw Rz;clear hw;have cv0:=cl1 Rv.out;obtain⟨cz0,cz1,cz2⟩:=cl3 Rz.out;obtain⟨cq0,cq1,cq2⟩:=cl3 Rq.out))
  refine bodyPost_ret (v:=.tuple #[.agg #[.int .u32 qd,.string qk,.int .u32 qi],.int .i64 x]) (results_row2 rfl _ _ (w.heap.size+1) 170 #[.int .u32 qd,.string qk,.int .u32 qi] (0,0) _ rfl Rz.out Tryz.underlying170 rfl (by kernel_rfl) _ rfl) rfl ?_;exact⟨rfl,B.out⟩
abbrev vOp (o:Op):Value:=.agg #[.int .u8 (o.K:Nat),.string o.P,.string o.T,.int .u16 (o.M:Nat),.int .u32 (o.O:Nat),.int .u32 (o.N:Nat),.string o.D]
theorem at_err {o:Op}(h:ldX L o.P true≠0):atX L o=ldX L o.P true∧atK L o=ByteArray.empty:=by
 refine⟨by unfold atX;rw [if_pos h],by unfold atK;rw [if_neg (fun h2=>h h2.1)]⟩
theorem at_bad {o:Op}(h:ldX L o.P true=0) (h1:nb o.T=false):atX L o=10∧atK L o=ByteArray.empty:=by
 refine⟨by unfold atX;rw [if_neg (fun h2=>h2 h),if_pos h1],by unfold atK;rw [if_neg (fun h2=>by rw [h1] at h2;cases h2.2)]⟩
theorem at_ok {o:Op}(h:ldX L o.P true=0) (h1:nb o.T=true):atX L o=chK ⟨4,ldI L o.P true,o.T,0⟩∧atK L o=enK ⟨4,ldI L o.P true,o.T,0⟩:=by
 refine⟨by unfold atX;rw [if_neg (fun h2=>h2 h),if_neg (by rw [h1];decide)],by unfold atK;rw [if_pos ⟨h,h1⟩]⟩
theorem attrKey_any (h:VA w A n c L) (o:Op) (ho:o.lim):Calls Tryz.prog 98 #[vV A n c,vOp o] w fun e w'=>e=.returned (.tuple #[.string (atK L o),.int .i64 (atX L o)])∧Below w.heap.size w w':=by
 by_cases h0:ldX L o.P true=0
 ·by_cases h1:nb o.T=true
  ·
   have HL:=hid (fun (w1:World) (hb:Below w.heap.size w w1)=>led_any (h.go hb) o.P ho.2.2.2.2.1 true);have HNM:=hid (fun (w1:World)=>(nameQ o.T (nb o.T) rfl w1).mono fun e w' h=>(⟨h.1,h.2▸Below.refl _ _⟩:e=.returned (.bool (nb o.T))∧Below w1.heap.size w1 w'));have hlt:=ldI_lt h.rg o.P true;obtain⟨e1,e2⟩:=at_ok h0 h1;rw [e1,e2];have HK:=hid (fun w=>key_in ⟨4,ldI L o.P true,o.T,0⟩ ⟨show (4:Nat)<256 by decide,hlt,show (0:Nat)<4294967296 by decide⟩ w);unfold vK at HK;try dsimp only at HK ⊢
   generalize enK ⟨4,ldI L o.P true,o.T,0⟩=k at *;generalize chK ⟨4,ldI L o.P true,o.T,0⟩=y at *;clear e1 e2;generalize ldI L o.P true=i at *;generalize ldN L o.P true=m at *;generalize ldX L o.P true=x at *;generalize nb o.T=q at *;obtain⟨oK,oP,oT,oM,oO,oN,oD⟩:=o;obtain⟨mK,mM,mL,mS,mT⟩:=m;try dsimp only at *
   clear h ho;subst h0;subst h1;clear hlt;have HN:=hid (two_new w #[.slice A n c] #[.int .u8 oK,.string oP,.string oT,.int .u16 oM,.int .u32 oO,.int .u32 oN,.string oD] 84 31)
   go_enter Tryz.func98,Tryz.ntmps98
   go_wp2_with fail
   try generalize ((w.alloc (.cells #[.slice A n c] 84)).alloc (.cells #[.int .u8 oK,.string oP,.string oT,.int .u16 oM,.int .u32 oO,.int .u32 oN,.string oD] 31))=w0 at *
   have Rv:=hid HN.out.1;have Ro:=hid HN.out.2.1;have B:=hid HN.out.2.2.1;clear HN;have cv0:=cl1 Rv.out;obtain⟨co0,co1,co2,co3,co4,co5,co6⟩:=cl7 Ro.out;refine (HL.out _ B.out).mono ?_;rintro e w1 ⟨rfl,hb⟩;clear cv0 co0 co1 co2 co3 co4 co5 co6;replace Rv:=gg Rv hb;replace Ro:=gg Ro hb;replace B:=gb B hb;have cv0:=cl1 Rv.out;obtain⟨co0,co1,co2,co3,co4,co5,co6⟩:=cl7 Ro.out;clear hb
   go_wp2_with (first|(refine new_row rfl 161 (.tmp 6) (.tmp 13) rfl rfl #[.int .u8 mK,.int .u16 mM,.int .u32 mL,.int .u32 mS,.string mT,.int .u32 i] rfl rfl (by kernel_rfl) rfl (row6 _ _ _ _ _ _) ?_;intro w2 M;clear cv0 co0 co1 co2 co3 co4 co5 co6;replace Rv:=gg Rv M.2.1;replace Ro:=gg Ro M.2.1;replace B:=gb B M.2.1;have Rd:=hid M.1;have cv0:=cl1 Rv.out;obtain⟨co0,co1,co2,co3,co4,co5,co6⟩:=cl7 Ro.out;obtain⟨cd0,cd1,cd2,cd3,cd4,cd5⟩:=cl6 Rd.out;clear M)|(go_at_call 43;refine (HNM.out _).mono ?_;rintro e w3 ⟨rfl,hb⟩;clear cv0 co0 co1 co2 co3 co4 co5 co6 cd0 cd1 cd2 cd3 cd4 cd5;replace Rv:=gg Rv hb;replace Ro:=gg Ro hb;replace Rd:=gg Rd hb;replace B:=gb B hb;have cv0:=cl1 Rv.out;obtain⟨co0,co1,co2,co3,co4,co5,co6⟩:=cl7 Ro.out;obtain⟨cd0,cd1,cd2,cd3,cd4,cd5⟩:=cl6 Rd.out;clear hb)|(go_at_call 30;refine (HK.out _).mono ?_;rintro e w4 ⟨rfl,hb⟩;clear cv0 co0 co1 co2 co3 co4 co5 co6 cd0 cd1 cd2 cd3 cd4 cd5;replace Rv:=gg Rv hb;replace Ro:=gg Ro hb;replace Rd:=gg Rd hb;replace B:=gb B hb;have cv0:=cl1 Rv.out;obtain⟨co0,co1,co2,co3,co4,co5,co6⟩:=cl7 Ro.out;obtain⟨cd0,cd1,cd2,cd3,cd4,cd5⟩:=cl6 Rd.out;clear hb))
   go_ret2
   exact⟨rfl,B.out⟩
  ·have h1:nb o.T=false:=by simpa using h1
   have HL:=hid (fun (w1:World) (hb:Below w.heap.size w w1)=>led_any (h.go hb) o.P ho.2.2.2.2.1 true);have HNM:=hid (fun (w1:World)=>(nameQ o.T (nb o.T) rfl w1).mono fun e w' h=>(⟨h.1,h.2▸Below.refl _ _⟩:e=.returned (.bool (nb o.T))∧Below w1.heap.size w1 w'));have hlt:=ldI_lt h.rg o.P true;obtain⟨e1,e2⟩:=at_bad h0 h1;rw [e1,e2];clear e1 e2;generalize ldI L o.P true=i at *;generalize ldN L o.P true=m at *;generalize ldX L o.P true=x at *;generalize nb o.T=q at *;obtain⟨oK,oP,oT,oM,oO,oN,oD⟩:=o;obtain⟨mK,mM,mL,mS,mT⟩:=m;try dsimp only at *
   clear h ho;subst h0;subst h1;clear hlt;have HN:=hid (two_new w #[.slice A n c] #[.int .u8 oK,.string oP,.string oT,.int .u16 oM,.int .u32 oO,.int .u32 oN,.string oD] 84 31)
   go_enter Tryz.func98,Tryz.ntmps98
   go_wp2_with fail
   try generalize ((w.alloc (.cells #[.slice A n c] 84)).alloc (.cells #[.int .u8 oK,.string oP,.string oT,.int .u16 oM,.int .u32 oO,.int .u32 oN,.string oD] 31))=w0 at *
   have Rv:=hid HN.out.1;have Ro:=hid HN.out.2.1;have B:=hid HN.out.2.2.1;clear HN;have cv0:=cl1 Rv.out;obtain⟨co0,co1,co2,co3,co4,co5,co6⟩:=cl7 Ro.out;refine (HL.out _ B.out).mono ?_;rintro e w1 ⟨rfl,hb⟩;clear cv0 co0 co1 co2 co3 co4 co5 co6;replace Rv:=gg Rv hb;replace Ro:=gg Ro hb;replace B:=gb B hb;have cv0:=cl1 Rv.out;obtain⟨co0,co1,co2,co3,co4,co5,co6⟩:=cl7 Ro.out;clear hb
   go_wp2_with (first|(refine new_row rfl 161 (.tmp 6) (.tmp 13) rfl rfl #[.int .u8 mK,.int .u16 mM,.int .u32 mL,.int .u32 mS,.string mT,.int .u32 i] rfl rfl (by kernel_rfl) rfl (row6 _ _ _ _ _ _) ?_;intro w2 M;clear cv0 co0 co1 co2 co3 co4 co5 co6;replace Rv:=gg Rv M.2.1;replace Ro:=gg Ro M.2.1;replace B:=gb B M.2.1;have Rd:=hid M.1;have cv0:=cl1 Rv.out;obtain⟨co0,co1,co2,co3,co4,co5,co6⟩:=cl7 Ro.out;obtain⟨cd0,cd1,cd2,cd3,cd4,cd5⟩:=cl6 Rd.out;clear M)|(go_at_call 43;refine (HNM.out _).mono ?_;rintro e w3 ⟨rfl,hb⟩;clear cv0 co0 co1 co2 co3 co4 co5 co6 cd0 cd1 cd2 cd3 cd4 cd5;replace Rv:=gg Rv hb;replace Ro:=gg Ro hb;replace Rd:=gg Rd hb;replace B:=gb B hb;have cv0:=cl1 Rv.out;obtain⟨co0,co1,co2,co3,co4,co5,co6⟩:=cl7 Ro.out;obtain⟨cd0,cd1,cd2,cd3,cd4,cd5⟩:=cl6 Rd.out;clear hb))
   go_ret2
   exact⟨rfl,B.out⟩
 ·
  have HL:=hid (fun (w1:World) (hb:Below w.heap.size w w1)=>led_any (h.go hb) o.P ho.2.2.2.2.1 true);have HNM:=hid (fun (w1:World)=>(nameQ o.T (nb o.T) rfl w1).mono fun e w' h=>(⟨h.1,h.2▸Below.refl _ _⟩:e=.returned (.bool (nb o.T))∧Below w1.heap.size w1 w'));have hlt:=ldI_lt h.rg o.P true;obtain⟨e1,e2⟩:=at_err h0;rw [e1,e2];clear e1 e2;generalize ldI L o.P true=i at *;generalize ldN L o.P true=m at *;generalize ldX L o.P true=x at *;generalize nb o.T=q at *;obtain⟨oK,oP,oT,oM,oO,oN,oD⟩:=o;obtain⟨mK,mM,mL,mS,mT⟩:=m;try dsimp only at *
  clear h ho;have e5:=ne0 h0;clear h0 hlt;have HN:=hid (two_new w #[.slice A n c] #[.int .u8 oK,.string oP,.string oT,.int .u16 oM,.int .u32 oO,.int .u32 oN,.string oD] 84 31)
  go_enter Tryz.func98,Tryz.ntmps98
  go_wp2_with fail
  try generalize ((w.alloc (.cells #[.slice A n c] 84)).alloc (.cells #[.int .u8 oK,.string oP,.string oT,.int .u16 oM,.int .u32 oO,.int .u32 oN,.string oD] 31))=w0 at *
  have Rv:=hid HN.out.1;have Ro:=hid HN.out.2.1;have B:=hid HN.out.2.2.1;clear HN;have cv0:=cl1 Rv.out;obtain⟨co0,co1,co2,co3,co4,co5,co6⟩:=cl7 Ro.out;refine (HL.out _ B.out).mono ?_;rintro e w1 ⟨rfl,hb⟩;clear cv0 co0 co1 co2 co3 co4 co5 co6;replace Rv:=gg Rv hb;replace Ro:=gg Ro hb;replace B:=gb B hb;have cv0:=cl1 Rv.out;obtain⟨co0,co1,co2,co3,co4,co5,co6⟩:=cl7 Ro.out;clear hb
  go_wp2_with (first|(refine new_row rfl 161 (.tmp 6) (.tmp 13) rfl rfl #[.int .u8 mK,.int .u16 mM,.int .u32 mL,.int .u32 mS,.string mT,.int .u32 i] rfl rfl (by kernel_rfl) rfl (row6 _ _ _ _ _ _) ?_;intro w2 M;clear cv0 co0 co1 co2 co3 co4 co5 co6;replace Rv:=gg Rv M.2.1;replace Ro:=gg Ro M.2.1;replace B:=gb B M.2.1;have Rd:=hid M.1;have cv0:=cl1 Rv.out;obtain⟨co0,co1,co2,co3,co4,co5,co6⟩:=cl7 Ro.out;obtain⟨cd0,cd1,cd2,cd3,cd4,cd5⟩:=cl6 Rd.out;clear M))
  go_ret2
  exact⟨rfl,B.out⟩
end Go.Proofs.YtopepebcnaikiaaGreatDoor.Fi
namespace Go.Proofs.YtopepebcnaikiaaGreatDoor.Fi
open Lib (hid)
open Go.ChangeShapes Go.WideShapes Go.ChangeAt Go.RowKit
open BigFrame
open Ar Rg
open Ino
open It (Itm Ch get und app dif rt rc enc er getV get_any under_any apply_any diff_any MkI MkC)
open Di (ItA wlk rgt rgt_iff numOf Vo vo pts lsX lsL up En NmA Walk_any Up AllUp up_succ up_add first_one nmdO nmdO_same nmdO_ne nmdO_get pts_snoc vo_snoc takeP takeI takeE ptOf kind)
open Ph (nb spX spB laX laD laN)
open Pk (nB nE tN tR tE number_any take_any)
variable {w w' wr:World}{A:Option Addr}{n c:Nat}{L:List Itm}
theorem _root_.Go.Proofs.YtopepebcnaikiaaGreatDoor.Mq.MT.At.ago {P:Program}{κ α:Type}{M:Mq.MT P κ α}{b n:Nat}{F:κ→Option α}(h:M.At w b n F) (hb:Below w.heap.size w w'):M.At w' b n F:=h.go h.lt hb
noncomputable def rk (s:Vo) (x:Nat):Nat:=@Classical.epsilon Nat ⟨0⟩ (fun k=>up s k x=1∧∀ t,t<k→up s t x≠1)
theorem rk_spec {s:Vo}{x:Nat}(h:Up s x):up s (rk s x) x=1∧∀ t,t<rk s x→up s t x≠1:=by
 obtain⟨k,h1,h2⟩:=first_one h;exact @Classical.epsilon_spec Nat (fun k=>up s k x=1∧∀ t,t<k→up s t x≠1) ⟨k,h1,h2⟩
theorem up_abv {s:Vo}{x:Nat}(h:Up s x) (hx:x≠1):Up s (s.abv x)∧rk s (s.abv x)<rk s x:=by
 obtain⟨h1,h2⟩:=rk_spec h;cases e:rk s x with
 | zero=>rw [e] at h1;exact absurd h1 hx
 | succ k =>
  rw [e] at h1;have h3:up s k (s.abv x)=1:=h1;have hu:Up s (s.abv x):=⟨k,h3⟩;refine⟨hu,?_⟩;by_cases hk:k<rk s (s.abv x)
  ·exact absurd h3 ((rk_spec hu).2 k hk)
  ·omega
theorem undr_yes {d t k:Nat}(h:up (vo (pts L)) k d=t) (hk:∀ j,j<k→up (vo (pts L)) j d≠1):undr L d t=true:=by
 unfold undr;exact @decide_eq_true _ (Classical.propDecidable _) ⟨k,h,hk⟩
theorem undr_no {d t k:Nat}(h:up (vo (pts L)) k d=1) (ht:t≠1) (hk:∀ j,j<k→up (vo (pts L)) j d≠t):undr L d t=false:=by
 unfold undr;refine @decide_eq_false _ (Classical.propDecidable _) ?_;rintro ⟨m,hm,hj⟩;by_cases e:m<k
 ·exact hk m e hm
 ·by_cases e2:m=k
  ·subst e2;rw [h] at hm;exact ht hm.symm
  ·exact hj k (by omega) h
theorem abv_yes {i:Nat}{x:Itm}(hx:L[i]?=some x) (h:rt L=true) (hk:(deK x.k).K=2) (y:Nat):(vo (pts (L.take (i+1)))).abv y=if y=enn L x.k then (deK x.k).I else (vo (pts (L.take i))).abv y:=by
 have he:enn L x.k=numOf x.v:=enn_some ((get_some h).2 (List.mem_of_getElem? hx));rw [pts_snoc hx,vo_snoc,he];unfold takeP;rw [if_neg (show ¬ (ptOf x).k.K=1 from fun e=>by have h2:(deK x.k).K=1:=e;omega),if_pos (show (ptOf x).k.K=2 from hk)];rfl
theorem abv_no {i:Nat}{x:Itm}(hx:L[i]?=some x) (hk:(deK x.k).K≠2):(vo (pts (L.take (i+1)))).abv=(vo (pts (L.take i))).abv:=by
 rw [pts_snoc hx,vo_snoc];unfold takeP;split
 ·rfl
 ·split
  ·rename_i h2;exact absurd h2 hk
  ·rfl
theorem neT {k:Nat}(h:k≠2):((k:Int)==2)=false:=by
 have:(k:Int)≠2:=by omega
 rw [beq_eq_false_iff_ne];exact this
def AbPost (L:List Itm) (w:World) (e:Ending) (w':World):Prop:=∃ (b:Nat) (F:Nat→Option Nat),e=.returned (.map (some b))∧Di.mN.At w' b L.length F∧(∀ x,(F x).getD 0=(vo (pts L)).abv x)∧Below w.heap.size w w'
theorem above_any (h:VA w A n c L):Calls Tryz.prog 143 #[vV A n c] w (AbPost L w):=by
 have HRT:=hid h.rt;have HLN:=hid h.it.1;have hm9:n≤1390000:=h.it.2.1;have HD:=hid h.it.2.2;have HSZ:=hid (Di.rt_sizes h.rt);have HEN:=hid (fun (w1:World) (hb:Below w.heap.size w w1) (k:ByteArray)=>entry_any (h.go hb) k);have hmm:=@run_makeMap Tryz.prog;have hz:(w.alloc (.cells #[.slice A n c] 84)).heap.size=w.heap.size+1:=by simp
 have hb1:Below w.heap.size w (w.alloc (.cells #[.slice A n c] 84)):=(Below.refl _ _).alloc (Nat.le_refl _) _;have hb2:Below (w.alloc (.cells #[.slice A n c] 84)).heap.size (w.alloc (.cells #[.slice A n c] 84)) ((w.alloc (.cells #[.slice A n c] 84)).alloc (.map #[] 0)):=(Below.refl _ _).alloc (Nat.le_refl _) _;have hM0:=Mq.MT.At.made Di.mN (w.alloc (.cells #[.slice A n c] 84));rw [hz] at hM0;have HM0:=hid hM0;have HR0:=hid ((Rw.new w #[.slice A n c] 84).go hb2);have HB0:=hid (hb1.trans (hb2.mono hb1.size));have cv_0:=HR0.out.cell 0 _ rfl;clear h hz hb1 hb2 hM0
 go_enter Tryz.func143,Tryz.ntmps143
 go_wp2_with fail
 go_loopw [12] (fun v wr=>∃ (i:Nat) (F:Nat→Option Nat),i≤n∧v=.int .i64 i∧Hid (Di.mN.At wr (w.heap.size+1) i F)∧Hid (∀ x,(F x).getD 0=(vo (pts (L.take i))).abv x)∧Hid (Below w.heap.size w wr)∧Hid (Rw wr w.heap.size #[.slice A n c] 84)) (fun v _=>n-(intOf v).toNat)
 case atStart=>exact⟨0,_,Nat.zero_le _,by go_num,HM0.out,fun x=>rfl,HB0.out,HR0.out⟩
 case round =>
  obtain⟨i,F,hi,rfl,hm,hf,hb,hrv⟩:=hrel;have HM:=hid (Hid.out hm);have HF:=hid (Hid.out hf);have B:=hid (Hid.out hb);have Rv:=hid (Hid.out hrv);clear hm hf hb hrv cv_0 HM0 HB0 HR0 hmm;by_cases hlt:i<n
  ·obtain⟨x,hx⟩:∃ x,L[i]?=some x:=⟨_,List.getElem?_eq_getElem (by rw [← HLN.out];exact hlt)⟩;obtain⟨b,o,hAe,hbs,hr⟩:=HD.out i x hx;have HSX:=hid (HSZ.out x (List.mem_of_getElem? hx));have HYES:=hid (abv_yes hx HRT.out);have HNO:=hid (abv_no hx);have hkb:wr.heap[b]?=w.heap[b]?:=B.out.block b hbs;have e0:wr.cell? ⟨b,o+i*2,none⟩=some (.string x.k):=(World.cell?_of_block (a:=⟨b,_,none⟩) hkb).trans (hr 0 _ rfl);have e1:wr.cell? ⟨b,o+i*2+1,none⟩=some (.string x.v):=(World.cell?_of_block (a:=⟨b,_,none⟩) hkb).trans (hr 1 _ rfl);have HPC:=hid (fun w=>parse_in x.k (by have:=HSX.out.1;unfold maxLen;omega) w);have HEX:=hid (fun (w1:World) (hb:Below w.heap.size w w1)=>HEN.out w1 hb x.k);have HJL:=hid (enn_lt L x.k);clear hr hx hkb HSX;subst hAe;obtain⟨kk,hkk⟩:∃ kk,deK x.k=kk:=⟨_,rfl⟩;rw [hkk] at HPC HYES HNO;generalize deKE x.k=y at *;generalize enn L x.k=j at *;clear hkk;obtain⟨xk,xv⟩:=x;try dsimp only at *
   obtain⟨kK,I,Nm,C⟩:=kk;unfold vK at HPC;try dsimp only at *
   have hal:Below wr.heap.size wr (wr.alloc (.cells #[.string xk,.string xv] 90)):=(Below.refl _ _).alloc (Nat.le_refl _) _;have Rx:=hid (Rw.new wr #[.string xk,.string xv] 90);replace Rv:=hid (Rv.out.go hal);have HML:=hid HM.out.lt;replace HM:=hid (HM.out.go HML.out hal);replace B:=hid (B.out.trans (hal.mono B.out.size));clear hal
   go_wp2_with fail
   generalize wr.alloc (.cells #[.string xk,.string xv] 90)=W at *;have cx_0:=Rx.out.cell 0 _ rfl;have cx_1:=Rx.out.cell 1 _ rfl;refine (HPC.out W).mono ?_;rintro e w1 ⟨rfl,hb⟩;clear cx_0 cx_1;replace Rv:=hid (Rv.out.go hb);replace Rx:=hid (Rx.out.go hb);replace HML:=hid HM.out.lt;replace HM:=hid (HM.out.go HML.out hb);replace B:=hid (B.out.trans (hb.mono B.out.size));have cv0:=cl1 Rv.out;obtain⟨cx0,cx1⟩:=cl2 Rx.out;clear hb HPC;by_cases hk2:kK=2
   ·subst hk2
    go_wp2_with (first|(refine new_row rfl 99 (.tmp 6) (.tmp 20) rfl rfl #[.int .u8 2,.int .u32 I,.string Nm,.int .u32 C] rfl rfl (by kernel_rfl) rfl (by simp [Value.oneCell']) ?_;intro w2 M;clear cv0 cx0 cx1;replace Rv:=gg Rv M.2.1;replace Rx:=gg Rx M.2.1;replace HM:=hid (HM.out.ago M.2.1);replace B:=gb B M.2.1;have Rk:=hid M.1;have cv0:=cl1 Rv.out;obtain⟨cx0,cx1⟩:=cl2 Rx.out;obtain⟨ck0,ck1,ck2,ck3⟩:=cl4 Rk.out;clear M))
    refine wp_region_S (fun w'=>Below w2.heap.size w2 w') 7 (by kernel_rfl) (by kernel_rfl) (by kernel_rfl) ((Below.refl _ _).drew) ?_;simp only [List.take_succ_cons,List.take_zero];refine wpG_val (.map (some (w.heap.size+1))) rfl (by rfl) (fun w' hSw=>by go_simp) ?_;simp only [Gw1ighta,Gw1ightb,Gw1ightc];refine wpG_val (.agg #[.slice (some ⟨b,o,none⟩) n c]) rfl (by rfl) (fun w' hSw=>load_all 84 (.tmp 1) rfl (w.heap.size) rfl (Rv.out.go hSw) Tryz.underlying84 rfl (by kernel_rfl)) ?_;simp only [Gw1ighta,Gw1ightb,Gw1ightc];refine wpG_val (.pointer (some ⟨wr.heap.size,0,none⟩)) rfl (by rfl) (fun w' hSw=>by go_simp) ?_;simp only [Gw1ighta,Gw1ightb,Gw1ightc];refine wpG_val (.string xk) rfl (by rfl) (fun w' hSw=>by have c:=(Rx.out.go hSw).cell 0 _ rfl;go_simp) ?_;simp only [Gw1ighta,Gw1ightb,Gw1ightc];refine wpG_call (.int .u32 j) 142 #[.agg #[.slice (some ⟨b,o,none⟩) n c],.string xk] rfl (by rfl) (fun w'=>by go_simp) (fun w' hSw=>(HEX.out w' (B.out.trans (hSw.mono B.out.size))).mono fun e w2 h=>⟨h.1,hSw.trans (h.2.mono hSw.size)⟩) ?_;simp only [Gw1ighta,Gw1ightb,Gw1ightc];refine wpG_val (.pointer (some ⟨w1.heap.size,1,none⟩)) rfl (by rfl) (fun w' hSw=>by go_simp) ?_;simp only [Gw1ighta,Gw1ightb,Gw1ightc];refine wpG_val (.int .u32 I) rfl (by rfl) (fun w' hSw=>by have c:=(Rk.out.go hSw).cell 1 _ rfl;go_simp) ?_;simp only [Gw1ighta,Gw1ightb,Gw1ightc];refine wpG_nil ?_;intro w3 hb;simp only [List.drop_succ_cons,List.drop_zero];clear cv0 cx0 cx1 ck0 ck1 ck2 ck3;replace Rv:=gg Rv hb;replace Rx:=gg Rx hb;replace Rk:=gg Rk hb;replace HM:=hid (HM.out.ago hb);replace B:=gb B hb;have cv0:=cl1 Rv.out;obtain⟨cx0,cx1⟩:=cl2 Rx.out;obtain⟨ck0,ck1,ck2,ck3⟩:=cl4 Rk.out;clear hb
    go_wp2_with (refine Mq.wpList_put Di.mN rfl _ _ _ (.inl rfl) (w.heap.size+1) i _ (nmdO F j I) rfl HM.out (by unfold maxLen;omega) j HJL.out rfl I rfl (nmdO_same F j I) (nmdO_ne F j I) ?_;intro w9 ha9 hg9;have HA9:=hid ha9;have RV9:=hid (show Rw w9 w.heap.size _ _ from (hg9.block w.heap.size Rv.out.lt (fun e=>by have:=Option.some.inj e;omega)).trans Rv.out);have B9:=hid (B.out.grown hg9 B.out.size (fun k hk=>by cases hk;exact Nat.le_succ _));clear ha9 hg9)
    exact⟨⟨i+1,nmdO F j I,hlt,by go_num,HA9.out,fun x=>by rw [nmdO_get,HYES.out (by first | trivial | rfl),HF.out],B9.out,RV9.out⟩,by simp [intOf];omega⟩
   ·have e5:=neT hk2
    go_wp2_with (first|(refine new_row rfl 99 (.tmp 6) (.tmp 20) rfl rfl #[.int .u8 kK,.int .u32 I,.string Nm,.int .u32 C] rfl rfl (by kernel_rfl) rfl (by simp [Value.oneCell']) ?_;intro w2 M;clear cv0 cx0 cx1;replace Rv:=gg Rv M.2.1;replace Rx:=gg Rx M.2.1;replace HM:=hid (HM.out.ago M.2.1);replace B:=gb B M.2.1;have Rk:=hid M.1;have cv0:=cl1 Rv.out;obtain⟨cx0,cx1⟩:=cl2 Rx.out;obtain⟨ck0,ck1,ck2,ck3⟩:=cl4 Rk.out;clear M))
    exact⟨⟨i+1,F,hlt,by go_num,HM.out.mono (Nat.le_succ _),fun x=>by rw [HNO.out hk2,HF.out],B.out,Rv.out⟩,by simp [intOf];omega⟩
  ·have hie:i=n:=by omega
   have HX:=hid (show L.take i=L by rw [hie,HLN.out,List.take_length]);have HNN:=hid HLN.out
   go_wp2
   go_ret
   exact⟨_,F,rfl,by rw [← HNN.out];exact hie▸HM.out,fun x=>by rw [HF.out,HX.out],B.out⟩
theorem eqU {a b:Nat}(h:a=b):((a:Int)==(b:Int))=true∧((a:Int) != (b:Int))=false:=by subst h;exact⟨by simp,by simp⟩
theorem neU {a b:Nat}(h:a≠b):((a:Int)==(b:Int))=false∧((a:Int) != (b:Int))=true:=by
 have h2:(a:Int)≠(b:Int):=by omega
 exact⟨by rw [beq_eq_false_iff_ne];exact h2,by rw [bne_iff_ne];exact h2⟩
theorem abv_of:∀ (ps:List Di.Pt){i:Nat},(vo ps).abv i≠0→∃ p∈ps,p.k.K=2∧numOf p.v=i∧(vo ps).abv i=p.k.I:=by
 intro ps;induction ps using Di.snocRec with
 | h0=>intro i h;exact absurd rfl h
 | h1 ps p ih =>
  intro i h;rw [vo_snoc] at h ⊢;have old:(takeP (vo ps) p).abv i=(vo ps).abv i→∃ p'∈ps++[p],p'.k.K=2∧numOf p'.v=i∧(takeP (vo ps) p).abv i=p'.k.I:=fun e=>by
   rw [e] at h ⊢;obtain⟨q,hq,r1,r2,r3⟩:=ih h;exact⟨q,List.mem_append_left _ hq,r1,r2,r3⟩
  by_cases h1:p.k.K=1
  ·exact old (by unfold takeP;rw [if_pos h1];rfl)
  ·by_cases h2:p.k.K=2
   ·by_cases h3:i=numOf p.v
    ·refine⟨p,by simp,h2,h3.symm,?_⟩;unfold takeP;rw [if_neg h1,if_pos h2];unfold takeE;dsimp only;rw [if_pos h3]
    ·refine old ?_;unfold takeP;rw [if_neg h1,if_pos h2];unfold takeE;dsimp only;rw [if_neg h3]
   ·exact old (by unfold takeP;rw [if_neg h1,if_neg h2])
theorem abv_lt (h:rgt L=true) (x:Nat):(vo (pts L)).abv x<4294967296:=by
 have hr:=rgt_iff.1 h;by_cases h0:(vo (pts L)).abv x=0
 ·rw [h0];decide
 ·obtain⟨p,hp,_,_,e⟩:=abv_of (pts L) h0;rw [e];exact (Di.rgt_parts h p hp).1.1.2.1
theorem under_any' (h:VA w A n c L) (d top:Nat) (hd:d<4294967296) (hu:Up (vo (pts L)) d) :
  Calls Tryz.prog 108 #[vV A n c,.int .u32 (d:Int),.int .u32 (top:Int)] w fun e w'=>e=.returned (.bool (undr L d top))∧Below w.heap.size w w':=by
 have HAB:=hid (fun (w1:World) (hb:Below w.heap.size w w1)=>above_any (h.go hb));have HAL:=hid (abv_lt h.rg);have HYES:=hid (fun k=>@undr_yes L d top k);have HNO:=hid (fun k=>@undr_no L d top k);have HU:=hid hu;have hb1:Below w.heap.size w (w.alloc (.cells #[.slice A n c] 84)):=(Below.refl _ _).alloc (Nat.le_refl _) _;have HB1:=hid hb1;obtain⟨q,hq⟩:∃ q,undr L d top=q:=⟨_,rfl⟩;rw [hq] at HYES HNO ⊢;have HLN:=hid h.it.1;generalize hsv:vo (pts L)=s at *;have HSV:=hid hsv;clear h hu hb1 hq hsv
 go_enter Tryz.func108,Tryz.ntmps108
 go_wp2_with fail
 generalize w.alloc (.cells #[.slice A n c] 84)=w0 at *;refine (HAB.out _ HB1.out).mono ?_;unfold AbPost;rintro e w1 ⟨b,F,rfl,hm,hf,hb⟩;have HM:=hid hm;have HF:=hid (show ∀ x,(F x).getD 0=s.abv x from fun x=>by rw [hf,HSV.out]);have HB:=hid (HB1.out.trans (hb.mono HB1.out.size));clear hm hf hb HAB HB1
 go_wp2_with fail
 go_loopw [1] (fun v wr=>∃ (k x:Nat),v=.int .u32 (x:Int)∧x<4294967296∧wr=w1∧Hid (Up s x)∧Hid (up s k d=x)∧Hid (∀ j,j<k→up s j d≠1∧up s j d≠top)) (fun v _=>rk s (intOf v).toNat)
 case atStart=>exact⟨0,d,rfl,hd,rfl,HU.out,rfl,fun j hj=>by omega⟩
 case round =>
  obtain⟨k,x,rfl,hx,rfl,hu,he,hj⟩:=hrel;have HU1:=hid (Hid.out hu);have HE1:=hid (Hid.out he);have HJ1:=hid (Hid.out hj);clear hu he hj;by_cases h1:x=top
  ·have e1:=eqU h1
   go_wp2
   go_ret
   have hyes:=HYES.out k (by rw [HE1.out,h1]) (fun j hj=>(HJ1.out j hj).1);exact⟨by subst hyes;rfl,HB.out⟩
  ·have e1:=neU h1;by_cases h2:x=1
   ·subst h2;have e3:((1:Int)==(top:Int))=false∧((1:Int) != (top:Int))=true:=neU (a:=1) h1;have HT1:=hid h1;clear e1 h1
    go_wp2
    go_ret
    have hno:=HNO.out k HE1.out (fun e=>HT1.out e.symm) (fun j hj=>(HJ1.out j hj).2);exact⟨by subst hno;rfl,HB.out⟩
   ·have e2:((x:Int)==1)=false∧((x:Int) != 1)=true:=neU (b:=1) h2;have hlk:=Di.lookN HM.out hx;rw [HF.out] at hlk;have HN:=hid (up_abv HU1.out h2);have HXL:=hid (HAL.out x);have H12:=hid (show x≠1∧x≠top from⟨h2,h1⟩);have HS:=hid (show up s (k+1) d=s.abv x by rw [up_succ,HE1.out]);clear h1 h2
    go_wp2_with fail
    exact⟨⟨k+1,s.abv x,by first | trivial | rfl,HXL.out,by first | trivial | rfl,HN.out.1,HS.out,fun j hj=>by
     by_cases ej:j=k
     ·rw [ej,HE1.out];exact H12.out
     ·exact HJ1.out j (by omega)⟩,by simp [intOf];exact HN.out.2⟩
end Go.Proofs.YtopepebcnaikiaaGreatDoor.Fi
namespace Go.Proofs.YtopepebcnaikiaaGreatDoor.Da
open Lib (hid)
open It (Itm Ch ckey key get app lastV get_app get_iff rt rt_iff rc UpK)
open Tm (cutL cutB cutL_snoc)
def zb (l:List UInt8) (j:Nat):UInt8:=(l[j]?).getD 0
theorem cutL_split:∀ r:List UInt8,∃ m,r.reverse=cutL r.reverse++List.replicate m 0
 | []=>⟨0,rfl⟩
 | b::r=>by
  rw [List.reverse_cons,cutL_snoc];by_cases h:b=0
  ·obtain⟨m,e⟩:=cutL_split r;refine⟨m+1,?_⟩;rw [if_pos h,h,List.replicate_succ',← List.append_assoc,← e]
  ·exact⟨0,by rw [if_neg h];simp⟩
theorem cutL_end:∀ r:List UInt8,(cutL r.reverse).getLast?≠some 0
 | []=>by decide
 | b::r=>by
  rw [List.reverse_cons,cutL_snoc];by_cases h:b=0
  ·rw [if_pos h];exact cutL_end r
  ·rw [if_neg h];simpa using h
theorem cut_split (l:List UInt8):∃ m,l=cutL l++List.replicate m 0:=by have:=cutL_split l.reverse;rwa [List.reverse_reverse] at this
theorem cut_end (l:List UInt8):(cutL l).getLast?≠some 0:=by have:=cutL_end l.reverse;rwa [List.reverse_reverse] at this
theorem cut_len (l:List UInt8):(cutL l).length≤l.length:=by
 obtain⟨m,e⟩:=cut_split l;have:=congrArg List.length e;rw [List.length_append] at this;omega
theorem zb_out {l:List UInt8}{j:Nat}(h:l.length≤j):zb l j=0:=by unfold zb;rw [List.getElem?_eq_none h];rfl
theorem zb_cut (l:List UInt8) (j:Nat):zb (cutL l) j=zb l j:=by
 obtain⟨m,e⟩:=cut_split l;have e2:zb l j=zb (cutL l++List.replicate m 0) j:=congrArg (fun x=>zb x j) e;rw [e2];unfold zb;by_cases h:j<(cutL l).length
 ·rw [List.getElem?_append_left h]
 ·rw [List.getElem?_eq_none (by omega),List.getElem?_append_right (by omega),List.getElem?_replicate];split<;>rfl
theorem last_zb {l:List UInt8}(h:l.getLast?≠some 0) (h0:0<l.length):zb l (l.length-1)≠0:=by
 unfold zb;rw [← List.getLast?_eq_getElem?];cases e:l.getLast? with
 | none=>rw [List.getLast?_eq_none_iff] at e;rw [e] at h0;cases h0
 | some b=>intro hb;rw [e] at h;exact h (by rw [show b=0 from hb])
theorem bsl (s:ByteArray):s.data.toList.length=s.size:=by rw [Array.length_toList];rfl
def ov (c:Ch):Option ByteArray:=if c.h then some c.v else none
def bo (o:Option ByteArray) (j:Nat):UInt8:=match o with
 | some v=>zb v.data.toList j
 | none=>0
def CnO (o:Option ByteArray):Prop:=∀ v,o=some v→v.size≤128∧0<v.size∧v.data.toList.getLast?≠some 0
theorem cutB_list (x:ByteArray):(cutB x).data.toList=cutL x.data.toList:=rfl
theorem bo_kp (k x:ByteArray) (j:Nat):bo (ov (kpC k x)) j=zb x.data.toList j:=by
 unfold ov kpC;dsimp only;by_cases h:0<(cutB x).size
 ·rw [if_pos (decide_eq_true h)];exact zb_cut _ _
 ·rw [if_neg (by simpa using h)];show (0:UInt8)=_
  rw [← zb_cut,zb_out];have:=bsl (cutB x);rw [cutB_list] at this;omega
theorem cn_kp (k x:ByteArray) (h:x.size≤128):CnO (ov (kpC k x)):=by
 intro v hv;unfold ov kpC at hv;dsimp only at hv;split at hv
 ·rename_i h0;cases hv;refine⟨?_,of_decide_eq_true h0,cut_end _⟩;have h1:=bsl (cutB x);have h2:=bsl x;have h3:=cut_len x.data.toList;rw [cutB_list] at h1;omega
 ·cases hv
theorem zb_laid (t:List UInt8) (a:Nat) (b:List UInt8) (j:Nat):zb (laidL t a b) j=if a≤j∧j<a+b.length then zb b (j-a) else zb t j:=by
 unfold zb laidL;have h1:(cpy (List.replicate (max t.length (a+b.length)) 0) 0 (max t.length (a+b.length)) t).length=max t.length (a+b.length):=by
  rw [cpy_len (by rw [List.length_replicate];omega),List.length_replicate]
 rw [cpy_get (by rw [h1];omega)];by_cases h:a≤j∧j<a+b.length
 ·rw [if_pos (by omega),if_pos h]
 ·rw [if_neg (by omega),if_neg h,cpy_get (by rw [List.length_replicate];omega)];by_cases h2:j<t.length
  ·rw [if_pos (by omega),Nat.sub_zero]
  ·rw [if_neg (by omega),List.getElem?_replicate,List.getElem?_eq_none (by omega)];split<;>rfl
theorem zb_bts (c:Ck){j:Nat}(hj:j<128):zb (btsB c).data.toList j=zb c.v.data.toList j:=by
 unfold zb;rw [btsB_list,List.getElem?_take,if_pos hj]
theorem bo_nw (c:Ck) (q:Nat) (part:List UInt8){j:Nat}(hj:j<128):bo (ov (nwC c q part)) j=if q≤j∧j<q+part.length then zb part (j-q) else zb c.v.data.toList j:=by
 unfold nwC;rw [bo_kp];show zb (laidL _ _ _) j=_
 rw [zb_laid,zb_bts c hj]
theorem cn_nw (c:Ck) (q:Nat) (part:List UInt8) (h:q+part.length≤128):CnO (ov (nwC c q part)):=by
 unfold nwC;refine cn_kp _ _ ?_;show (laidL _ _ _).toArray.size≤128
 rw [List.size_toArray,laidL_len];have:=bts_le c;omega
theorem fnd_get {D:List Itm}{I k:Nat}(hr:rt D=true) (hI:1≤I) (hI2:I<4294967296) (hk:k<512) :
  (fnd (chs D I) I k).k=cky I k∧ov (akC (fnd (chs D I) I k))=get D (cky I k)∧∀ j,zb (fnd (chs D I) I k).v.data.toList j=bo (get D (cky I k)) j:=by
 have hu:=chs_up hr hI hI2;have hD:=(rt_iff.1 hr).1;cases hg:get D (cky I k) with
 | some v =>
  have hm:(⟨k,cky I k,true,v⟩:Ck)∈chs D I:=(mem_chs hI hI2 _).2 ⟨k,v,hk,(get_iff hD _ _).1 hg,rfl⟩;obtain⟨p,hp⟩:=List.mem_iff_getElem?.1 hm;rw [fnd_yes hu hp rfl];exact⟨rfl,rfl,fun j=>rfl⟩
 | none =>
  rw [fnd_no (fun c hc e=>by
   obtain⟨k',v,hk',hm,rfl⟩:=(mem_chs hI hI2 c).1 hc;have e:k'=k:=e;subst e;rw [(get_iff hD _ _).2 hm] at hg;cases hg)]
  exact⟨rfl,rfl,fun j=>by rw [zb_out (Nat.zero_le _)];rfl⟩
theorem lastV_app (K:ByteArray):∀ (A B:List Ch) (o:Option ByteArray),lastV K o (A++B)=lastV K (lastV K o A) B
 | [],_,_=>rfl
 | c::A,B,o=>by rw [List.cons_append,lastV,lastV,lastV_app K A B]
def Tch (p L k:Nat):Prop:=0<L∧p / 128≤k∧k*128<p+L
theorem ba_list {a b:ByteArray}:a.data.toList=b.data.toList↔a=b:=⟨fun h=>ByteArray.ext (Array.toList_inj.1 h),fun h=>by rw [h]⟩
theorem wr_last {D:List Itm}{I:Nat}(hr:rt D=true) (hI:1≤I) (hI2:I<4294967296):∀ (N:Nat) (b:List UInt8) (p:Nat),b.length≤N→p+b.length≤65536 →
  (∀ K o,(∀ k,Tch p b.length k→K≠cky I k)→lastV K o (wrL (chs D I) I p b)=o) ∧
  ∀ k,Tch p b.length k→CnO (lastV (cky I k) (get D (cky I k)) (wrL (chs D I) I p b)) ∧
   ∀ j,j<128→bo (lastV (cky I k) (get D (cky I k)) (wrL (chs D I) I p b)) j=if p≤k*128+j∧k*128+j<p+b.length then zb b (k*128+j-p) else bo (get D (cky I k)) j:=by
 intro N;induction N with
 | zero =>
  intro b p hb _;have:b=[]:=List.eq_nil_of_length_eq_zero (by omega);subst this;rw [wrL_nil];exact⟨fun _ _ _=>rfl,fun k hk=>by have:=hk.1;simp at this⟩
 | succ N ih =>
  intro b p hb hp;by_cases hbe:b=[]
  ·subst hbe;rw [wrL_nil];exact⟨fun _ _ _=>rfl,fun k hk=>by have:=hk.1;simp at this⟩
  have hb0:0<b.length:=List.length_pos_iff.2 hbe;obtain⟨k0,hk0⟩:∃ k,p / 128=k:=⟨_,rfl⟩;obtain⟨q,hq⟩:∃ q,p%128=q:=⟨_,rfl⟩;obtain⟨n,hn⟩:∃ n,min b.length (128-q)=n:=⟨_,rfl⟩;obtain⟨c,hc⟩:∃ c,fnd (chs D I) I k0=c:=⟨_,rfl⟩;have hk9:k0<512:=by omega
  obtain⟨f1,f2,f3⟩:=fnd_get hr hI hI2 hk9;rw [hc] at f1 f2 f3;rw [wrL_go (c:=c) (q:=q) (n:=n) hbe (by rw [hk0];exact hc) hq hn];obtain⟨i1,i2⟩:=ih (b.drop n) (p+n) (by rw [List.length_drop];omega) (by rw [List.length_drop];omega);have hdl:(b.drop n).length=b.length-n:=List.length_drop;have htl:(b.take n).length=n:=by rw [List.length_take];omega
  -- the first chunk's change
  have first:∀ K o,lastV K o (if eqH (nwC c q (b.take n)) (akC c) then [] else [nwC c q (b.take n)])=if K=cky I k0 then (if eqH (nwC c q (b.take n)) (akC c) then o else ov (nwC c q (b.take n))) else o:=by
   intro K o;by_cases he:eqH (nwC c q (b.take n)) (akC c)=true
   ·rw [if_pos he,if_pos he];show o=_
    split<;>rfl
   ·rw [if_neg he,if_neg he];show (if ckey (nwC c q (b.take n))=K.data.toList then ov (nwC c q (b.take n)) else o)=_
    have:ckey (nwC c q (b.take n))=K.data.toList↔K=cky I k0:=by
     show c.k.data.toList=_↔_
     rw [f1,ba_list];exact⟨fun h=>h.symm,fun h=>h.symm⟩
    by_cases hk:K=cky I k0
    ·rw [if_pos (this.2 hk),if_pos hk]
    ·rw [if_neg (fun h=>hk (this.1 h)),if_neg hk]
  -- the chunks of the rest
  have rest:∀ k,Tch (p+n) (b.drop n).length k↔Tch p b.length k∧k≠k0:=by
   intro k;unfold Tch;rw [hdl];constructor
   ·rintro ⟨h1,h2,h3⟩;have:n=128-q:=by omega
    exact⟨⟨hb0,by omega,by omega⟩,by omega⟩
   ·rintro ⟨⟨h1,h2,h3⟩,h4⟩;exact⟨by omega,by omega,by omega⟩
  refine⟨fun K o hK=>?_,fun k hk=>?_⟩
  ·rw [lastV_app,first,if_neg (hK k0 ⟨hb0,by omega,by omega⟩)];exact i1 K o fun k h=>hK k ((rest k).1 h).1
  ·have hkl:k<512:=by have:=hk.2.2;omega
   rw [lastV_app,first];by_cases hkk:k=k0
   ·subst hkk;rw [if_pos rfl];have e1:(if eqH (nwC c q (b.take n)) (akC c) then get D (cky I k) else ov (nwC c q (b.take n)))=ov (nwC c q (b.take n)):=by
     by_cases he:eqH (nwC c q (b.take n)) (akC c)=true
     ·rw [if_pos he,← f2,eqH_iff.1 he]
     ·rw [if_neg he]
    rw [e1,i1 _ _ (fun k' h e=>by
     obtain⟨h1,h2⟩:=(rest k').1 h;have hk':k'<512:=by have:=h1.2.2;omega
     exact h2 (cky_inj hI hI2 hI hI2 hkl hk' e).2.symm)]
    refine⟨cn_nw _ _ _ (by rw [htl];omega),fun j hj=>?_⟩;rw [bo_nw c q _ hj,htl,f3];by_cases hin:q≤j∧j<q+n
    ·rw [if_pos hin,if_pos (by omega)];unfold zb;rw [List.getElem?_take,if_pos (by omega),show k*128+j-p=j-q by omega]
    ·rw [if_neg hin,if_neg (by omega)]
   ·rw [if_neg (fun e=>hkk (cky_inj hI hI2 hI hI2 hkl hk9 e).2)];obtain⟨g1,g2⟩:=i2 k ((rest k).2 ⟨hk,hkk⟩);have hr2:=((rest k).2 ⟨hk,hkk⟩);have hr3:=hr2.1;have hr4:=hr2.2.1;rw [hdl] at hr3;refine⟨g1,fun j hj=>?_⟩;rw [g2 j hj,hdl];have e1:(p+n≤k*128+j∧k*128+j<p+n+(b.length-n))↔(p≤k*128+j∧k*128+j<p+b.length):=by omega
    by_cases hin:p≤k*128+j∧k*128+j<p+b.length
    ·rw [if_pos (e1.2 hin),if_pos hin];unfold zb;rw [List.getElem?_drop,show n+(k*128+j-(p+n))=k*128+j-p by omega]
    ·rw [if_neg (fun h=>hin (e1.1 h)),if_neg hin]
end Go.Proofs.YtopepebcnaikiaaGreatDoor.Da
namespace Go.Proofs.YtopepebcnaikiaaGreatDoor.Da
open Lib (hid)
open It (Itm Ch ckey key get app lastV get_app get_iff rt rt_iff rc rc_iff UpK okC okI okKey rt_app up_app)
open Tm (cutL cutB cutL_snoc)
theorem cky_ok {I k:Nat}(hI:1≤I) (hk:k<512):okKey (cky I k)=true:=by
 obtain⟨_,_,h1,h2⟩:=Ino.wrK_pfx (kyC_ok hI hk);simp only [okKey,Bool.and_eq_true,decide_eq_true_eq];show _∧(Ino.wrK (kyC I k)).size≤48
 refine⟨?_,by omega⟩;show (Ino.wrK (kyC I k)).size≠0
 omega
theorem okC_kp {k x:ByteArray}(hk:okKey k=true) (hx:x.size≤160):okC (kpC k x)=true:=by
 have h1:=bsl (cutB x);have h2:=bsl x;have h3:=cut_len x.data.toList;rw [cutB_list] at h1;have hs:(cutB x).size≤160:=by omega
 unfold okC kpC;dsimp only;rw [hk,decide_eq_true hs];by_cases h:0<(cutB x).size
 ·rw [decide_eq_true h];rfl
 ·rw [decide_eq_false h];have:(cutB x).toList=[]:=se3 (by omega);rw [this];rfl
theorem wr_ok {D:List Itm}{I:Nat}(hr:rt D=true) (hI:1≤I) (hI2:I<4294967296):∀ (N:Nat) (b:List UInt8) (p:Nat),b.length≤N→p+b.length≤65536→∀ x∈wrL (chs D I) I p b,okC x=true:=by
 intro N;induction N with
 | zero =>
  intro b p hb _ x hx;have:b=[]:=List.eq_nil_of_length_eq_zero (by omega);subst this;rw [wrL_nil] at hx;cases hx
 | succ N ih =>
  intro b p hb hp x hx;by_cases hbe:b=[]
  ·subst hbe;rw [wrL_nil] at hx;cases hx
  have hb0:0<b.length:=List.length_pos_iff.2 hbe;obtain⟨n,hn⟩:∃ n,min b.length (128-p%128)=n:=⟨_,rfl⟩;have hk9:p / 128<512:=by omega
  obtain⟨f1,_,_⟩:=fnd_get hr hI hI2 hk9;rw [wrL_go hbe rfl rfl hn] at hx;rcases List.mem_append.1 hx with hx | hx
  ·split at hx
   ·cases hx
   ·have hx:=List.mem_singleton.1 hx;subst hx;unfold nwC;refine okC_kp (by rw [f1];exact cky_ok hI hk9) ?_;show (laidL _ _ _).toArray.size≤160
    rw [List.size_toArray,laidL_len,List.length_take];have:=bts_le (fnd (chs D I) I (p / 128));omega
  ·exact ih (b.drop n) (p+n) (by rw [List.length_drop];omega) (by rw [List.length_drop];omega) x hx
theorem btC_get {D:List Itm}{I:Nat}(hr:rt D=true) (hI:1≤I) (hI2:I<4294967296){p:Nat}(hp:p<65536):btC (chs D I) p=bo (get D (cky I (p / 128))) (p%128):=by
 have h3:=(fnd_get hr hI hI2 (show p / 128<512 by omega)).2.2 (p%128);rw [← h3];unfold btC fnd;cases hf:(chs D I).find? fun c=>decide (c.n=p / 128) with
 | none=>exact (zb_out (Nat.zero_le _)).symm
 | some c=>exact zb_bts c (by omega)
section
variable {D:List Itm}{I p:Nat}{b:List UInt8}
def wrD (D:List Itm) (I p:Nat) (b:List UInt8):List Itm:=app D (wrL (chs D I) I p b)
theorem wrD_rt (hr:rt D=true) (hI:1≤I) (hI2:I<4294967296) (hp:p+b.length≤65536):rc (wrL (chs D I) I p b)=true∧rt (wrD D I p b)=true:=by
 have h:=rc_iff.2 (wr_ok hr hI hI2 b.length b p (Nat.le_refl _) hp);exact⟨h,rt_app hr h⟩
theorem wrD_get (hr:rt D=true) (K:ByteArray):get (wrD D I p b) K=lastV K (get D K) (wrL (chs D I) I p b):=get_app K _ (rt_iff.1 hr).1
theorem wrD_far (hr:rt D=true) (hI:1≤I) (hI2:I<4294967296) (hp:p+b.length≤65536){K:ByteArray}(hK:∀ k,Tch p b.length k→K≠cky I k):get (wrD D I p b) K=get D K:=by
 rw [wrD_get hr];exact (wr_last hr hI hI2 b.length b p (Nat.le_refl _) hp).1 K _ hK
theorem wrD_cn (hr:rt D=true) (hI:1≤I) (hI2:I<4294967296) (hp:p+b.length≤65536){k:Nat}(hk:Tch p b.length k):CnO (get (wrD D I p b) (cky I k)):=by
 rw [wrD_get hr];exact ((wr_last hr hI hI2 b.length b p (Nat.le_refl _) hp).2 k hk).1
theorem wrD_bo (hr:rt D=true) (hI:1≤I) (hI2:I<4294967296) (hp:p+b.length≤65536){k j:Nat}(hk:k<512) (hj:j<128) :
  bo (get (wrD D I p b) (cky I k)) j=if p≤k*128+j∧k*128+j<p+b.length then zb b (k*128+j-p) else bo (get D (cky I k)) j:=by
 by_cases ht:Tch p b.length k
 ·rw [wrD_get hr];exact ((wr_last hr hI hI2 b.length b p (Nat.le_refl _) hp).2 k ht).2 j hj
 ·rw [wrD_far hr hI hI2 hp (fun k' h e=>ht (by
   have hk':k'<512:=by have:=h.2.2;omega
   rw [(cky_inj hI hI2 hI hI2 hk hk' e).2];exact h)),if_neg]
  rintro ⟨h1,h2⟩;exact ht ⟨by omega,by omega,by omega⟩
theorem wrD_bt (hr:rt D=true) (hI:1≤I) (hI2:I<4294967296) (hp:p+b.length≤65536){P:Nat}(hP:P<65536) :
  btC (chs (wrD D I p b) I) P=if p≤P∧P<p+b.length then zb b (P-p) else btC (chs D I) P:=by
 rw [btC_get (wrD_rt hr hI hI2 hp).2 hI hI2 hP,btC_get hr hI hI2 hP,wrD_bo hr hI hI2 hp (by omega) (by omega),show P / 128*128+P%128=P by omega]
end
end Go.Proofs.YtopepebcnaikiaaGreatDoor.Da
namespace Go.Proofs.YtopepebcnaikiaaGreatDoor.It
open Lib (hid)
open Ar Rg St
theorem don_len (c:Ch):∀ (D:List Itm) (put:Bool),(donL c put D).length≤D.length+1
 | [],put=>by cases put<;>simp [donL]
 | x::r,true=>by
  have:=don_len c r true;rw [donL_true];exact Nat.le_trans (List.length_filter_le _ _) (by simp)
 | x::r,false=>by
  rw [donL];by_cases h:lt (key x) (ckey c)=true
  ·rw [h];have:=don_len c r false;have h2:(if key x=ckey c then [] else [x]).length≤1:=by split<;>simp
   simp only [Bool.not_true,Bool.and_false,Bool.false_eq_true,if_false,List.nil_append,List.length_append,Bool.or_false,List.length_cons];omega
  ·have h:lt (key x) (ckey c)=false:=by simpa using h
   rw [h,show (false||!false)=true from rfl,donL_true];have h1:=List.length_filter_le (fun x=>decide (key x≠ckey c)) r;have h2:(if key x=ckey c then [] else [x]).length≤1:=by split<;>simp
   simp only [Bool.not_false,Bool.and_true,if_true,List.length_append,List.length_cons,List.length_nil];omega
theorem app_len:∀ (C:List Ch) (D:List Itm),(app D C).length≤D.length+C.length
 | [],D=>by simp [app]
 | c::C,D=>by
  rw [app_cons];have h1:=app_len C (don c D);have h2:(don c D).length≤D.length+1:=don_len c D _;simp only [List.length_cons];omega
end Go.Proofs.YtopepebcnaikiaaGreatDoor.It
namespace Go.Proofs.YtopepebcnaikiaaGreatDoor.Da
open Lib (hid)
open It (Itm Ch app app_len)
theorem wrL_len (D:List Ck) (I:Nat):∀ (N:Nat) (b:List UInt8) (p:Nat),b.length≤N→(wrL D I p b).length≤b.length:=by
 intro N;induction N with
 | zero =>
  intro b p hb;have:b=[]:=List.eq_nil_of_length_eq_zero (by omega);subst this;rw [wrL_nil];exact Nat.le_refl _
 | succ N ih =>
  intro b p hb;by_cases hbe:b=[]
  ·subst hbe;rw [wrL_nil];exact Nat.le_refl _
  have hb0:0<b.length:=List.length_pos_iff.2 hbe;obtain⟨n,hn⟩:∃ n,min b.length (128-p%128)=n:=⟨_,rfl⟩;rw [wrL_go hbe rfl rfl hn,List.length_append];have h1:=ih (b.drop n) (p+n) (by rw [List.length_drop];omega);rw [List.length_drop] at h1;have h2:(if eqH (nwC (fnd D I (p / 128)) (p%128) (b.take n)) (akC (fnd D I (p / 128))) then ([]:List Ch) else [nwC (fnd D I (p / 128)) (p%128) (b.take n)]).length≤1:=by split<;>simp
  omega
theorem ctL_len (D:List Ck) (z:Nat):(ctL D z).length≤D.length:=by
 unfold ctL;induction D with
 | nil=>exact Nat.le_refl _
 | cons c D ih =>
  rw [List.flatMap_cons,List.length_append,List.length_cons];have:=ctC_len z c;omega
end Go.Proofs.YtopepebcnaikiaaGreatDoor.Da
namespace Go.Proofs.YtopepebcnaikiaaGreatDoor.Fi
open Lib (hid)
open Go.ChangeShapes Go.WideShapes Go.ChangeAt Go.RowKit
open BigFrame
open Ar Rg
open Ino
open It (Itm Ch get und app dif rt rc enc er getV get_any under_any apply_any diff_any MkI MkC)
open Di (ItA wlk rgt rgt_iff numOf Vo vo pts lsX lsL up En NmA Walk_any)
open Ph (nb spX spB laX laD laN splitN lastN nameQ SpPost LaPost Nm)
open Da (wrE wrL rdE rdV ctL chs)
open Pk (nB nE tN tR tE number_any take_any)
variable {w w' wr:World}{A:Option Addr}{n c:Nat}{L:List Itm}
def CPost (w:World) (x:Int) (D:List Ch) (e:Ending) (w':World):Prop:=∃ v,e=.returned (.tuple #[v,.int .i64 x])∧MkC w w' v (if x=0 then D else [])
theorem CPost.err {x:Int}(h:x≠0) (D:List Ch) (hb:Below w.heap.size w w'):CPost w x D (.returned (.tuple #[.slice none 0 0,.int .i64 x])) w':=⟨_,rfl,by rw [if_neg h];exact Mk.nil hb⟩
theorem lit1 (hB:Below w.heap.size w wr) (k:ByteArray) (b:Bool) (v:ByteArray):MkC w (wr.alloc (.cells #[.string k,.bool b,.string v] 138)) (.slice (some ⟨wr.heap.size,0,none⟩) 1 1) [⟨k,b,v⟩] :=
 ⟨World.ownsRow_lit wr #[.string k,.bool b,.string v] 1 hB.size (by decide) rfl,hB.alloc hB.size _⟩
theorem lit2 (hB:Below w.heap.size w wr) (k:ByteArray) (b:Bool) (v:ByteArray) (k':ByteArray) (b':Bool) (v':ByteArray):MkC w (wr.alloc (.cells #[.string k,.bool b,.string v,.string k',.bool b',.string v'] 138)) (.slice (some ⟨wr.heap.size,0,none⟩) 2 2) [⟨k,b,v⟩,⟨k',b',v'⟩] :=
 ⟨World.ownsRow_lit wr #[.string k,.bool b,.string v,.string k',.bool b',.string v'] 2 hB.size (by decide) rfl,hB.alloc hB.size _⟩
theorem below_set {B g j:Nat}{w0:World}{v:Value}(h:Below B w0 w) (hg:B≤g):Below B w0 (w.setCell ⟨g,j,none⟩ v) :=
 h.trans ⟨rfl,rfl,rfl,by simp [World.setCell],fun k hk=>Below.heap_setCell w ⟨g,j,none⟩ v k (by show k≠g;omega)⟩
theorem mk_set {w0 w2:World}{g j:Nat}{u v:Value}{D:List Ch}(h:MkC w2 wr v D) (hb:Below w0.heap.size w0 w2) (hg:w0.heap.size≤g) (hg2:g<w2.heap.size):MkC w0 (wr.setCell ⟨g,j,none⟩ u) v D:=by
 have h0:=h.since hb;refine⟨h0.1.kept (row:=some g) ?_ ?_,below_set h0.2 hg⟩
 ·exact⟨rfl,rfl,rfl,by simp [World.setCell],fun k hk hne=>Below.heap_setCell wr ⟨g,j,none⟩ u k (fun e=>hne (by rw [e]))⟩
 ·refine Or.inr fun e=>?_
  have:=(h.1.lt g e).1;omega
theorem mode_any (h:VA w A n c L) (o:Op) (ho:o.lim):Calls Tryz.prog 69 #[vV A n c,vOp o] w (CPost w (ldX L o.P true) (moC L o)):=by
 by_cases h0:ldX L o.P true=0
 ·
  have HL:=hid (fun (w1:World) (hb:Below w.heap.size w w1)=>led_any (h.go hb) o.P ho.2.2.2.2.1 true);have hlt:=ldI_lt h.rg o.P true;have hlim:=ldN_lim L o.P true;have hM:=ho.2.1;unfold moC;generalize ldI L o.P true=i at *;generalize ldN L o.P true=m at *;generalize ldX L o.P true=x at *;obtain⟨oK,oP,oT,oM,oO,oN,oD⟩:=o;obtain⟨mK,mM,mL,mS,mT⟩:=m;try dsimp only at *
  subst h0;have HK:=hid (fun w=>kept_any ⟨mK,oM,mL,mS,mT⟩ i ⟨hlim.1,hM,hlim.2.2.1,hlim.2.2.2⟩ hlt w);obtain⟨q,hq⟩:∃ q,kept ⟨mK,oM,mL,mS,mT⟩ i=q:=⟨_,rfl⟩;rw [hq] at HK ⊢;obtain⟨qk,qb,qv⟩:=q;dsimp only [Sc.enc] at HK;clear h ho hlt hlim hM hq;have HN:=hid (two_new w #[.slice A n c] #[.int .u8 oK,.string oP,.string oT,.int .u16 oM,.int .u32 oO,.int .u32 oN,.string oD] 84 31)
  go_enter Tryz.func69,Tryz.ntmps69
  go_wp2_with fail
  try generalize ((w.alloc (.cells #[.slice A n c] 84)).alloc (.cells #[.int .u8 oK,.string oP,.string oT,.int .u16 oM,.int .u32 oO,.int .u32 oN,.string oD] 31))=w0 at *
  have Rv:=hid HN.out.1;have Ro:=hid HN.out.2.1;have B:=hid HN.out.2.2.1;clear HN;have cv0:=cl1 Rv.out;obtain⟨co0,co1,co2,co3,co4,co5,co6⟩:=cl7 Ro.out;refine (HL.out _ B.out).mono ?_;rintro e w1 ⟨rfl,hb⟩;clear cv0 co0 co1 co2 co3 co4 co5 co6;replace Rv:=gg Rv hb;replace Ro:=gg Ro hb;replace B:=gb B hb;have cv0:=cl1 Rv.out;obtain⟨co0,co1,co2,co3,co4,co5,co6⟩:=cl7 Ro.out;clear hb
  go_wp2_with (first|(refine new_row rfl 161 (.tmp 6) (.tmp 13) rfl rfl #[.int .u8 mK,.int .u16 mM,.int .u32 mL,.int .u32 mS,.string mT,.int .u32 i] rfl rfl (by kernel_rfl) rfl (row6 _ _ _ _ _ _) ?_;intro w2 M;have Gd:=hid B.out.size;have Dd_v:=hid Rv.out.lt;have Dd_o:=hid Ro.out.lt;clear cv0 co0 co1 co2 co3 co4 co5 co6;replace Rv:=gg Rv M.2.1;replace Ro:=gg Ro M.2.1;replace B:=gb B M.2.1;have Rd:=hid M.1;have cv0:=cl1 Rv.out;obtain⟨co0,co1,co2,co3,co4,co5,co6⟩:=cl7 Ro.out;obtain⟨cd0,cd1,cd2,cd3,cd4,cd5⟩:=cl6 Rd.out;clear M;have fz:=frozen_of_row w2 (w1.heap.size) 1 _ _ Rd.out))
  clear fz cv0 co0 co1 co2 co3 co4 co5 co6 cd0 cd1 cd2 cd3 cd4 cd5;have hs:=below_set (v:=.int .u16 oM) B.out (g:=w1.heap.size) (j:=1) Gd.out;replace Rv:=hid (Rv.out.off (g':=w1.heap.size) (j:=1) (.int .u16 oM) (Nat.ne_of_lt Dd_v.out));replace Ro:=hid (Ro.out.off (g':=w1.heap.size) (j:=1) (.int .u16 oM) (Nat.ne_of_lt Dd_o.out));replace Rd:Hid (Rw (w2.setCell ⟨w1.heap.size,1,none⟩ (.int .u16 oM)) (w1.heap.size) #[.int .u8 mK,.int .u16 oM,.int .u32 mL,.int .u32 mS,.string mT,.int .u32 i] 161):=hid (Rd.out.put 1 (.int .u16 oM));replace B:=hid hs;clear hs;generalize w2.setCell ⟨w1.heap.size,1,none⟩ (.int .u16 oM)=w3 at *;have cv0:=cl1 Rv.out;obtain⟨co0,co1,co2,co3,co4,co5,co6⟩:=cl7 Ro.out;obtain⟨cd0,cd1,cd2,cd3,cd4,cd5⟩:=cl6 Rd.out
  go_wp2_with (first|(refine wpList_load_row rfl 161 (.tmp 22) rfl (w1.heap.size) rfl 161 #[.int .u8 mK,.int .u16 oM,.int .u32 mL,.int .u32 mS,.string mT,.int .u32 i] (0,0) _ Rd.out Tryz.underlying161 rfl (by kernel_rfl) ?_)|(go_at_call 102;refine (HK.out _).mono ?_;rintro e w4 ⟨rfl,hb⟩;clear cv0 co0 co1 co2 co3 co4 co5 co6 cd0 cd1 cd2 cd3 cd4 cd5;replace Rv:=gg Rv hb;replace Ro:=gg Ro hb;replace Rd:=gg Rd hb;replace B:=gb B hb;have cv0:=cl1 Rv.out;obtain⟨co0,co1,co2,co3,co4,co5,co6⟩:=cl7 Ro.out;obtain⟨cd0,cd1,cd2,cd3,cd4,cd5⟩:=cl6 Rd.out;clear hb))
  go_ret2
  exact⟨_,rfl,lit1 B.out qk qb qv⟩
 ·
  have HL:=hid (fun (w1:World) (hb:Below w.heap.size w w1)=>led_any (h.go hb) o.P ho.2.2.2.2.1 true);have hlt:=ldI_lt h.rg o.P true;have hlim:=ldN_lim L o.P true;have hM:=ho.2.1;unfold moC;generalize ldI L o.P true=i at *;generalize ldN L o.P true=m at *;generalize ldX L o.P true=x at *;obtain⟨oK,oP,oT,oM,oO,oN,oD⟩:=o;obtain⟨mK,mM,mL,mS,mT⟩:=m;try dsimp only at *
  have e5:=ne0 h0;have HE:=hid h0;clear h ho hlt hlim hM h0;have HN:=hid (two_new w #[.slice A n c] #[.int .u8 oK,.string oP,.string oT,.int .u16 oM,.int .u32 oO,.int .u32 oN,.string oD] 84 31)
  go_enter Tryz.func69,Tryz.ntmps69
  go_wp2_with fail
  try generalize ((w.alloc (.cells #[.slice A n c] 84)).alloc (.cells #[.int .u8 oK,.string oP,.string oT,.int .u16 oM,.int .u32 oO,.int .u32 oN,.string oD] 31))=w0 at *
  have Rv:=hid HN.out.1;have Ro:=hid HN.out.2.1;have B:=hid HN.out.2.2.1;clear HN;have cv0:=cl1 Rv.out;obtain⟨co0,co1,co2,co3,co4,co5,co6⟩:=cl7 Ro.out;refine (HL.out _ B.out).mono ?_;rintro e w1 ⟨rfl,hb⟩;clear cv0 co0 co1 co2 co3 co4 co5 co6;replace Rv:=gg Rv hb;replace Ro:=gg Ro hb;replace B:=gb B hb;have cv0:=cl1 Rv.out;obtain⟨co0,co1,co2,co3,co4,co5,co6⟩:=cl7 Ro.out;clear hb
  go_wp2_with (first|(refine new_row rfl 161 (.tmp 6) (.tmp 13) rfl rfl #[.int .u8 mK,.int .u16 mM,.int .u32 mL,.int .u32 mS,.string mT,.int .u32 i] rfl rfl (by kernel_rfl) rfl (row6 _ _ _ _ _ _) ?_;intro w2 M;clear cv0 co0 co1 co2 co3 co4 co5 co6;replace Rv:=gg Rv M.2.1;replace Ro:=gg Ro M.2.1;replace B:=gb B M.2.1;have Rd:=hid M.1;have cv0:=cl1 Rv.out;obtain⟨co0,co1,co2,co3,co4,co5,co6⟩:=cl7 Ro.out;obtain⟨cd0,cd1,cd2,cd3,cd4,cd5⟩:=cl6 Rd.out;clear M))
  go_ret2
  exact CPost.err HE.out _ B.out
theorem setAttr_any (h:VA w A n c L) (o:Op) (ho:o.lim):Calls Tryz.prog 70 #[vV A n c,vOp o] w (CPost w (saX L o) ([⟨atK L o,true,o.D⟩])):=by
 by_cases h0:atX L o≠0
 ·
  have HA:=hid (fun (w1:World) (hb:Below w.heap.size w w1)=>attrKey_any (h.go hb) o ho);unfold saX;rw [if_pos h0];generalize atK L o=k at *;generalize atX L o=x at *;obtain⟨oK,oP,oT,oM,oO,oN,oD⟩:=o;try dsimp only at *
  have e5:=ne0 h0;have HE:=hid h0;clear h ho h0;have HN:=hid (two_new w #[.slice A n c] #[.int .u8 oK,.string oP,.string oT,.int .u16 oM,.int .u32 oO,.int .u32 oN,.string oD] 84 31)
  go_enter Tryz.func70,Tryz.ntmps70
  go_wp2_with fail
  try generalize ((w.alloc (.cells #[.slice A n c] 84)).alloc (.cells #[.int .u8 oK,.string oP,.string oT,.int .u16 oM,.int .u32 oO,.int .u32 oN,.string oD] 31))=w0 at *
  have Rv:=hid HN.out.1;have Ro:=hid HN.out.2.1;have B:=hid HN.out.2.2.1;clear HN;have cv0:=cl1 Rv.out;obtain⟨co0,co1,co2,co3,co4,co5,co6⟩:=cl7 Ro.out;refine (HA.out _ B.out).mono ?_;rintro e w1 ⟨rfl,hb⟩;clear cv0 co0 co1 co2 co3 co4 co5 co6;replace Rv:=gg Rv hb;replace Ro:=gg Ro hb;replace B:=gb B hb;have cv0:=cl1 Rv.out;obtain⟨co0,co1,co2,co3,co4,co5,co6⟩:=cl7 Ro.out;clear hb
  go_wp2
  go_ret2
  exact CPost.err HE.out _ B.out
 ·by_cases h1:64<o.D.size
  ·
   have HA:=hid (fun (w1:World) (hb:Below w.heap.size w w1)=>attrKey_any (h.go hb) o ho);unfold saX;rw [if_neg h0,if_pos h1];generalize atK L o=k at *;generalize atX L o=x at *;obtain⟨oK,oP,oT,oM,oO,oN,oD⟩:=o;try dsimp only at *
   have h0:=Decidable.not_not.1 h0;subst h0;have d1:decide ((64:Int)<(oD.size:Int))=true:=by rw [decide_eq_true_iff];omega
   clear h ho h1;have HN:=hid (two_new w #[.slice A n c] #[.int .u8 oK,.string oP,.string oT,.int .u16 oM,.int .u32 oO,.int .u32 oN,.string oD] 84 31)
   go_enter Tryz.func70,Tryz.ntmps70
   go_wp2_with fail
   try generalize ((w.alloc (.cells #[.slice A n c] 84)).alloc (.cells #[.int .u8 oK,.string oP,.string oT,.int .u16 oM,.int .u32 oO,.int .u32 oN,.string oD] 31))=w0 at *
   have Rv:=hid HN.out.1;have Ro:=hid HN.out.2.1;have B:=hid HN.out.2.2.1;clear HN;have cv0:=cl1 Rv.out;obtain⟨co0,co1,co2,co3,co4,co5,co6⟩:=cl7 Ro.out;refine (HA.out _ B.out).mono ?_;rintro e w1 ⟨rfl,hb⟩;clear cv0 co0 co1 co2 co3 co4 co5 co6;replace Rv:=gg Rv hb;replace Ro:=gg Ro hb;replace B:=gb B hb;have cv0:=cl1 Rv.out;obtain⟨co0,co1,co2,co3,co4,co5,co6⟩:=cl7 Ro.out;clear hb
   go_wp2
   go_ret2
   exact CPost.err (by decide) _ B.out
  ·
   have HA:=hid (fun (w1:World) (hb:Below w.heap.size w w1)=>attrKey_any (h.go hb) o ho);unfold saX;rw [if_neg h0,if_neg h1];generalize atK L o=k at *;generalize atX L o=x at *;obtain⟨oK,oP,oT,oM,oO,oN,oD⟩:=o;try dsimp only at *
   have h0:=Decidable.not_not.1 h0;subst h0;have d1:decide ((64:Int)<(oD.size:Int))=false:=by rw [decide_eq_false_iff_not];omega
   clear h ho h1;have HN:=hid (two_new w #[.slice A n c] #[.int .u8 oK,.string oP,.string oT,.int .u16 oM,.int .u32 oO,.int .u32 oN,.string oD] 84 31)
   go_enter Tryz.func70,Tryz.ntmps70
   go_wp2_with fail
   try generalize ((w.alloc (.cells #[.slice A n c] 84)).alloc (.cells #[.int .u8 oK,.string oP,.string oT,.int .u16 oM,.int .u32 oO,.int .u32 oN,.string oD] 31))=w0 at *
   have Rv:=hid HN.out.1;have Ro:=hid HN.out.2.1;have B:=hid HN.out.2.2.1;clear HN;have cv0:=cl1 Rv.out;obtain⟨co0,co1,co2,co3,co4,co5,co6⟩:=cl7 Ro.out;refine (HA.out _ B.out).mono ?_;rintro e w1 ⟨rfl,hb⟩;clear cv0 co0 co1 co2 co3 co4 co5 co6;replace Rv:=gg Rv hb;replace Ro:=gg Ro hb;replace B:=gb B hb;have cv0:=cl1 Rv.out;obtain⟨co0,co1,co2,co3,co4,co5,co6⟩:=cl7 Ro.out;clear hb
   go_wp2
   go_ret2
   exact⟨_,rfl,lit1 B.out k true oD⟩
theorem dropAttr_any (h:VA w A n c L) (o:Op) (ho:o.lim):Calls Tryz.prog 71 #[vV A n c,vOp o] w (CPost w (daX L o) ([⟨atK L o,false,ByteArray.empty⟩])):=by
 by_cases h0:atX L o≠0
 ·
  have HA:=hid (fun (w1:World) (hb:Below w.heap.size w w1)=>attrKey_any (h.go hb) o ho);have HG:=hid (fun (w1:World) (hb:Below w.heap.size w w1)=>get_in (h.go hb) (atK L o));unfold daX;rw [if_pos h0];generalize (get L (atK L o)).getD ⟨#[]⟩=s at *;generalize (get L (atK L o)).isSome=q at *;generalize atK L o=k at *;generalize atX L o=x at *;obtain⟨oK,oP,oT,oM,oO,oN,oD⟩:=o;try dsimp only at *
  have e5:=ne0 h0;have HE:=hid h0;clear h ho h0 HG;have HN:=hid (two_new w #[.slice A n c] #[.int .u8 oK,.string oP,.string oT,.int .u16 oM,.int .u32 oO,.int .u32 oN,.string oD] 84 31)
  go_enter Tryz.func71,Tryz.ntmps71
  go_wp2_with fail
  try generalize ((w.alloc (.cells #[.slice A n c] 84)).alloc (.cells #[.int .u8 oK,.string oP,.string oT,.int .u16 oM,.int .u32 oO,.int .u32 oN,.string oD] 31))=w0 at *
  have Rv:=hid HN.out.1;have Ro:=hid HN.out.2.1;have B:=hid HN.out.2.2.1;clear HN;have cv0:=cl1 Rv.out;obtain⟨co0,co1,co2,co3,co4,co5,co6⟩:=cl7 Ro.out;refine (HA.out _ B.out).mono ?_;rintro e w1 ⟨rfl,hb⟩;clear cv0 co0 co1 co2 co3 co4 co5 co6;replace Rv:=gg Rv hb;replace Ro:=gg Ro hb;replace B:=gb B hb;have cv0:=cl1 Rv.out;obtain⟨co0,co1,co2,co3,co4,co5,co6⟩:=cl7 Ro.out;clear hb
  go_wp2
  go_ret2
  exact CPost.err HE.out _ B.out
 ·by_cases h1:(get L (atK L o)).isSome=true
  ·
   have HA:=hid (fun (w1:World) (hb:Below w.heap.size w w1)=>attrKey_any (h.go hb) o ho);have HG:=hid (fun (w1:World) (hb:Below w.heap.size w w1)=>get_in (h.go hb) (atK L o));unfold daX;rw [if_neg h0];generalize (get L (atK L o)).getD ⟨#[]⟩=s at *;generalize (get L (atK L o)).isSome=q at *;generalize atK L o=k at *;generalize atX L o=x at *;obtain⟨oK,oP,oT,oM,oO,oN,oD⟩:=o;try dsimp only at *
   have h0:=Decidable.not_not.1 h0;subst h0;subst h1;simp only [if_true,Bool.false_eq_true,if_false] at HG ⊢;clear h ho;have HN:=hid (two_new w #[.slice A n c] #[.int .u8 oK,.string oP,.string oT,.int .u16 oM,.int .u32 oO,.int .u32 oN,.string oD] 84 31)
   go_enter Tryz.func71,Tryz.ntmps71
   go_wp2_with fail
   try generalize ((w.alloc (.cells #[.slice A n c] 84)).alloc (.cells #[.int .u8 oK,.string oP,.string oT,.int .u16 oM,.int .u32 oO,.int .u32 oN,.string oD] 31))=w0 at *
   have Rv:=hid HN.out.1;have Ro:=hid HN.out.2.1;have B:=hid HN.out.2.2.1;clear HN;have cv0:=cl1 Rv.out;obtain⟨co0,co1,co2,co3,co4,co5,co6⟩:=cl7 Ro.out;refine (HA.out _ B.out).mono ?_;rintro e w1 ⟨rfl,hb⟩;clear cv0 co0 co1 co2 co3 co4 co5 co6;replace Rv:=gg Rv hb;replace Ro:=gg Ro hb;replace B:=gb B hb;have cv0:=cl1 Rv.out;obtain⟨co0,co1,co2,co3,co4,co5,co6⟩:=cl7 Ro.out;clear hb
   go_wp2_with (first|(go_at_call 99;refine (HG.out _ B.out).mono ?_;rintro e w2 ⟨rfl,hb⟩;clear cv0 co0 co1 co2 co3 co4 co5 co6;replace Rv:=gg Rv hb;replace Ro:=gg Ro hb;replace B:=gb B hb;have cv0:=cl1 Rv.out;obtain⟨co0,co1,co2,co3,co4,co5,co6⟩:=cl7 Ro.out;clear hb))
   go_ret2
   exact⟨_,rfl,lit1 B.out k false ⟨#[]⟩⟩
  ·have h1:(get L (atK L o)).isSome=false:=by simpa using h1
   have HA:=hid (fun (w1:World) (hb:Below w.heap.size w w1)=>attrKey_any (h.go hb) o ho);have HG:=hid (fun (w1:World) (hb:Below w.heap.size w w1)=>get_in (h.go hb) (atK L o));unfold daX;rw [if_neg h0];generalize (get L (atK L o)).getD ⟨#[]⟩=s at *;generalize (get L (atK L o)).isSome=q at *;generalize atK L o=k at *;generalize atX L o=x at *;obtain⟨oK,oP,oT,oM,oO,oN,oD⟩:=o;try dsimp only at *
   have h0:=Decidable.not_not.1 h0;subst h0;subst h1;simp only [if_true,Bool.false_eq_true,if_false] at HG ⊢;clear h ho;have HN:=hid (two_new w #[.slice A n c] #[.int .u8 oK,.string oP,.string oT,.int .u16 oM,.int .u32 oO,.int .u32 oN,.string oD] 84 31)
   go_enter Tryz.func71,Tryz.ntmps71
   go_wp2_with fail
   try generalize ((w.alloc (.cells #[.slice A n c] 84)).alloc (.cells #[.int .u8 oK,.string oP,.string oT,.int .u16 oM,.int .u32 oO,.int .u32 oN,.string oD] 31))=w0 at *
   have Rv:=hid HN.out.1;have Ro:=hid HN.out.2.1;have B:=hid HN.out.2.2.1;clear HN;have cv0:=cl1 Rv.out;obtain⟨co0,co1,co2,co3,co4,co5,co6⟩:=cl7 Ro.out;refine (HA.out _ B.out).mono ?_;rintro e w1 ⟨rfl,hb⟩;clear cv0 co0 co1 co2 co3 co4 co5 co6;replace Rv:=gg Rv hb;replace Ro:=gg Ro hb;replace B:=gb B hb;have cv0:=cl1 Rv.out;obtain⟨co0,co1,co2,co3,co4,co5,co6⟩:=cl7 Ro.out;clear hb
   go_wp2_with (first|(go_at_call 99;refine (HG.out _ B.out).mono ?_;rintro e w2 ⟨rfl,hb⟩;clear cv0 co0 co1 co2 co3 co4 co5 co6;replace Rv:=gg Rv hb;replace Ro:=gg Ro hb;replace B:=gb B hb;have cv0:=cl1 Rv.out;obtain⟨co0,co1,co2,co3,co4,co5,co6⟩:=cl7 Ro.out;clear hb))
   go_ret2
   exact CPost.err (by decide) _ B.out
theorem fn_0 {p:ByteArray}{fo:Bool}(h:fnX L p fo=0):fnI L p fo=ldI L p fo∧fnN L p fo=ldN L p fo∧ldX L p fo=0:=by
 refine⟨by unfold fnI;rw [if_pos h],by unfold fnN;rw [if_pos h],?_⟩;unfold fnX at h;split at h
 ·cases h
 ·exact h
theorem fr_0 {p:ByteArray}(h:frX L p=0):fr L p=pl L p∧plX L p=0:=by
 refine⟨by unfold fr;rw [if_pos h],?_⟩;unfold frX at h;split at h
 ·cases h
 ·exact h
theorem nm_0 {p:ByteArray}(h:nmX L p=0):nm L p=pl L p∧plX L p=0∧(pl L p).i≠0:=by
 refine⟨by unfold nm;rw [if_pos h],?_⟩;unfold nmX at h;split at h
 ·cases h
 ·rename_i h1;exact⟨h,fun h2=>h1 ⟨h,h2⟩⟩
theorem hard_any (h:VA w A n c L) (o:Op) (ho:o.lim):Calls Tryz.prog 63 #[vV A n c,vOp o] w (CPost w (hdX L o) (hdC L o)):=by
 by_cases h0:fnX L o.P false≠0
 ·
  have HL:=hid (fun (w1:World) (hb:Below w.heap.size w w1)=>notDir_any (h.go hb) o.P ho.2.2.2.2.1 false);have HF:=hid (fun (w1:World) (hb:Below w.heap.size w w1)=>free_any (h.go hb) o.T ho.2.2.2.2.2.1);unfold hdX;rw [if_pos h0];generalize frX L o.T=y at *;generalize fr L o.T=q at *;generalize fnI L o.P false=i at *;generalize fnN L o.P false=m at *;generalize fnX L o.P false=x at *;obtain⟨oK,oP,oT,oM,oO,oN,oD⟩:=o;obtain⟨mK,mM,mL,mS,mT⟩:=m;obtain⟨qd,qk,qi⟩:=q;try dsimp only at *
  have e5:=ne0 h0;have HE:=hid h0;clear h ho h0 HF;have HN:=hid (two_new w #[.slice A n c] #[.int .u8 oK,.string oP,.string oT,.int .u16 oM,.int .u32 oO,.int .u32 oN,.string oD] 84 31)
  go_enter Tryz.func63,Tryz.ntmps63
  go_wp2_with fail
  try generalize ((w.alloc (.cells #[.slice A n c] 84)).alloc (.cells #[.int .u8 oK,.string oP,.string oT,.int .u16 oM,.int .u32 oO,.int .u32 oN,.string oD] 31))=w0 at *
  have Rv:=hid HN.out.1;have Ro:=hid HN.out.2.1;have B:=hid HN.out.2.2.1;clear HN;have cv0:=cl1 Rv.out;obtain⟨co0,co1,co2,co3,co4,co5,co6⟩:=cl7 Ro.out;refine (HL.out _ B.out).mono ?_;rintro e w1 ⟨rfl,hb⟩;clear cv0 co0 co1 co2 co3 co4 co5 co6;replace Rv:=gg Rv hb;replace Ro:=gg Ro hb;replace B:=gb B hb;have cv0:=cl1 Rv.out;obtain⟨co0,co1,co2,co3,co4,co5,co6⟩:=cl7 Ro.out;clear hb
  go_wp2_with (first|(refine new_row rfl 161 (.tmp 6) (.tmp 14) rfl rfl #[.int .u8 mK,.int .u16 mM,.int .u32 mL,.int .u32 mS,.string mT,.int .u32 i] rfl rfl (by kernel_rfl) rfl (row6 _ _ _ _ _ _) ?_;intro w2 M;clear cv0 co0 co1 co2 co3 co4 co5 co6;replace Rv:=gg Rv M.2.1;replace Ro:=gg Ro M.2.1;replace B:=gb B M.2.1;have Rd:=hid M.1;have cv0:=cl1 Rv.out;obtain⟨co0,co1,co2,co3,co4,co5,co6⟩:=cl7 Ro.out;obtain⟨cd0,cd1,cd2,cd3,cd4,cd5⟩:=cl6 Rd.out;clear M))
  go_ret2
  exact CPost.err HE.out _ B.out
 ·by_cases h1:1024≤(ldN L o.P false).L
  ·
   have HL:=hid (fun (w1:World) (hb:Below w.heap.size w w1)=>notDir_any (h.go hb) o.P ho.2.2.2.2.1 false);have HF:=hid (fun (w1:World) (hb:Below w.heap.size w w1)=>free_any (h.go hb) o.T ho.2.2.2.2.2.1);unfold hdX;rw [if_neg h0];have h0:=Decidable.not_not.1 h0;obtain⟨f1,f2,f3⟩:=fn_0 h0;have hlt:=ldI_lt h.rg o.P false;have hlim:=ldN_lim L o.P false;rw [if_pos h1];rw [← f2] at h1;generalize frX L o.T=y at *;generalize fr L o.T=q at *;generalize fnI L o.P false=i at *;generalize fnN L o.P false=m at *;generalize fnX L o.P false=x at *;obtain⟨oK,oP,oT,oM,oO,oN,oD⟩:=o;obtain⟨mK,mM,mL,mS,mT⟩:=m;obtain⟨qd,qk,qi⟩:=q;try dsimp only at *
   subst h0;have d1:decide ((1024:Int)≤(mL:Int))=true:=by rw [decide_eq_true_iff];omega
   clear h ho h1 f1 f2 f3 hlt hlim HF;have HN:=hid (two_new w #[.slice A n c] #[.int .u8 oK,.string oP,.string oT,.int .u16 oM,.int .u32 oO,.int .u32 oN,.string oD] 84 31)
   go_enter Tryz.func63,Tryz.ntmps63
   go_wp2_with fail
   try generalize ((w.alloc (.cells #[.slice A n c] 84)).alloc (.cells #[.int .u8 oK,.string oP,.string oT,.int .u16 oM,.int .u32 oO,.int .u32 oN,.string oD] 31))=w0 at *
   have Rv:=hid HN.out.1;have Ro:=hid HN.out.2.1;have B:=hid HN.out.2.2.1;clear HN;have cv0:=cl1 Rv.out;obtain⟨co0,co1,co2,co3,co4,co5,co6⟩:=cl7 Ro.out;refine (HL.out _ B.out).mono ?_;rintro e w1 ⟨rfl,hb⟩;clear cv0 co0 co1 co2 co3 co4 co5 co6;replace Rv:=gg Rv hb;replace Ro:=gg Ro hb;replace B:=gb B hb;have cv0:=cl1 Rv.out;obtain⟨co0,co1,co2,co3,co4,co5,co6⟩:=cl7 Ro.out;clear hb
   go_wp2_with (first|(refine new_row rfl 161 (.tmp 6) (.tmp 14) rfl rfl #[.int .u8 mK,.int .u16 mM,.int .u32 mL,.int .u32 mS,.string mT,.int .u32 i] rfl rfl (by kernel_rfl) rfl (row6 _ _ _ _ _ _) ?_;intro w2 M;clear cv0 co0 co1 co2 co3 co4 co5 co6;replace Rv:=gg Rv M.2.1;replace Ro:=gg Ro M.2.1;replace B:=gb B M.2.1;have Rd:=hid M.1;have cv0:=cl1 Rv.out;obtain⟨co0,co1,co2,co3,co4,co5,co6⟩:=cl7 Ro.out;obtain⟨cd0,cd1,cd2,cd3,cd4,cd5⟩:=cl6 Rd.out;clear M))
   go_ret2
   exact CPost.err (by decide) _ B.out
  ·by_cases h2:frX L o.T=0
   ·
    have HL:=hid (fun (w1:World) (hb:Below w.heap.size w w1)=>notDir_any (h.go hb) o.P ho.2.2.2.2.1 false);have HF:=hid (fun (w1:World) (hb:Below w.heap.size w w1)=>free_any (h.go hb) o.T ho.2.2.2.2.2.1);unfold hdX;rw [if_neg h0];have h0:=Decidable.not_not.1 h0;obtain⟨f1,f2,f3⟩:=fn_0 h0;have hlt:=ldI_lt h.rg o.P false;have hlim:=ldN_lim L o.P false;rw [if_neg h1];unfold hdC;rw [← f2,← f1];rw [← f2] at h1 hlim;rw [← f1] at hlt;obtain⟨g1,g2⟩:=fr_0 h2;rw [← g1];generalize frX L o.T=y at *;generalize fr L o.T=q at *;generalize fnI L o.P false=i at *;generalize fnN L o.P false=m at *;generalize fnX L o.P false=x at *;obtain⟨oK,oP,oT,oM,oO,oN,oD⟩:=o;obtain⟨mK,mM,mL,mS,mT⟩:=m;obtain⟨qd,qk,qi⟩:=q;try dsimp only at *
    subst h0;subst h2;have d1:decide ((1024:Int)≤(mL:Int))=false:=by rw [decide_eq_false_iff_not];omega
    obtain⟨l1,hl1⟩:∃ l1,mL+1=l1:=⟨_,rfl⟩;have hw1:IntKind.u32.wrap ((mL:Int)+1)=(l1:Int):=by rw [← hl1,IntKind.wrap_u32];omega
    rw [hl1];have HK:=hid (fun w=>kept_any ⟨mK,mM,l1,mS,mT⟩ i ⟨hlim.1,hlim.2.1,by show l1<4294967296;omega,hlim.2.2.2⟩ hlt w);have HM:=hid (fun w=>names_any ⟨qd,qk,qi⟩ i hlt w);obtain⟨a,ha⟩:∃ a,kept ⟨mK,mM,l1,mS,mT⟩ i=a:=⟨_,rfl⟩;obtain⟨b,hb⟩:∃ b,names ⟨qd,qk,qi⟩ i=b:=⟨_,rfl⟩;rw [ha] at HK ⊢;rw [hb] at HM ⊢;obtain⟨ak,ab,av⟩:=a;obtain⟨bk,bb,bv⟩:=b;dsimp only [Sc.enc] at HK HM;clear h ho h1 f1 f2 f3 hlt hlim ha hb g1 g2 hl1;have HN:=hid (two_new w #[.slice A n c] #[.int .u8 oK,.string oP,.string oT,.int .u16 oM,.int .u32 oO,.int .u32 oN,.string oD] 84 31)
    go_enter Tryz.func63,Tryz.ntmps63
    go_wp2_with fail
    try generalize ((w.alloc (.cells #[.slice A n c] 84)).alloc (.cells #[.int .u8 oK,.string oP,.string oT,.int .u16 oM,.int .u32 oO,.int .u32 oN,.string oD] 31))=w0 at *
    have Rv:=hid HN.out.1;have Ro:=hid HN.out.2.1;have B:=hid HN.out.2.2.1;clear HN;have cv0:=cl1 Rv.out;obtain⟨co0,co1,co2,co3,co4,co5,co6⟩:=cl7 Ro.out;refine (HL.out _ B.out).mono ?_;rintro e w1 ⟨rfl,hb⟩;clear cv0 co0 co1 co2 co3 co4 co5 co6;replace Rv:=gg Rv hb;replace Ro:=gg Ro hb;replace B:=gb B hb;have cv0:=cl1 Rv.out;obtain⟨co0,co1,co2,co3,co4,co5,co6⟩:=cl7 Ro.out;clear hb
    go_wp2_with (first|(refine new_row rfl 161 (.tmp 6) (.tmp 14) rfl rfl #[.int .u8 mK,.int .u16 mM,.int .u32 mL,.int .u32 mS,.string mT,.int .u32 i] rfl rfl (by kernel_rfl) rfl (row6 _ _ _ _ _ _) ?_;intro w2 M;have Gd:=hid B.out.size;have Dd_v:=hid Rv.out.lt;have Dd_o:=hid Ro.out.lt;clear cv0 co0 co1 co2 co3 co4 co5 co6;replace Rv:=gg Rv M.2.1;replace Ro:=gg Ro M.2.1;replace B:=gb B M.2.1;have Rd:=hid M.1;have cv0:=cl1 Rv.out;obtain⟨co0,co1,co2,co3,co4,co5,co6⟩:=cl7 Ro.out;obtain⟨cd0,cd1,cd2,cd3,cd4,cd5⟩:=cl6 Rd.out;clear M)|(refine wpList_load_row rfl 84 (.tmp 24) rfl (w.heap.size) rfl 84 #[.slice A n c] (0,0) _ Rv.out Tryz.underlying84 rfl (by kernel_rfl) ?_)|(go_at_call 100;refine (HF.out _ B.out).mono ?_;rintro e w3 ⟨rfl,hb⟩;clear cv0 co0 co1 co2 co3 co4 co5 co6 cd0 cd1 cd2 cd3 cd4 cd5;replace Rv:=gg Rv hb;replace Ro:=gg Ro hb;replace Rd:=gg Rd hb;replace B:=gb B hb;have cv0:=cl1 Rv.out;obtain⟨co0,co1,co2,co3,co4,co5,co6⟩:=cl7 Ro.out;obtain⟨cd0,cd1,cd2,cd3,cd4,cd5⟩:=cl6 Rd.out;clear hb)|(refine new_row rfl 170 (.tmp 8) (.tmp 28) rfl rfl #[.int .u32 qd,.string qk,.int .u32 qi] rfl rfl (by kernel_rfl) rfl (row3 _ _ _) ?_;intro w4 M;have Dq_d:=hid Rd.out.lt;clear cv0 co0 co1 co2 co3 co4 co5 co6 cd0 cd1 cd2 cd3 cd4 cd5;replace Rv:=gg Rv M.2.1;replace Ro:=gg Ro M.2.1;replace Rd:=gg Rd M.2.1;replace B:=gb B M.2.1;have Rq:=hid M.1;have cv0:=cl1 Rv.out;obtain⟨co0,co1,co2,co3,co4,co5,co6⟩:=cl7 Ro.out;obtain⟨cd0,cd1,cd2,cd3,cd4,cd5⟩:=cl6 Rd.out;obtain⟨cq0,cq1,cq2⟩:=cl3 Rq.out;clear M;have fz:=frozen_of_row w4 (w1.heap.size) 2 _ _ Rd.out))
    clear fz cv0 co0 co1 co2 co3 co4 co5 co6 cd0 cd1 cd2 cd3 cd4 cd5 cq0 cq1 cq2;have hs:=below_set (v:=.int .u32 l1) B.out (g:=w1.heap.size) (j:=2) Gd.out;replace Rv:=hid (Rv.out.off (g':=w1.heap.size) (j:=2) (.int .u32 l1) (Nat.ne_of_lt Dd_v.out));replace Ro:=hid (Ro.out.off (g':=w1.heap.size) (j:=2) (.int .u32 l1) (Nat.ne_of_lt Dd_o.out));replace Rq:=hid (Rq.out.off (g':=w1.heap.size) (j:=2) (.int .u32 l1) (Nat.ne_of_gt Dq_d.out));replace Rd:Hid (Rw (w4.setCell ⟨w1.heap.size,2,none⟩ (.int .u32 l1)) (w1.heap.size) #[.int .u8 mK,.int .u16 mM,.int .u32 l1,.int .u32 mS,.string mT,.int .u32 i] 161):=hid (Rd.out.put 2 (.int .u32 l1));replace B:=hid hs;clear hs;generalize w4.setCell ⟨w1.heap.size,2,none⟩ (.int .u32 l1)=w5 at *;have cv0:=cl1 Rv.out;obtain⟨co0,co1,co2,co3,co4,co5,co6⟩:=cl7 Ro.out;obtain⟨cd0,cd1,cd2,cd3,cd4,cd5⟩:=cl6 Rd.out;obtain⟨cq0,cq1,cq2⟩:=cl3 Rq.out;refine wp_region_S (fun w'=>Below w5.heap.size w5 w') 6 (by kernel_rfl) (by kernel_rfl) (by kernel_rfl) ((Below.refl _ _).drew) ?_;simp only [List.take_succ_cons,List.take_zero];refine wpG_val (.agg #[.int .u8 mK,.int .u16 mM,.int .u32 l1,.int .u32 mS,.string mT,.int .u32 i]) rfl (by rfl) (fun w' hSw=>load_all 161 (.tmp 6) rfl (w1.heap.size) rfl (Rd.out.go hSw) Tryz.underlying161 rfl (by kernel_rfl)) ?_;simp only [Gw1ighta,Gw1ightb,Gw1ightc];refine wpG_call (.agg #[.string ak,.bool ab,.string av]) 102 #[.agg #[.int .u8 mK,.int .u16 mM,.int .u32 l1,.int .u32 mS,.string mT,.int .u32 i]] rfl (by rfl) (fun w'=>by go_simp) (fun w' hSw=>(HK.out w').mono fun e w2 h=>⟨h.1,hSw.trans (h.2.mono hSw.size)⟩) ?_;simp only [Gw1ighta,Gw1ightb,Gw1ightc];refine wpG_val (.agg #[.int .u32 qd,.string qk,.int .u32 qi]) rfl (by rfl) (fun w' hSw=>load_all 170 (.tmp 8) rfl (w3.heap.size) rfl (Rq.out.go hSw) Tryz.underlying170 rfl (by kernel_rfl)) ?_;simp only [Gw1ighta,Gw1ightb,Gw1ightc];refine wpG_val (.pointer (some ⟨w1.heap.size,5,none⟩)) rfl (by rfl) (fun w' hSw=>by go_simp) ?_;simp only [Gw1ighta,Gw1ightb,Gw1ightc];refine wpG_val (.int .u32 i) rfl (by rfl) (fun w' hSw=>by have c:=(Rd.out.go hSw).cell 5 _ rfl;go_simp) ?_;simp only [Gw1ighta,Gw1ightb,Gw1ightc];refine wpG_call (.agg #[.string bk,.bool bb,.string bv]) 103 #[.agg #[.int .u32 qd,.string qk,.int .u32 qi],.int .u32 i] rfl (by rfl) (fun w'=>by go_simp) (fun w' hSw=>(HM.out w').mono fun e w2 h=>⟨h.1,hSw.trans (h.2.mono hSw.size)⟩) ?_;simp only [Gw1ighta,Gw1ightb,Gw1ightc];refine wpG_nil ?_;intro w6 hb;simp only [List.drop_succ_cons,List.drop_zero];clear cv0 co0 co1 co2 co3 co4 co5 co6 cd0 cd1 cd2 cd3 cd4 cd5 cq0 cq1 cq2;replace Rv:=gg Rv hb;replace Ro:=gg Ro hb;replace Rd:=gg Rd hb;replace Rq:=gg Rq hb;replace B:=gb B hb;have cv0:=cl1 Rv.out;obtain⟨co0,co1,co2,co3,co4,co5,co6⟩:=cl7 Ro.out;obtain⟨cd0,cd1,cd2,cd3,cd4,cd5⟩:=cl6 Rd.out;obtain⟨cq0,cq1,cq2⟩:=cl3 Rq.out;clear hb
    go_wp2
    go_ret2
    exact⟨_,rfl,lit2 B.out ak ab av bk bb bv⟩
   ·
    have HL:=hid (fun (w1:World) (hb:Below w.heap.size w w1)=>notDir_any (h.go hb) o.P ho.2.2.2.2.1 false);have HF:=hid (fun (w1:World) (hb:Below w.heap.size w w1)=>free_any (h.go hb) o.T ho.2.2.2.2.2.1);unfold hdX;rw [if_neg h0];have h0:=Decidable.not_not.1 h0;obtain⟨f1,f2,f3⟩:=fn_0 h0;have hlt:=ldI_lt h.rg o.P false;have hlim:=ldN_lim L o.P false;rw [if_neg h1];unfold hdC;rw [← f2,← f1];rw [← f2] at h1 hlim;rw [← f1] at hlt;generalize frX L o.T=y at *;generalize fr L o.T=q at *;generalize fnI L o.P false=i at *;generalize fnN L o.P false=m at *;generalize fnX L o.P false=x at *;obtain⟨oK,oP,oT,oM,oO,oN,oD⟩:=o;obtain⟨mK,mM,mL,mS,mT⟩:=m;obtain⟨qd,qk,qi⟩:=q;try dsimp only at *
    subst h0;have d1:decide ((1024:Int)≤(mL:Int))=false:=by rw [decide_eq_false_iff_not];omega
    have e5:=ne0 h2;have HE:=hid h2;clear h ho h1 h2 f1 f2 f3 hlt hlim;have HN:=hid (two_new w #[.slice A n c] #[.int .u8 oK,.string oP,.string oT,.int .u16 oM,.int .u32 oO,.int .u32 oN,.string oD] 84 31)
    go_enter Tryz.func63,Tryz.ntmps63
    go_wp2_with fail
    try generalize ((w.alloc (.cells #[.slice A n c] 84)).alloc (.cells #[.int .u8 oK,.string oP,.string oT,.int .u16 oM,.int .u32 oO,.int .u32 oN,.string oD] 31))=w0 at *
    have Rv:=hid HN.out.1;have Ro:=hid HN.out.2.1;have B:=hid HN.out.2.2.1;clear HN;have cv0:=cl1 Rv.out;obtain⟨co0,co1,co2,co3,co4,co5,co6⟩:=cl7 Ro.out;refine (HL.out _ B.out).mono ?_;rintro e w1 ⟨rfl,hb⟩;clear cv0 co0 co1 co2 co3 co4 co5 co6;replace Rv:=gg Rv hb;replace Ro:=gg Ro hb;replace B:=gb B hb;have cv0:=cl1 Rv.out;obtain⟨co0,co1,co2,co3,co4,co5,co6⟩:=cl7 Ro.out;clear hb
    go_wp2_with (first|(refine new_row rfl 161 (.tmp 6) (.tmp 14) rfl rfl #[.int .u8 mK,.int .u16 mM,.int .u32 mL,.int .u32 mS,.string mT,.int .u32 i] rfl rfl (by kernel_rfl) rfl (row6 _ _ _ _ _ _) ?_;intro w2 M;clear cv0 co0 co1 co2 co3 co4 co5 co6;replace Rv:=gg Rv M.2.1;replace Ro:=gg Ro M.2.1;replace B:=gb B M.2.1;have Rd:=hid M.1;have cv0:=cl1 Rv.out;obtain⟨co0,co1,co2,co3,co4,co5,co6⟩:=cl7 Ro.out;obtain⟨cd0,cd1,cd2,cd3,cd4,cd5⟩:=cl6 Rd.out;clear M)|(refine wpList_load_row rfl 84 (.tmp 24) rfl (w.heap.size) rfl 84 #[.slice A n c] (0,0) _ Rv.out Tryz.underlying84 rfl (by kernel_rfl) ?_)|(go_at_call 100;refine (HF.out _ B.out).mono ?_;rintro e w3 ⟨rfl,hb⟩;clear cv0 co0 co1 co2 co3 co4 co5 co6 cd0 cd1 cd2 cd3 cd4 cd5;replace Rv:=gg Rv hb;replace Ro:=gg Ro hb;replace Rd:=gg Rd hb;replace B:=gb B hb;have cv0:=cl1 Rv.out;obtain⟨co0,co1,co2,co3,co4,co5,co6⟩:=cl7 Ro.out;obtain⟨cd0,cd1,cd2,cd3,cd4,cd5⟩:=cl6 Rd.out;clear hb)|(refine new_row rfl 170 (.tmp 8) (.tmp 28) rfl rfl #[.int .u32 qd,.string qk,.int .u32 qi] rfl rfl (by kernel_rfl) rfl (row3 _ _ _) ?_;intro w4 M;clear cv0 co0 co1 co2 co3 co4 co5 co6 cd0 cd1 cd2 cd3 cd4 cd5;replace Rv:=gg Rv M.2.1;replace Ro:=gg Ro M.2.1;replace Rd:=gg Rd M.2.1;replace B:=gb B M.2.1;have Rq:=hid M.1;have cv0:=cl1 Rv.out;obtain⟨co0,co1,co2,co3,co4,co5,co6⟩:=cl7 Ro.out;obtain⟨cd0,cd1,cd2,cd3,cd4,cd5⟩:=cl6 Rd.out;obtain⟨cq0,cq1,cq2⟩:=cl3 Rq.out;clear M))
    go_ret2
    exact CPost.err HE.out _ B.out
theorem next_in (h:VA w A n c L):Calls Tryz.prog 101 #[.slice A n c] w fun e w'=>e=.returned (.tuple #[.int .u32 (nxt L:Nat),.int .i64 0])∧nxt L<4294967296∧Below w.heap.size w w':=by
 refine (Di.Next_any c h.it).mono ?_;rintro e w' ⟨j,rfl,hj,hb⟩;rw [h.rg,if_pos rfl] at hj;rw [nxt_of hj];refine⟨?_,hj.2.1,hb⟩;unfold Di.ckE;rw [h.rg];rfl
theorem create_any (h:VA w A n c L) (p:ByteArray) (hp:p.size≤1048576) (m:In) (hm:m.lim):Calls Tryz.prog 62 #[vV A n c,.string p,vI m] w (CPost w (crX L p m) (crC L p m)):=by
 by_cases h0:frX L p≠0
 ·
  have HF:=hid (fun (w1:World) (hb:Below w.heap.size w w1)=>free_any (h.go hb) p hp);have HC:=hid (fun w=>check_in m hm w);have HX:=hid (fun (w1:World) (hb:Below w.heap.size w w1)=>next_in (h.go hb));unfold crX;rw [if_pos h0];generalize frX L p=y at *;generalize fr L p=q at *;generalize chI m=z at *;obtain⟨qd,qk,qi⟩:=q;generalize nxt L=j at *;obtain⟨mK,mM,mL,mS,mT⟩:=m;unfold vI at HC ⊢;try dsimp only at *
  have e5:=ne0 h0;have HE:=hid h0;clear h hm hp h0 HX HC;have HN:=hid (two_new w #[.slice A n c] #[.int .u8 mK,.int .u16 mM,.int .u32 mL,.int .u32 mS,.string mT] 84 35)
  go_enter Tryz.func62,Tryz.ntmps62
  go_wp2_with fail
  try generalize ((w.alloc (.cells #[.slice A n c] 84)).alloc (.cells #[.int .u8 mK,.int .u16 mM,.int .u32 mL,.int .u32 mS,.string mT] 35))=w0 at *
  have Rv:=hid HN.out.1;have Rm:=hid HN.out.2.1;have B:=hid HN.out.2.2.1;clear HN;have cv0:=cl1 Rv.out;obtain⟨cm0,cm1,cm2,cm3,cm4⟩:=cl5 Rm.out;refine (HF.out _ B.out).mono ?_;rintro e w1 ⟨rfl,hb⟩;clear cv0 cm0 cm1 cm2 cm3 cm4;replace Rv:=gg Rv hb;replace Rm:=gg Rm hb;replace B:=gb B hb;have cv0:=cl1 Rv.out;obtain⟨cm0,cm1,cm2,cm3,cm4⟩:=cl5 Rm.out;clear hb
  go_wp2_with (first|(refine new_row rfl 170 (.tmp 8) (.tmp 17) rfl rfl #[.int .u32 qd,.string qk,.int .u32 qi] rfl rfl (by kernel_rfl) rfl (row3 _ _ _) ?_;intro w2 M;clear cv0 cm0 cm1 cm2 cm3 cm4;replace Rv:=gg Rv M.2.1;replace Rm:=gg Rm M.2.1;replace B:=gb B M.2.1;have Rq:=hid M.1;have cv0:=cl1 Rv.out;obtain⟨cm0,cm1,cm2,cm3,cm4⟩:=cl5 Rm.out;obtain⟨cq0,cq1,cq2⟩:=cl3 Rq.out;clear M))
  go_ret2
  exact CPost.err HE.out _ B.out
 ·by_cases h1:chI m=0
  ·
   have HF:=hid (fun (w1:World) (hb:Below w.heap.size w w1)=>free_any (h.go hb) p hp);have HC:=hid (fun w=>check_in m hm w);have HX:=hid (fun (w1:World) (hb:Below w.heap.size w w1)=>next_in (h.go hb));unfold crX;rw [if_neg h0];have h0:=Decidable.not_not.1 h0;obtain⟨g1,g2⟩:=fr_0 h0;unfold crC;rw [← g1];have HK:=hid (fun (hj:nxt L<4294967296) w=>kept_any m (nxt L) hm hj w);have HM:=hid (fun (hj:nxt L<4294967296) w=>names_any (fr L p) (nxt L) hj w);obtain⟨a,ha⟩:∃ a,kept m (nxt L)=a:=⟨_,rfl⟩;obtain⟨b,hb⟩:∃ b,names (fr L p) (nxt L)=b:=⟨_,rfl⟩;rw [ha] at HK ⊢;rw [hb] at HM ⊢;obtain⟨ak,ab,av⟩:=a;obtain⟨bk,bb,bv⟩:=b;dsimp only [Sc.enc] at HK HM;clear g1 g2 ha hb;generalize frX L p=y at *;generalize fr L p=q at *;generalize chI m=z at *;obtain⟨qd,qk,qi⟩:=q;generalize nxt L=j at *;obtain⟨mK,mM,mL,mS,mT⟩:=m;unfold vI at HC ⊢;try dsimp only at *
   subst h0;subst h1;clear h hm hp;have HN:=hid (two_new w #[.slice A n c] #[.int .u8 mK,.int .u16 mM,.int .u32 mL,.int .u32 mS,.string mT] 84 35)
   go_enter Tryz.func62,Tryz.ntmps62
   go_wp2_with fail
   try generalize ((w.alloc (.cells #[.slice A n c] 84)).alloc (.cells #[.int .u8 mK,.int .u16 mM,.int .u32 mL,.int .u32 mS,.string mT] 35))=w0 at *
   have Rv:=hid HN.out.1;have Rm:=hid HN.out.2.1;have B:=hid HN.out.2.2.1;clear HN;have cv0:=cl1 Rv.out;obtain⟨cm0,cm1,cm2,cm3,cm4⟩:=cl5 Rm.out;refine (HF.out _ B.out).mono ?_;rintro e w1 ⟨rfl,hb⟩;clear cv0 cm0 cm1 cm2 cm3 cm4;replace Rv:=gg Rv hb;replace Rm:=gg Rm hb;replace B:=gb B hb;have cv0:=cl1 Rv.out;obtain⟨cm0,cm1,cm2,cm3,cm4⟩:=cl5 Rm.out;clear hb
   go_wp2_with (first|(refine new_row rfl 170 (.tmp 8) (.tmp 17) rfl rfl #[.int .u32 qd,.string qk,.int .u32 qi] rfl rfl (by kernel_rfl) rfl (row3 _ _ _) ?_;intro w2 M;clear cv0 cm0 cm1 cm2 cm3 cm4;replace Rv:=gg Rv M.2.1;replace Rm:=gg Rm M.2.1;replace B:=gb B M.2.1;have Rq:=hid M.1;have cv0:=cl1 Rv.out;obtain⟨cm0,cm1,cm2,cm3,cm4⟩:=cl5 Rm.out;obtain⟨cq0,cq1,cq2⟩:=cl3 Rq.out;clear M)|(refine wpList_load_row rfl 35 (.tmp 22) rfl (w.heap.size+1) rfl 35 #[.int .u8 mK,.int .u16 mM,.int .u32 mL,.int .u32 mS,.string mT] (0,0) _ Rm.out Tryz.underlying35 rfl (by kernel_rfl) ?_)|(go_at_call 49;refine (HC.out _).mono ?_;rintro e w3 ⟨rfl,hb⟩;clear cv0 cm0 cm1 cm2 cm3 cm4 cq0 cq1 cq2;replace Rv:=gg Rv hb;replace Rm:=gg Rm hb;replace Rq:=gg Rq hb;replace B:=gb B hb;have cv0:=cl1 Rv.out;obtain⟨cm0,cm1,cm2,cm3,cm4⟩:=cl5 Rm.out;obtain⟨cq0,cq1,cq2⟩:=cl3 Rq.out;clear hb)|(go_at_call 101;refine (HX.out _ B.out).mono ?_;rintro e w4 ⟨rfl,hjl,hb⟩;have HJ:=hid hjl;clear cv0 cm0 cm1 cm2 cm3 cm4 cq0 cq1 cq2;replace Rv:=gg Rv hb;replace Rm:=gg Rm hb;replace Rq:=gg Rq hb;replace B:=gb B hb;clear hjl;have cv0:=cl1 Rv.out;obtain⟨cm0,cm1,cm2,cm3,cm4⟩:=cl5 Rm.out;obtain⟨cq0,cq1,cq2⟩:=cl3 Rq.out;clear hb))
   refine wp_region_S (fun w'=>Below w4.heap.size w4 w') 7 (by kernel_rfl) (by kernel_rfl) (by kernel_rfl) ((Below.refl _ _).drew) ?_;simp only [List.take_succ_cons,List.take_zero];refine wpG_val (.agg #[.int .u8 mK,.int .u16 mM,.int .u32 mL,.int .u32 mS,.string mT]) rfl (by rfl) (fun w' hSw=>load_all 35 (.tmp 5) rfl (w.heap.size+1) rfl (Rm.out.go hSw) Tryz.underlying35 rfl (by kernel_rfl)) ?_;simp only [Gw1ighta,Gw1ightb,Gw1ightc];refine wpG_val (.int .u32 j) rfl (by rfl) (fun w' hSw=>by go_simp) ?_;simp only [Gw1ighta,Gw1ightb,Gw1ightc];refine wpG_val (.agg #[.int .u8 mK,.int .u16 mM,.int .u32 mL,.int .u32 mS,.string mT,.int .u32 j]) rfl (by rfl) (fun w' hSw=>by go_simp) ?_;simp only [Gw1ighta,Gw1ightb,Gw1ightc];refine wpG_call (.agg #[.string ak,.bool ab,.string av]) 102 #[.agg #[.int .u8 mK,.int .u16 mM,.int .u32 mL,.int .u32 mS,.string mT,.int .u32 j]] rfl (by rfl) (fun w'=>by go_simp) (fun w' hSw=>(HK.out HJ.out w').mono fun e w2 h=>⟨h.1,hSw.trans (h.2.mono hSw.size)⟩) ?_;simp only [Gw1ighta,Gw1ightb,Gw1ightc];refine wpG_val (.agg #[.int .u32 qd,.string qk,.int .u32 qi]) rfl (by rfl) (fun w' hSw=>load_all 170 (.tmp 8) rfl (w1.heap.size) rfl (Rq.out.go hSw) Tryz.underlying170 rfl (by kernel_rfl)) ?_;simp only [Gw1ighta,Gw1ightb,Gw1ightc];refine wpG_val (.int .u32 j) rfl (by rfl) (fun w' hSw=>by go_simp) ?_;simp only [Gw1ighta,Gw1ightb,Gw1ightc];refine wpG_call (.agg #[.string bk,.bool bb,.string bv]) 103 #[.agg #[.int .u32 qd,.string qk,.int .u32 qi],.int .u32 j] rfl (by rfl) (fun w'=>by go_simp) (fun w' hSw=>(HM.out HJ.out w').mono fun e w2 h=>⟨h.1,hSw.trans (h.2.mono hSw.size)⟩) ?_;simp only [Gw1ighta,Gw1ightb,Gw1ightc];refine wpG_nil ?_;intro w5 hb;simp only [List.drop_succ_cons,List.drop_zero];clear cv0 cm0 cm1 cm2 cm3 cm4 cq0 cq1 cq2;replace Rv:=gg Rv hb;replace Rm:=gg Rm hb;replace Rq:=gg Rq hb;replace B:=gb B hb;have cv0:=cl1 Rv.out;obtain⟨cm0,cm1,cm2,cm3,cm4⟩:=cl5 Rm.out;obtain⟨cq0,cq1,cq2⟩:=cl3 Rq.out;clear hb
   go_wp2
   go_ret2
   exact⟨_,rfl,lit2 B.out ak ab av bk bb bv⟩
  ·
   have HF:=hid (fun (w1:World) (hb:Below w.heap.size w w1)=>free_any (h.go hb) p hp);have HC:=hid (fun w=>check_in m hm w);have HX:=hid (fun (w1:World) (hb:Below w.heap.size w w1)=>next_in (h.go hb));unfold crX;rw [if_neg h0];have h0:=Decidable.not_not.1 h0;generalize frX L p=y at *;generalize fr L p=q at *;generalize chI m=z at *;obtain⟨qd,qk,qi⟩:=q;generalize nxt L=j at *;obtain⟨mK,mM,mL,mS,mT⟩:=m;unfold vI at HC ⊢;try dsimp only at *
   subst h0;have e5:=ne0 h1;have HE:=hid h1;clear h hm hp h1 HX;have HN:=hid (two_new w #[.slice A n c] #[.int .u8 mK,.int .u16 mM,.int .u32 mL,.int .u32 mS,.string mT] 84 35)
   go_enter Tryz.func62,Tryz.ntmps62
   go_wp2_with fail
   try generalize ((w.alloc (.cells #[.slice A n c] 84)).alloc (.cells #[.int .u8 mK,.int .u16 mM,.int .u32 mL,.int .u32 mS,.string mT] 35))=w0 at *
   have Rv:=hid HN.out.1;have Rm:=hid HN.out.2.1;have B:=hid HN.out.2.2.1;clear HN;have cv0:=cl1 Rv.out;obtain⟨cm0,cm1,cm2,cm3,cm4⟩:=cl5 Rm.out;refine (HF.out _ B.out).mono ?_;rintro e w1 ⟨rfl,hb⟩;clear cv0 cm0 cm1 cm2 cm3 cm4;replace Rv:=gg Rv hb;replace Rm:=gg Rm hb;replace B:=gb B hb;have cv0:=cl1 Rv.out;obtain⟨cm0,cm1,cm2,cm3,cm4⟩:=cl5 Rm.out;clear hb
   go_wp2_with (first|(refine new_row rfl 170 (.tmp 8) (.tmp 17) rfl rfl #[.int .u32 qd,.string qk,.int .u32 qi] rfl rfl (by kernel_rfl) rfl (row3 _ _ _) ?_;intro w2 M;clear cv0 cm0 cm1 cm2 cm3 cm4;replace Rv:=gg Rv M.2.1;replace Rm:=gg Rm M.2.1;replace B:=gb B M.2.1;have Rq:=hid M.1;have cv0:=cl1 Rv.out;obtain⟨cm0,cm1,cm2,cm3,cm4⟩:=cl5 Rm.out;obtain⟨cq0,cq1,cq2⟩:=cl3 Rq.out;clear M)|(refine wpList_load_row rfl 35 (.tmp 22) rfl (w.heap.size+1) rfl 35 #[.int .u8 mK,.int .u16 mM,.int .u32 mL,.int .u32 mS,.string mT] (0,0) _ Rm.out Tryz.underlying35 rfl (by kernel_rfl) ?_)|(go_at_call 49;refine (HC.out _).mono ?_;rintro e w3 ⟨rfl,hb⟩;clear cv0 cm0 cm1 cm2 cm3 cm4 cq0 cq1 cq2;replace Rv:=gg Rv hb;replace Rm:=gg Rm hb;replace Rq:=gg Rq hb;replace B:=gb B hb;have cv0:=cl1 Rv.out;obtain⟨cm0,cm1,cm2,cm3,cm4⟩:=cl5 Rm.out;obtain⟨cq0,cq1,cq2⟩:=cl3 Rq.out;clear hb))
   go_ret2
   exact CPost.err HE.out _ B.out
end Go.Proofs.YtopepebcnaikiaaGreatDoor.Fi
namespace Go.Proofs.YtopepebcnaikiaaGreatDoor.Fi
open Lib (hid)
open Go.ChangeShapes Go.WideShapes Go.ChangeAt Go.RowKit
open BigFrame
open Ar Rg
open Ino
open It (Itm Ch get und app dif rt rc enc er getV get_any under_any apply_any diff_any MkI MkC)
open Di (ItA wlk rgt rgt_iff numOf Vo vo pts lsX lsL up En NmA Walk_any)
open Ph (nb spX spB laX laD laN)
open Pk (nB nE tN tR tE number_any take_any)
variable {w w' wr:World}{A:Option Addr}{n c:Nat}{L:List Itm}
theorem catC2 {ops:Array Oper}{rest:List Oper}{o:Oper}{a:Act}{Q:Exit→Act→World→Prop}{w0:World}{v:Value}{D:List Ch}(hM:MkC w0 wr v D) (E:List Ch) (ad:Addr) (m c:Nat){B:Nat}(hm:m=E.length) (hL:Ls Sc.enc 3 wr B (some ad) E) (hlen:D.length+m≤3518437208883)
  (hgd:o.guard=none) (s x:Operand) (ho:o.op=.call { callee:=.builtin .append,args:=#[s,x],argTypes:=#[32,32] }) (hs:a.eval s=v) (hx:a.eval x=.slice (some ad) m c)
  (h:∀ v' w',MkC w0 w' v' (D++E)→wr.grownBy w' v.ownBlock→(v'.ownBlock=v.ownBlock∨v'.ownBlock=some wr.heap.size)→wpList Tryz.prog ops Q rest (a.put o.dst v') w'):wpList Tryz.prog ops Q (o::rest) a wr:=by
 obtain⟨i0,hi,hz0,hz1,hz2⟩:=info_parts It.infoC;obtain⟨hown,hb⟩:=hM;have hnews:∀ j u,(E.flatMap Sc.enc)[j]?=some u→wr.cell? (ad.add j)=some u:=by
  intro q u hu;obtain⟨i,j,y,rfl,hy,hj⟩:=flat_of Sc.enc_len hu;obtain⟨b,o,he,_,hr⟩:=hL i y hy;cases he;rw [Ar.add_plain,← Nat.add_assoc];exact hr j u hj
 refine wpList_append_own_at wr hgd s x 32 ho w0.heap.size 138 i0 _ 3 40 Tryz.underlying32 hi hz0 hz1 hz2 rfl (by decide) v D.length _ hs hown ad m c (E.flatMap Sc.enc) hx (by rw [flat_len Sc.enc_len,hm]) hnews (flat_one Sc.enc_one) (by unfold maxLen;omega) (by omega) hb.size ?_;intro v' w' h2 h3 _ h5;refine h v' w' ⟨?_,hb.grown h3 hb.size fun q hq=>(hown.lt q hq).1⟩ h3 h5;rw [List.length_append,List.flatMap_append,← hm];exact h2
theorem ls_at (w:World) (x:Ch) (e:TypeId) (k B:Nat) (hk:w.heap.size=k) (hB:k<B):Ls Sc.enc 3 (w.alloc (.cells (Sc.enc x).toArray e)) B (some ⟨k,0,none⟩) [x]:=by
 subst hk;exact Ls.new w x e B hB
def gnP (L:List Itm) (i:Nat):Nat→List Ch
 | 0=>[]
 | k+1=>gnP L i k++gnK L i (k+1)
theorem gnP_4 (i:Nat):gnP L i 4=gn L i:=by
 unfold gn;show ((([]++gnK L i 1)++gnK L i 2)++gnK L i 3)++gnK L i 4=_
 rw [List.nil_append,List.append_assoc,List.append_assoc]
theorem und_len (L:List Itm) (p:ByteArray):(und L p).length≤L.length:=List.length_filter_le _ _
theorem gnP_len (i:Nat):∀ k,(gnP L i k).length≤k*L.length
 | 0=>Nat.zero_le _
 | k+1=>by
  show (gnP L i k++gnK L i (k+1)).length≤_
  rw [List.length_append,Nat.succ_mul];have h1:=gnP_len i k;have h2:(gnK L i (k+1)).length≤L.length:=by unfold gnK;rw [List.length_map];exact und_len _ _
  omega
theorem map_take {D:List Itm}{j:Nat}{x:Itm}(h:D[j]?=some x):(D.take (j+1)).map It.gone=(D.take j).map It.gone++[It.gone x]:=by
 rw [List.take_add_one,h,List.map_append];rfl
theorem gone_any (h:VA w A n c L) (i:Nat) (hi:i<4294967296):Calls Tryz.prog 144 #[vV A n c,.int .u32 (i:Int)] w fun e w'=>∃ v,e=.returned v∧MkC w w' v (gn L i):=by
 have HLN:=hid h.it.1;have HNL:=hid h.it.2.1;have HHA:=hid (fun (w1:World) (hb:Below w.heap.size w w1) (K:Nat) (hK:K<256)=>has_any (h.go hb) K i hK hi);have HGP:=hid (@gnP_len L i);have hb1:Below w.heap.size w (w.alloc (.cells #[.slice A n c] 84)):=(Below.refl _ _).alloc (Nat.le_refl _) _;have hz:(w.alloc (.cells #[.slice A n c] 84)).heap.size=w.heap.size+1:=by simp
 have HB1:=hid hb1;have HZ1:=hid hz;have HR1:=hid (Rw.new w #[.slice A n c] 84);clear h hb1 hz
 go_enter Tryz.func144,Tryz.ntmps144
 go_wp2_with fail
 generalize w.alloc (.cells #[.slice A n c] 84)=w0 at *
 go_loopw [5,9] (fun ov iv wr=>∃ (k:Nat) (q:Value),k≤4∧iv=.int .u8 k∧q=ov∧Hid (MkC w0 wr q (gnP L i k))) (fun _ iv _=>4-(intOf iv).toNat)
 case atStart=>exact⟨0,_,by decide,rfl,rfl,Mk.nil (Below.refl _ _)⟩
 case round =>
  obtain⟨k,ov,hk,rfl,rfl,hm⟩:=hrel;have HM:=hid (Hid.out hm);clear hm;by_cases hlt:k<4
  ·have hw1:IntKind.u8.wrap (1+(k:Int))=((k+1:Nat):Int):=by rw [show (1:Int)+(k:Int)=((k+1:Nat):Int) by omega];exact u8_id (by omega)
   have hw2:IntKind.u8.wrap ((k:Int)+1)=((k+1:Nat):Int):=by rw [show (k:Int)+1=((k+1:Nat):Int) by omega];exact u8_id (by omega)
   obtain⟨k1,hk1⟩:∃ k1,k+1=k1:=⟨_,rfl⟩;rw [hk1] at hw1 hw2;have HK1:=hid hk1;have HGS:=hid (show gnP L i k1=gnP L i k++(und L (pfx k1 i)).map It.gone from by rw [← hk1];rfl);have HGL:=hid (show (gnP L i k).length≤4*L.length from Nat.le_trans (gnP_len i k) (Nat.mul_le_mul_right _ hk));have HUL:=hid (und_len L (pfx k1 i));have hk1l:k1<256:=by omega
   have HHC:=hid (fun (w1:World) (hb:Below w.heap.size w w1)=>HHA.out w1 hb k1 hk1l);generalize und L (pfx k1 i)=D at *;generalize gnP L i k=P at *;have HBr:=hid (HB1.out.trans (HM.out.2.mono HB1.out.size));have Rr:=hid (HR1.out.go HM.out.2);have cv_0:=Rr.out.cell 0 _ rfl;clear hk1
   go_wp2_with fail
   refine (HHC.out _ HBr.out).mono ?_;rintro e w2 ⟨v2,rfl,hm2⟩;have HB2:=hid hm2.2;have HPL:=hid (fun q (hq:ov.ownBlock=some q)=>(HM.out.1.lt q hq).2);replace HM:=hid (HM.out.go hm2.2);obtain⟨A2,c2,hv2,h1,h2,hl2⟩:=hm2.ls It.enc_len;have har:(v2=.slice none 0 0∧D=[])∨∃ g c,v2=.slice (some ⟨g,0,none⟩) D.length c∧D.length≤c∧c≤maxLen∧wr.heap.size≤g∧g<w2.heap.size∧Arr It.enc 2 w2 g D:=hm2.arr It.enc_len;obtain⟨m,hmm⟩:∃ m,D.length=m:=⟨_,rfl⟩;rw [hmm] at hv2;have HMM:=hid hmm;have HAR:=hid (show D=[]∨∃ g,A2=some ⟨g,0,none⟩∧wr.heap.size≤g∧g<w2.heap.size∧Arr It.enc 2 w2 g D from by
    rcases har with ⟨_,h⟩ | ⟨g,c',e,_,_,e1,e2,e3⟩
    ·exact .inl h
    ·rw [hv2] at e;cases e;exact .inr ⟨g,rfl,e1,e2,e3⟩)
   have hm9:m≤1390000:=by have:=HUL.out;have:=HLN.out;have:=HNL.out;omega
   subst hv2;clear hm2 h1 h2 hl2 har hmm HHC cv_0 Rr HBr
   go_wp2_with fail
   have hrn:wr.heap.size=wr.heap.size:=rfl;generalize wr.heap.size=sz at *
   go_loopw [5,18] (fun ov iv wr=>∃ (j:Nat) (q:Value),j≤m∧iv=.int .i64 j∧q=ov∧Hid (MkC w0 wr q (P++(D.take j).map It.gone))∧Hid (∀ g,A2=some ⟨g,0,none⟩→D≠[]→g<wr.heap.size∧q.ownBlock≠some g∧Arr It.enc 2 wr g D)) (fun _ iv _=>m-(intOf iv).toNat)
   case atStart =>
    refine⟨0,_,Nat.zero_le _,by go_num,rfl,?_,fun g hg hd=>?_⟩
    ·show MkC w0 w2 _ (P++[])
     rw [List.append_nil];exact HM.out
    ·rcases HAR.out with h | ⟨g',e,e1,e2,e3⟩
     ·exact absurd h hd
     ·rw [hg] at e;cases e;exact⟨e2,fun h=>by have:=HPL.out _ h;omega,e3⟩
   case round =>
    obtain⟨j,oj,hj,rfl,rfl,hm,ha⟩:=hrel;have HMj:=hid (Hid.out hm);have HAj:=hid (Hid.out ha);clear hm ha hrn;by_cases hjl:j<m
    ·obtain⟨x,hx⟩:∃ x,D[j]?=some x:=⟨_,List.getElem?_eq_getElem (by rw [HMM.out];exact hjl)⟩;obtain⟨g,hg⟩:∃ g,A2=some ⟨g,0,none⟩:=by
      rcases HAR.out with h | ⟨g',e,_⟩
      ·rw [h] at hx;simp at hx
      ·exact⟨g',e⟩
     subst hg;have HAg:=hid (HAj.out g rfl (fun h=>by rw [h] at hx;simp at hx));have e0:=(HAg.out.2.2.range hx) 0 _ rfl;have e1:=(HAg.out.2.2.range hx) 1 _ rfl;rw [Nat.add_zero] at e0;have HTK:=hid (map_take hx);have HXG:=hid (show It.gone x=⟨x.k,false,⟨#[]⟩⟩ from rfl);have HDN:=hid (show (P++(D.take j).map It.gone).length+1≤3518437208883 by
      have:=HGL.out;have:=HLN.out;have:=HNL.out;rw [List.length_append,List.length_map,List.length_take];omega)
     obtain⟨xk,xv⟩:=x;try dsimp only at *
     go_wp2_with (first|(at_builtin;refine catC2 ((HMj.out.alloc _).alloc _) [(⟨xk,false,⟨#[]⟩⟩:Ch)] _ 1 1 rfl (ls_at _ (⟨xk,false,⟨#[]⟩⟩:Ch) _ (wr.heap.size+1) (wr.heap.size+2) (by simp) (Nat.lt_succ_self _)) HDN.out rfl _ _ rfl rfl rfl ?_;intro v9 w9 hM9 hG9 hO9;have HM9:=hid hM9;have HG9:=hid hG9;have HO9:=hid hO9;clear hM9 hG9 hO9))
     have HA2:=hid (show ∀ g',some (⟨g,0,none⟩:Addr)=some ⟨g',0,none⟩→D≠[]→g'<w9.heap.size∧v9.ownBlock≠some g'∧Arr It.enc 2 w9 g' D from fun g' hg' _=>by
      cases hg';have hb:Below wr.heap.size wr ((wr.alloc (.cells #[.string xk,.string xv] 90)).alloc (.cells #[.string xk,.bool false,.string ⟨#[]⟩] 138)):=((Below.refl _ _).alloc (Nat.le_refl _) _).alloc (by simp) _;have hlt:=HAg.out.1;have hlt2:=Nat.lt_of_lt_of_le hlt hb.size;refine⟨Nat.lt_of_lt_of_le hlt2 HG9.out.size,?_,(HAg.out.2.2.block (hb.block g hlt)).grown HG9.out hlt2 (fun e=>HAg.out.2.1 e.symm)⟩;rcases HO9.out with e | e
      ·rw [e];exact HAg.out.2.1
      ·rw [e];intro e2;have:=Option.some.inj e2;omega)
     exact⟨⟨j+1,v9,hjl,by go_num,rfl,by rw [HTK.out,HXG.out,← List.append_assoc];exact HM9.out,HA2.out⟩,by simp [intOf];omega⟩
    ·have hje:j=m:=by omega
     have HDE:=hid (show D.take j=D from by rw [hje,← HMM.out,List.take_length])
     go_wp2_with fail
     exact⟨⟨k1,oj,by have:=HK1.out;omega,rfl,rfl,by rw [HGS.out];have:=HMj.out;rw [HDE.out] at this;exact this⟩,by have:=HK1.out;simp [intOf];omega⟩
  ·have hke:k=4:=by omega
   subst hke
   go_wp2
   go_ret
   exact⟨_,rfl,by rw [← gnP_4];exact HM.out.since HB1.out⟩
end Go.Proofs.YtopepebcnaikiaaGreatDoor.Fi
namespace Go.Proofs.YtopepebcnaikiaaGreatDoor.Fi
open Lib (hid)
open Go.ChangeShapes Go.WideShapes Go.ChangeAt Go.RowKit
open BigFrame
open Ar Rg
open Ino
open It (Itm Ch get und app dif rt rc enc er getV get_any under_any apply_any diff_any MkI MkC)
open Di (ItA wlk rgt rgt_iff numOf Vo vo pts lsX lsL up En NmA Walk_any Up)
open Ph (nb spX spB laX laD laN)
open Pk (nB nE tN tR tE number_any take_any)
variable {w w' wr:World}{A:Option Addr}{n c:Nat}{L:List Itm}
theorem fld0 (K M L S I:Nat) (T:ByteArray) (w:World):(Instr.field 161 (.agg #[.int .u8 K,.int .u16 M,.int .u32 L,.int .u32 S,.string T,.int .u32 I]) 0).run Tryz.prog w=.ok (.agg #[.int .u8 K,.int .u16 M,.int .u32 L,.int .u32 S,.string T]) w:=by kernel_rfl
theorem fldK (K M L S:Nat) (T:ByteArray) (w:World):(Instr.field 35 (.agg #[.int .u8 K,.int .u16 M,.int .u32 L,.int .u32 S,.string T]) 0).run Tryz.prog w=.ok (.int .u8 K) w:=by kernel_rfl
theorem less_lt (m:Nat):less m<4294967296:=Nat.mod_lt _ (by decide)
theorem less_wrap {m:Nat}(h:m<4294967296):IntKind.u32.wrap ((m:Int)-1)=(less m:Int):=by
 unfold less;rw [IntKind.wrap_u32];omega
theorem letGo_any (h:VA w A n c L) (p:Pl) (hp:p.i<4294967296):Calls Tryz.prog 111 #[vV A n c,vPl p] w fun e w'=>∃ v,e=.returned v∧MkC w w' v (letGo L p):=by
 by_cases h0:less (nd L p.i).L=0
 ·
  have HN1:=hid (fun (w1:World) (hb:Below w.heap.size w w1)=>node_any (h.go hb) p.i hp);have hlim:=nd_lim L p.i;have hw1:=less_wrap hlim.2.2.1;have HS:=hid (fun w=>isFree_any p w);have HG:=hid (fun (w1:World) (hb:Below w.heap.size w w1)=>gone_any (h.go hb) p.i hp);have e0:letGo L p=gn L p.i++[isFree p]:=by unfold letGo;rw [if_pos h0]
  have hgl:(gn L p.i).length≤4*L.length:=by rw [← gnP_4];exact gnP_len p.i 4
  have HDL:=hid (show (gn L p.i).length+1≤3518437208883 by have:=h.it.1;have:=h.it.2.1;omega);rw [e0];generalize gn L p.i=D at *;generalize nd L p.i=m at *;obtain⟨mK,mM,mL,mS,mT⟩:=m;try dsimp only at *
  rw [h0] at hw1;have hw1:IntKind.u32.wrap ((mL:Int)-1)=0:=hw1;obtain⟨a,ha⟩:∃ a,isFree p=a:=⟨_,rfl⟩;rw [ha] at HS ⊢;obtain⟨ak,ab,av⟩:=a;dsimp only [Sc.enc] at HS;obtain⟨qd,qk,qi⟩:=p;try dsimp only at *
  clear h hp hlim ha e0 h0 hgl;have HN:=hid (two_new w #[.slice A n c] #[.int .u32 qd,.string qk,.int .u32 qi] 84 170)
  go_enter Tryz.func111,Tryz.ntmps111
  go_wp2_with fail
  try generalize ((w.alloc (.cells #[.slice A n c] 84)).alloc (.cells #[.int .u32 qd,.string qk,.int .u32 qi] 170))=w0 at *
  have Rv:=hid HN.out.1;have Rq:=hid HN.out.2.1;have B:=hid HN.out.2.2.1;clear HN;have cv0:=cl1 Rv.out;obtain⟨cq0,cq1,cq2⟩:=cl3 Rq.out;refine (HN1.out _ B.out).mono ?_;rintro e w1 ⟨rfl,hb⟩;clear cv0 cq0 cq1 cq2;replace Rv:=gg Rv hb;replace Rq:=gg Rq hb;replace B:=gb B hb;have cv0:=cl1 Rv.out;obtain⟨cq0,cq1,cq2⟩:=cl3 Rq.out;clear hb
  go_wp2_with (first|(refine new_row rfl 161 (.tmp 5) (.tmp 9) rfl rfl #[.int .u8 mK,.int .u16 mM,.int .u32 mL,.int .u32 mS,.string mT,.int .u32 qi] rfl rfl (by kernel_rfl) rfl (row6 _ _ _ _ _ _) ?_;intro w2 M;have Gd:=hid B.out.size;have Dd_v:=hid Rv.out.lt;have Dd_q:=hid Rq.out.lt;clear cv0 cq0 cq1 cq2;replace Rv:=gg Rv M.2.1;replace Rq:=gg Rq M.2.1;replace B:=gb B M.2.1;have Rd:=hid M.1;have cv0:=cl1 Rv.out;obtain⟨cq0,cq1,cq2⟩:=cl3 Rq.out;obtain⟨cd0,cd1,cd2,cd3,cd4,cd5⟩:=cl6 Rd.out;clear M;have fz:=frozen_of_row w2 (w1.heap.size) 2 _ _ Rd.out))
  clear fz cv0 cq0 cq1 cq2 cd0 cd1 cd2 cd3 cd4 cd5;have hs:=below_set (v:=.int .u32 0) B.out (g:=w1.heap.size) (j:=2) Gd.out;replace Rv:=hid (Rv.out.off (g':=w1.heap.size) (j:=2) (.int .u32 0) (Nat.ne_of_lt Dd_v.out));replace Rq:=hid (Rq.out.off (g':=w1.heap.size) (j:=2) (.int .u32 0) (Nat.ne_of_lt Dd_q.out));replace Rd:Hid (Rw (w2.setCell ⟨w1.heap.size,2,none⟩ (.int .u32 0)) (w1.heap.size) #[.int .u8 mK,.int .u16 mM,.int .u32 0,.int .u32 mS,.string mT,.int .u32 qi] 161):=hid (Rd.out.put 2 (.int .u32 0));replace B:=hid hs;clear hs;generalize w2.setCell ⟨w1.heap.size,2,none⟩ (.int .u32 0)=w3 at *;have cv0:=cl1 Rv.out;obtain⟨cq0,cq1,cq2⟩:=cl3 Rq.out;obtain⟨cd0,cd1,cd2,cd3,cd4,cd5⟩:=cl6 Rd.out;refine wp_region_T (fun w':World=>Below w3.heap.size w3 w') 6 (by kernel_rfl) (by kernel_rfl) ?_;have hd:Below w3.heap.size w3 w3.drew:=(Below.refl _ _).drew;generalize hW1:w3.drew=w4 at *;have hS:=hd;clear hW1;have Qv:=hid (Rv.out);have Qq:=hid (Rq.out);have Qd:=hid (Rd.out);clear cv0 cq0 cq1 cq2 cd0 cd1 cd2 cd3 cd4 cd5;replace Rv:=gg Rv hd;replace Rq:=gg Rq hd;replace Rd:=gg Rd hd;replace B:=gb B hd;have cv0:=cl1 Rv.out;obtain⟨cq0,cq1,cq2⟩:=cl3 Rq.out;obtain⟨cd0,cd1,cd2,cd3,cd4,cd5⟩:=cl6 Rd.out;clear hd;refine take_T 0 25 (.agg #[.slice A n c]) rfl (by rfl) (by kernel_rfl) (by decide) (by kernel_rfl) (by kernel_rfl) (by kernel_rfl) (fun _ _ _ h=>h) (Or.inl ⟨by rfl,fun w' hSw=>load_all 84 (.tmp 2) rfl (w.heap.size) rfl (Qv.out.go hSw) Tryz.underlying84 rfl (by kernel_rfl)⟩) hS ?_;simp only [Gw1ighta,Gw1ightb,Gw1ightc];refine take_T 1 26 (.pointer (some ⟨w.heap.size+1,2,none⟩)) rfl (by rfl) (by kernel_rfl) (by decide) (by kernel_rfl) (by kernel_rfl) (by kernel_rfl) (fun _ _ _ h=>h) (Or.inl ⟨by rfl,fun w' hSw=>by go_simp⟩) hS ?_;simp only [Gw1ighta,Gw1ightb,Gw1ightc];refine take_T 2 27 (.int .u32 qi) rfl (by rfl) (by kernel_rfl) (by decide) (by kernel_rfl) (by kernel_rfl) (by kernel_rfl) (fun _ _ _ h=>h) (Or.inl ⟨by rfl,fun w' hSw=>by have c:=(Qq.out.go hSw).cell 2 _ rfl;go_simp⟩) hS ?_;simp only [Gw1ighta,Gw1ightb,Gw1ightc];refine take_T 4 29 (.agg #[.int .u32 qd,.string qk,.int .u32 qi]) rfl (by rfl) (by kernel_rfl) (by decide) (by kernel_rfl) (by kernel_rfl) (by kernel_rfl) (fun _ _ _ h=>h) (Or.inl ⟨by rfl,fun w' hSw=>load_all 170 (.tmp 3) rfl (w.heap.size+1) rfl (Qq.out.go hSw) Tryz.underlying170 rfl (by kernel_rfl)⟩) hS ?_;simp only [Gw1ighta,Gw1ightb,Gw1ightc];refine only_T 3 rfl (by kernel_rfl) (by decide) (by rfl) (fun K hK=>?_)
  go_wp2_with fail
  go_at_call 144
  refine (HG.out _ B.out).mono ?_;rintro e w5 ⟨v3,rfl,hm⟩;have hb:=hm.2;have HM:=hid (hm.since B.out);have hS2:=hS.trans (hb.mono hS.size);clear cv0 cq0 cq1 cq2 cd0 cd1 cd2 cd3 cd4 cd5;replace Rv:=gg Rv hb;replace Rq:=gg Rq hb;replace Rd:=gg Rd hb;replace B:=gb B hb;clear hm;have cv0:=cl1 Rv.out;obtain⟨cq0,cq1,cq2⟩:=cl3 Rq.out;obtain⟨cd0,cd1,cd2,cd3,cd4,cd5⟩:=cl6 Rd.out;clear hb;refine hK.out _ _ hS2 ?_;clear hK K;try simp only [Act.put,Gw1ighta,Gw1ightb,Gw1ightc]
  replace hS:=hS2;clear hS2;refine only_T 5 rfl (by kernel_rfl) (by decide) (by rfl) (fun K hK=>?_)
  go_wp2_with fail
  go_at_call 109
  refine (HS.out _).mono ?_;rintro e w6 ⟨rfl,hb⟩;replace HM:=hid (HM.out.go hb);have hS2:=hS.trans (hb.mono hS.size);clear cv0 cq0 cq1 cq2 cd0 cd1 cd2 cd3 cd4 cd5;replace Rv:=gg Rv hb;replace Rq:=gg Rq hb;replace Rd:=gg Rd hb;replace B:=gb B hb;have cv0:=cl1 Rv.out;obtain⟨cq0,cq1,cq2⟩:=cl3 Rq.out;obtain⟨cd0,cd1,cd2,cd3,cd4,cd5⟩:=cl6 Rd.out;clear hb;refine hK.out _ _ hS2 ?_;clear hK K;try simp only [Act.put,Gw1ighta,Gw1ightb,Gw1ightc]
  replace hS:=hS2;clear hS2;refine done_T (by kernel_rfl) ?_;simp only [List.drop_succ_cons,List.drop_zero];clear hS Qv Qq Qd
  go_wp2_with (first|(at_builtin;refine It.catC (HM.out.alloc _) [(⟨ak,ab,av⟩:Ch)] _ 1 1 rfl (Ls.new _ (⟨ak,ab,av⟩:Ch) _ _ (Nat.lt_succ_self _)) HDL.out rfl _ _ rfl rfl rfl ?_;intro v9 w9 hM9 hG9;have HM9:=hid hM9;clear hM9 hG9))
  go_ret
  exact⟨_,rfl,HM9.out⟩
 ·
  have HN1:=hid (fun (w1:World) (hb:Below w.heap.size w w1)=>node_any (h.go hb) p.i hp);have hlim:=nd_lim L p.i;have hw1:=less_wrap hlim.2.2.1;have HS:=hid (fun w=>isFree_any p w);have HK:=hid (fun w=>kept_any { nd L p.i with L:=less (nd L p.i).L } p.i ⟨hlim.1,hlim.2.1,less_lt _,hlim.2.2.2⟩ hp w);have e0:letGo L p=[isFree p,kept { nd L p.i with L:=less (nd L p.i).L } p.i]:=by unfold letGo;rw [if_neg h0]
  rw [e0];generalize nd L p.i=m at *;obtain⟨mK,mM,mL,mS,mT⟩:=m;try dsimp only at *
  generalize less mL=l1 at *;have d1:decide (0<l1)=true:=by rw [decide_eq_true_iff];omega
  obtain⟨a,ha⟩:∃ a,isFree p=a:=⟨_,rfl⟩;obtain⟨b,hb⟩:∃ b,kept ⟨mK,mM,l1,mS,mT⟩ p.i=b:=⟨_,rfl⟩;rw [ha] at HS ⊢;rw [hb] at HK ⊢;obtain⟨ak,ab,av⟩:=a;obtain⟨bk,bb,bv⟩:=b;dsimp only [Sc.enc] at HK HS;obtain⟨qd,qk,qi⟩:=p;try dsimp only at *
  clear h hp hlim ha hb e0 h0;have HN:=hid (two_new w #[.slice A n c] #[.int .u32 qd,.string qk,.int .u32 qi] 84 170)
  go_enter Tryz.func111,Tryz.ntmps111
  go_wp2_with fail
  try generalize ((w.alloc (.cells #[.slice A n c] 84)).alloc (.cells #[.int .u32 qd,.string qk,.int .u32 qi] 170))=w0 at *
  have Rv:=hid HN.out.1;have Rq:=hid HN.out.2.1;have B:=hid HN.out.2.2.1;clear HN;have cv0:=cl1 Rv.out;obtain⟨cq0,cq1,cq2⟩:=cl3 Rq.out;refine (HN1.out _ B.out).mono ?_;rintro e w1 ⟨rfl,hb⟩;clear cv0 cq0 cq1 cq2;replace Rv:=gg Rv hb;replace Rq:=gg Rq hb;replace B:=gb B hb;have cv0:=cl1 Rv.out;obtain⟨cq0,cq1,cq2⟩:=cl3 Rq.out;clear hb
  go_wp2_with (first|(refine new_row rfl 161 (.tmp 5) (.tmp 9) rfl rfl #[.int .u8 mK,.int .u16 mM,.int .u32 mL,.int .u32 mS,.string mT,.int .u32 qi] rfl rfl (by kernel_rfl) rfl (row6 _ _ _ _ _ _) ?_;intro w2 M;have Gd:=hid B.out.size;have Dd_v:=hid Rv.out.lt;have Dd_q:=hid Rq.out.lt;clear cv0 cq0 cq1 cq2;replace Rv:=gg Rv M.2.1;replace Rq:=gg Rq M.2.1;replace B:=gb B M.2.1;have Rd:=hid M.1;have cv0:=cl1 Rv.out;obtain⟨cq0,cq1,cq2⟩:=cl3 Rq.out;obtain⟨cd0,cd1,cd2,cd3,cd4,cd5⟩:=cl6 Rd.out;clear M;have fz:=frozen_of_row w2 (w1.heap.size) 2 _ _ Rd.out))
  clear fz cv0 cq0 cq1 cq2 cd0 cd1 cd2 cd3 cd4 cd5;have hs:=below_set (v:=.int .u32 l1) B.out (g:=w1.heap.size) (j:=2) Gd.out;replace Rv:=hid (Rv.out.off (g':=w1.heap.size) (j:=2) (.int .u32 l1) (Nat.ne_of_lt Dd_v.out));replace Rq:=hid (Rq.out.off (g':=w1.heap.size) (j:=2) (.int .u32 l1) (Nat.ne_of_lt Dd_q.out));replace Rd:Hid (Rw (w2.setCell ⟨w1.heap.size,2,none⟩ (.int .u32 l1)) (w1.heap.size) #[.int .u8 mK,.int .u16 mM,.int .u32 l1,.int .u32 mS,.string mT,.int .u32 qi] 161):=hid (Rd.out.put 2 (.int .u32 l1));replace B:=hid hs;clear hs;generalize w2.setCell ⟨w1.heap.size,2,none⟩ (.int .u32 l1)=w3 at *;have cv0:=cl1 Rv.out;obtain⟨cq0,cq1,cq2⟩:=cl3 Rq.out;obtain⟨cd0,cd1,cd2,cd3,cd4,cd5⟩:=cl6 Rd.out;refine wp_region_S (fun w'=>Below w3.heap.size w3 w') 4 (by kernel_rfl) (by kernel_rfl) (by kernel_rfl) ((Below.refl _ _).drew) ?_;simp only [List.take_succ_cons,List.take_zero];refine wpG_val (.agg #[.int .u32 qd,.string qk,.int .u32 qi]) rfl (by rfl) (fun w' hSw=>load_all 170 (.tmp 3) rfl (w.heap.size+1) rfl (Rq.out.go hSw) Tryz.underlying170 rfl (by kernel_rfl)) ?_;simp only [Gw1ighta,Gw1ightb,Gw1ightc];refine wpG_call (.agg #[.string ak,.bool ab,.string av]) 109 #[.agg #[.int .u32 qd,.string qk,.int .u32 qi]] rfl (by rfl) (fun w'=>by go_simp) (fun w' hSw=>(HS.out w').mono fun e w2 h=>⟨h.1,hSw.trans (h.2.mono hSw.size)⟩) ?_;simp only [Gw1ighta,Gw1ightb,Gw1ightc];refine wpG_val (.agg #[.int .u8 mK,.int .u16 mM,.int .u32 l1,.int .u32 mS,.string mT,.int .u32 qi]) rfl (by rfl) (fun w' hSw=>load_all 161 (.tmp 5) rfl (w1.heap.size) rfl (Rd.out.go hSw) Tryz.underlying161 rfl (by kernel_rfl)) ?_;simp only [Gw1ighta,Gw1ightb,Gw1ightc];refine wpG_call (.agg #[.string bk,.bool bb,.string bv]) 102 #[.agg #[.int .u8 mK,.int .u16 mM,.int .u32 l1,.int .u32 mS,.string mT,.int .u32 qi]] rfl (by rfl) (fun w'=>by go_simp) (fun w' hSw=>(HK.out w').mono fun e w2 h=>⟨h.1,hSw.trans (h.2.mono hSw.size)⟩) ?_;simp only [Gw1ighta,Gw1ightb,Gw1ightc];refine wpG_nil ?_;intro w4 hb;simp only [List.drop_succ_cons,List.drop_zero];clear cv0 cq0 cq1 cq2 cd0 cd1 cd2 cd3 cd4 cd5;replace Rv:=gg Rv hb;replace Rq:=gg Rq hb;replace Rd:=gg Rd hb;replace B:=gb B hb;have cv0:=cl1 Rv.out;obtain⟨cq0,cq1,cq2⟩:=cl3 Rq.out;obtain⟨cd0,cd1,cd2,cd3,cd4,cd5⟩:=cl6 Rd.out;clear hb
  go_wp2
  go_ret
  exact⟨_,rfl,lit2 B.out ak ab av bk bb bv⟩
theorem replaces_any (h:VA w A n c L) (i was:Nat) (hi:i<4294967296) (hw:was<4294967296):Calls Tryz.prog 110 #[vV A n c,.int .u32 (i:Int),.int .u32 (was:Int)] w fun e w'=>e=.returned (.int .i64 (rpX L i was))∧Below w.heap.size w w':=by
 by_cases hd:(nd L i).K=1
 ·by_cases hw2:(nd L was).K=1
  ·cases hb2:busy L was
   ·
    have HI:=hid (fun (w1:World) (hb:Below w.heap.size w w1)=>node_any (h.go hb) i hi);have HW:=hid (fun (w1:World) (hb:Below w.heap.size w w1)=>node_any (h.go hb) was hw);have HBU:=hid (fun (w1:World) (hb:Below w.heap.size w w1)=>busy_any (h.go hb) was hw);unfold rpX isD;rw [decide_eq_true hd,decide_eq_true hw2];rw [hb2] at HBU ⊢;have e1:=eqK hd;have e2:=eqK hw2;generalize nd L i=m at *;generalize nd L was=r at *;obtain⟨mK,mM,mL,mS,mT⟩:=m;obtain⟨rK,rM,rL,rS,rT⟩:=r;try dsimp only [vNd] at *
    have f1:=fld0 mK mM mL mS i mT;have f2:=fldK mK mM mL mS mT;have f3:=fld0 rK rM rL rS was rT;have f4:=fldK rK rM rL rS rT;clear h hi hw hd hw2 hb2;have HN:=hid (one_new w #[.slice A n c] 84)
    go_enter Tryz.func110,Tryz.ntmps110
    go_wp2_with fail
    try generalize (w.alloc (.cells #[.slice A n c] 84))=w0 at *
    have Rv:=hid HN.out.1;have B:=hid HN.out.2.1;clear HN;have cv0:=cl1 Rv.out;refine (HI.out _ B.out).mono ?_;rintro e w1 ⟨rfl,hb⟩;clear cv0;replace Rv:=gg Rv hb;replace B:=gb B hb;have cv0:=cl1 Rv.out;clear hb
    go_wp2_with (first|(go_at_call 112;refine (HW.out _ B.out).mono ?_;rintro e w2 ⟨rfl,hb⟩;clear cv0;replace Rv:=gg Rv hb;replace B:=gb B hb;have cv0:=cl1 Rv.out;clear hb)|(go_at_call 113;refine (HBU.out _ B.out).mono ?_;rintro e w3 ⟨rfl,hb⟩;clear cv0;replace Rv:=gg Rv hb;replace B:=gb B hb;have cv0:=cl1 Rv.out;clear hb))
    go_ret
    exact⟨rfl,B.out⟩
   ·
    have HI:=hid (fun (w1:World) (hb:Below w.heap.size w w1)=>node_any (h.go hb) i hi);have HW:=hid (fun (w1:World) (hb:Below w.heap.size w w1)=>node_any (h.go hb) was hw);have HBU:=hid (fun (w1:World) (hb:Below w.heap.size w w1)=>busy_any (h.go hb) was hw);unfold rpX isD;rw [decide_eq_true hd,decide_eq_true hw2];rw [hb2] at HBU ⊢;have e1:=eqK hd;have e2:=eqK hw2;generalize nd L i=m at *;generalize nd L was=r at *;obtain⟨mK,mM,mL,mS,mT⟩:=m;obtain⟨rK,rM,rL,rS,rT⟩:=r;try dsimp only [vNd] at *
    have f1:=fld0 mK mM mL mS i mT;have f2:=fldK mK mM mL mS mT;have f3:=fld0 rK rM rL rS was rT;have f4:=fldK rK rM rL rS rT;clear h hi hw hd hw2 hb2;have HN:=hid (one_new w #[.slice A n c] 84)
    go_enter Tryz.func110,Tryz.ntmps110
    go_wp2_with fail
    try generalize (w.alloc (.cells #[.slice A n c] 84))=w0 at *
    have Rv:=hid HN.out.1;have B:=hid HN.out.2.1;clear HN;have cv0:=cl1 Rv.out;refine (HI.out _ B.out).mono ?_;rintro e w1 ⟨rfl,hb⟩;clear cv0;replace Rv:=gg Rv hb;replace B:=gb B hb;have cv0:=cl1 Rv.out;clear hb
    go_wp2_with (first|(go_at_call 112;refine (HW.out _ B.out).mono ?_;rintro e w2 ⟨rfl,hb⟩;clear cv0;replace Rv:=gg Rv hb;replace B:=gb B hb;have cv0:=cl1 Rv.out;clear hb)|(go_at_call 113;refine (HBU.out _ B.out).mono ?_;rintro e w3 ⟨rfl,hb⟩;clear cv0;replace Rv:=gg Rv hb;replace B:=gb B hb;have cv0:=cl1 Rv.out;clear hb))
    go_ret
    exact⟨rfl,B.out⟩
  ·
   have HI:=hid (fun (w1:World) (hb:Below w.heap.size w w1)=>node_any (h.go hb) i hi);have HW:=hid (fun (w1:World) (hb:Below w.heap.size w w1)=>node_any (h.go hb) was hw);have HBU:=hid (fun (w1:World) (hb:Below w.heap.size w w1)=>busy_any (h.go hb) was hw);unfold rpX isD;rw [decide_eq_true hd,decide_eq_false hw2];have e1:=eqK hd;have e2:=neK hw2;generalize nd L i=m at *;generalize nd L was=r at *;generalize busy L was=q at *;obtain⟨mK,mM,mL,mS,mT⟩:=m;obtain⟨rK,rM,rL,rS,rT⟩:=r;try dsimp only [vNd] at *
   have f1:=fld0 mK mM mL mS i mT;have f2:=fldK mK mM mL mS mT;have f3:=fld0 rK rM rL rS was rT;have f4:=fldK rK rM rL rS rT;clear h hi hw hd hw2;have HN:=hid (one_new w #[.slice A n c] 84)
   go_enter Tryz.func110,Tryz.ntmps110
   go_wp2_with fail
   try generalize (w.alloc (.cells #[.slice A n c] 84))=w0 at *
   have Rv:=hid HN.out.1;have B:=hid HN.out.2.1;clear HN;have cv0:=cl1 Rv.out;refine (HI.out _ B.out).mono ?_;rintro e w1 ⟨rfl,hb⟩;clear cv0;replace Rv:=gg Rv hb;replace B:=gb B hb;have cv0:=cl1 Rv.out;clear hb
   go_wp2_with (first|(go_at_call 112;refine (HW.out _ B.out).mono ?_;rintro e w2 ⟨rfl,hb⟩;clear cv0;replace Rv:=gg Rv hb;replace B:=gb B hb;have cv0:=cl1 Rv.out;clear hb))
   go_ret
   exact⟨rfl,B.out⟩
 ·by_cases hw2:(nd L was).K=1
  ·
   have HI:=hid (fun (w1:World) (hb:Below w.heap.size w w1)=>node_any (h.go hb) i hi);have HW:=hid (fun (w1:World) (hb:Below w.heap.size w w1)=>node_any (h.go hb) was hw);have HBU:=hid (fun (w1:World) (hb:Below w.heap.size w w1)=>busy_any (h.go hb) was hw);unfold rpX isD;rw [decide_eq_false hd,decide_eq_true hw2];have e1:=neK hd;have e2:=eqK hw2;generalize nd L i=m at *;generalize nd L was=r at *;generalize busy L was=q at *;obtain⟨mK,mM,mL,mS,mT⟩:=m;obtain⟨rK,rM,rL,rS,rT⟩:=r;try dsimp only [vNd] at *
   have f1:=fld0 mK mM mL mS i mT;have f2:=fldK mK mM mL mS mT;have f3:=fld0 rK rM rL rS was rT;have f4:=fldK rK rM rL rS rT;clear h hi hw hd hw2;have HN:=hid (one_new w #[.slice A n c] 84)
   go_enter Tryz.func110,Tryz.ntmps110
   go_wp2_with fail
   try generalize (w.alloc (.cells #[.slice A n c] 84))=w0 at *
   have Rv:=hid HN.out.1;have B:=hid HN.out.2.1;clear HN;have cv0:=cl1 Rv.out;refine (HI.out _ B.out).mono ?_;rintro e w1 ⟨rfl,hb⟩;clear cv0;replace Rv:=gg Rv hb;replace B:=gb B hb;have cv0:=cl1 Rv.out;clear hb
   go_wp2_with (first|(go_at_call 112;refine (HW.out _ B.out).mono ?_;rintro e w2 ⟨rfl,hb⟩;clear cv0;replace Rv:=gg Rv hb;replace B:=gb B hb;have cv0:=cl1 Rv.out;clear hb))
   go_ret
   exact⟨rfl,B.out⟩
  ·
   have HI:=hid (fun (w1:World) (hb:Below w.heap.size w w1)=>node_any (h.go hb) i hi);have HW:=hid (fun (w1:World) (hb:Below w.heap.size w w1)=>node_any (h.go hb) was hw);have HBU:=hid (fun (w1:World) (hb:Below w.heap.size w w1)=>busy_any (h.go hb) was hw);unfold rpX isD;rw [decide_eq_false hd,decide_eq_false hw2];have e1:=neK hd;have e2:=neK hw2;generalize nd L i=m at *;generalize nd L was=r at *;generalize busy L was=q at *;obtain⟨mK,mM,mL,mS,mT⟩:=m;obtain⟨rK,rM,rL,rS,rT⟩:=r;try dsimp only [vNd] at *
   have f1:=fld0 mK mM mL mS i mT;have f2:=fldK mK mM mL mS mT;have f3:=fld0 rK rM rL rS was rT;have f4:=fldK rK rM rL rS rT;clear h hi hw hd hw2;have HN:=hid (one_new w #[.slice A n c] 84)
   go_enter Tryz.func110,Tryz.ntmps110
   go_wp2_with fail
   try generalize (w.alloc (.cells #[.slice A n c] 84))=w0 at *
   have Rv:=hid HN.out.1;have B:=hid HN.out.2.1;clear HN;have cv0:=cl1 Rv.out;refine (HI.out _ B.out).mono ?_;rintro e w1 ⟨rfl,hb⟩;clear cv0;replace Rv:=gg Rv hb;replace B:=gb B hb;have cv0:=cl1 Rv.out;clear hb
   go_wp2_with (first|(go_at_call 112;refine (HW.out _ B.out).mono ?_;rintro e w2 ⟨rfl,hb⟩;clear cv0;replace Rv:=gg Rv hb;replace B:=gb B hb;have cv0:=cl1 Rv.out;clear hb))
   go_ret
   exact⟨rfl,B.out⟩
end Go.Proofs.YtopepebcnaikiaaGreatDoor.Fi
