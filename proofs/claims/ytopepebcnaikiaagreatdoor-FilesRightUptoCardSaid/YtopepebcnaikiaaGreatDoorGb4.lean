import Derived.Test.YtopepebcnaikiaaGreatDoorGb1
import Derived.Test.YtopepebcnaikiaaGreatDoorGb2
import Derived.Test.YtopepebcnaikiaaGreatDoorGb3
import Derived.Deep.OwnRows
import Derived.Lib.BufferWrite
import Derived.Laws.CopyOwn
import Derived.Deep.CutRange
set_option maxRecDepth 100000
set_option maxHeartbeats 20000000
set_option linter.unusedVariables false
set_option linter.unusedSimpArgs false
set_option maxRecDepth 100000
namespace Go.Proofs.YtopepebcnaikiaaGreatDoor
theorem Gb4a {α:Type}(l:List α)(i:Nat)(x:α):l.toArray.setIfInBounds i x=(l.set i x).toArray:=List.setIfInBounds_toArray ..
theorem Gb4b {α:Type}{a b:α}{l:List α}:(a::l).set 0 b=b::l:=List.set_cons_zero
theorem Gb4c {α:Type}{a b:α}{l:List α}{n:Nat}:(a::l).set (n+1) b=a::l.set n b:=List.set_cons_succ
end Go.Proofs.YtopepebcnaikiaaGreatDoor
namespace Go.Proofs.YtopepebcnaikiaaGreatDoor.Sc
open Lib (hid)
open Go.ChangeShapes Go.WideShapes Go.ChangeAt Go.RowKit
open Ar Rg St
def GA (D:List Ch) (x:Ch) (c:Nat):Bool:=match D[c]? with | some z=>!lt (key z) (key x) | none=>false
theorem GA_at {D:List Ch}{x z:Ch}{c:Nat}(h:D[c]?=some z):GA D x c=!lt (key z) (key x):=by unfold GA;rw [h]
def mv (P Y R:List Ch) (x:Ch) (t:Nat):List Ch:=P++(Y.take t++x::(Y.drop t++R))
theorem mv_form (P Y R:List Ch) (x:Ch) (t:Nat) (h:t<Y.length):mv P Y R x t=(P++Y.take t)++x::(Y[t]::(Y.drop (t+1)++R)):=by
 unfold mv;rw [List.drop_eq_getElem_cons h];simp only [List.append_assoc,List.cons_append]
theorem mv_form' (P Y R:List Ch) (x:Ch) (t:Nat) (h:t<Y.length) (u:Ch):(P++Y.take t)++u::(Y[t]::(Y.drop (t+1)++R))=((P++Y.take t)++[u])++Y[t]::(Y.drop (t+1)++R):=by simp only [List.append_assoc,List.cons_append,List.nil_append]
theorem mv_next (P Y R:List Ch) (x:Ch) (t:Nat) (h:t<Y.length):mv P Y R x (t+1)=((P++Y.take t)++[Y[t]])++x::(Y.drop (t+1)++R):=by
 have e:Y.take (t+1)=Y.take t++[Y[t]]:=List.take_succ_eq_append_getElem h;show P++(Y.take (t+1)++x::(Y.drop (t+1)++R))=_
 rw [e];simp only [List.append_assoc,List.cons_append,List.nil_append]
theorem mv_len1 (P Y:List Ch) (t:Nat) (h:t<Y.length):(P++Y.take t).length=P.length+t:=by rw [List.length_append,List.length_take];omega
theorem mv_len2 (P Y:List Ch) (t:Nat) (h:t<Y.length) (u:Ch):((P++Y.take t)++[u]).length=P.length+t+1:=by rw [List.length_append,mv_len1 P Y t h];rfl
theorem mv_at (P Y R:List Ch) (x:Ch) (t:Nat) (h:t<Y.length):(mv P Y R x t)[P.length+t]?=some x∧(mv P Y R x t)[P.length+t+1]?=some Y[t]:=by
 rw [mv_form P Y R x t h];refine⟨get_mid _ _ _ _ (mv_len1 P Y t h).symm,?_⟩;rw [mv_form' P Y R x t h x];exact get_mid _ _ _ _ (mv_len2 P Y t h x).symm
theorem mv_up (P Y R:List Ch) (x:Ch) (t:Nat) (h:t<Y.length):((mv P Y R x t).set (P.length+t) Y[t]).set (P.length+t+1) x=mv P Y R x (t+1):=by
 rw [mv_form P Y R x t h,set_mid _ _ _ _ _ (mv_len1 P Y t h).symm,mv_form' P Y R x t h,set_mid _ _ _ _ _ (mv_len2 P Y t h _).symm,mv_next P Y R x t h]
theorem mv_at' (P Y R:List Ch) (x:Ch) (t:Nat) (h:t<Y.length):(mv P Y R x (t+1))[P.length+t]?=some Y[t]∧(mv P Y R x (t+1))[P.length+t+1]?=some x:=by
 rw [mv_next P Y R x t h];refine⟨?_,get_mid _ _ _ _ (mv_len2 P Y t h _).symm⟩;have e:((P++Y.take t)++[Y[t]])++x::(Y.drop (t+1)++R)=(P++Y.take t)++Y[t]::(x::(Y.drop (t+1)++R)):=by simp only [List.append_assoc,List.cons_append,List.nil_append]
 rw [e];exact get_mid _ _ _ _ (mv_len1 P Y t h).symm
theorem mv_down (P Y R:List Ch) (x:Ch) (t:Nat) (h:t<Y.length):((mv P Y R x (t+1)).set (P.length+t+1) Y[t]).set (P.length+t) x=mv P Y R x t:=by
 rw [mv_next P Y R x t h,set_mid _ _ _ _ _ (mv_len2 P Y t h _).symm];have e:((P++Y.take t)++[Y[t]])++Y[t]::(Y.drop (t+1)++R)=(P++Y.take t)++Y[t]::(Y[t]::(Y.drop (t+1)++R)):=by simp only [List.append_assoc,List.cons_append,List.nil_append]
 rw [e,set_mid _ _ _ _ _ (mv_len1 P Y t h).symm,mv_form P Y R x t h]
theorem mv_zero (P Y R:List Ch) (x:Ch):mv P Y R x 0=P++(x::(Y++R)):=by simp [mv]
theorem mv_last (P Y R:List Ch) (x:Ch):mv P Y R x Y.length=P++(Y++x::R):=by simp [mv]
theorem mv_old (P Y R:List Ch) (x:Ch) (c:Nat) (h:c<Y.length):(mv P Y R x 0)[P.length+1+c]?=some Y[c]:=by
 rw [mv_zero,List.getElem?_append_right (by omega),show P.length+1+c-P.length=c+1 by omega,List.getElem?_cons_succ,List.getElem?_append_left h,List.getElem?_eq_getElem h]
theorem mv_old' (P Y R:List Ch) (x:Ch) (c:Nat) (h:c<Y.length):(mv P Y R x Y.length)[P.length+c]?=some Y[c]:=by
 rw [mv_last,List.getElem?_append_right (by omega),show P.length+c-P.length=c by omega,List.getElem?_append_left h,List.getElem?_eq_getElem h]
theorem sym_left (P Y R D:List Ch) (x:Ch) (hD:D=P++(x::(Y++R))) (hY:0<Y.length) (hs:Srt key lt Y) (g cap N:Nat) (hN:N=D.length) (hL:N≤cap) (hm:N≤281474976710656) (w:World) (hA:Arr enc 3 w g D) (a m b:Int) (ha:a=(P.length:Int)) (hmm:m=(P.length:Int)+1) (hb:b=(P.length:Int)+1+Y.length) :
  Calls Tryz.prog 148 #[.slice (some ⟨g,0,none⟩) N cap,.int .i64 a,.int .i64 m,.int .i64 b,CMP] w fun e w'=>e=.returned (.tuple #[])∧Merged P [x] Y R g w w':=by
 obtain⟨A0,hA0⟩:∃ M:Nat,M=P.length:=⟨_,rfl⟩;obtain⟨yl,hyl⟩:∃ n,n=Y.length:=⟨_,rfl⟩;have hlen:A0+1+yl≤N:=by rw [hN,hD,hA0,hyl];simp only [List.length_append,List.length_cons];omega
 have hx0:D[A0]?=some x:=by rw [hD];exact get_mid _ _ _ _ hA0
 have hDm:D=mv P Y R x 0:=by rw [mv_zero];exact hD
 have HDM:=hid hDm;have HA:=hid hA;have HD:=hid hD;have HN:=hid hN;have HS:=hid hs;rw [← hA0] at ha hmm hb;rw [← hyl] at hb hY;have HA0:=hid hA0;have HYL:=hid hyl;clear hA hD hDm hN hs hA0 hyl;subst ha hmm hb;have hq:(((A0:Int)+1-A0)==1)=true:=by rw [beq_iff_eq];omega
 unfold CMP
 go_enter Tryz.func148,Tryz.ntmps148
 go_wp2_with fail
 go_loopw [10,11] (fun v u wr=>∃ lo hi:Nat,v=.int .i64 lo∧u=.int .i64 hi∧Hid (Bs (GA D x) (A0+1) (A0+1+yl) lo hi)∧Hid (Arr enc 3 wr g D)∧Hid (w.grownBy wr (some g))) (fun v u _=>(intOf u).toNat-(intOf v).toNat)
 case atStart=>exact⟨A0+1,A0+1+yl,by go_num,by go_num,Bs.start _ (by omega),HA.out,grown_refl _ _⟩
 case round =>
  obtain⟨lo,hi,rfl,rfl,hbs,hAr,hgr⟩:=hrel;have hbd:=Hid.out hbs;obtain⟨n1,n2,n3,_⟩:=hbd;by_cases hlt:lo<hi
  ·obtain⟨h,hh⟩:∃ h:Nat,((lo:Int)+(hi:Int)) / 2=(h:Int):=⟨(lo+hi) / 2,by omega⟩;have n4:lo≤h:=by omega
   have n5:h<hi:=by omega
   have n6:(0:Int)≤(h:Int):=by omega
   have n7:(h:Int)<(N:Int):=by omega
   have n8:(0:Int)≤(A0:Int):=by omega
   have n9:(A0:Int)<(N:Int):=by omega
   obtain⟨z,hz⟩:∃ z,D[h]?=some z:=⟨_,List.getElem?_eq_getElem (by rw [← HN.out];omega)⟩;obtain⟨c,hcf⟩:∃ c,cf z x=c:=⟨_,rfl⟩;have hcl:=cf_lt z x;rw [hcf] at hcl;by_cases hb:lt (key z) (key x)=true
   ·have hc0:c<0:=hcl.2 hb;have HUP:=hid ((Hid.out hbs).up n4 n5 (by rw [GA_at hz,hb];rfl));clear hcl
    go_wp2_with fail
    refine wp_region_held_drew (S:=fun w'=>Arr enc 3 w' g D∧w.grownBy w' (some g)) (by kernel_rfl) ⟨(Hid.out hAr).drew,grown_trans (Hid.out hgr) (grown_drew _ _)⟩ (fun hHeld=>?_);refine take_at 0 40 (.func (.func 76) #[] #[]) rfl (by rfl) (by kernel_rfl) (by kernel_rfl) (by kernel_rfl) (fun _ _ _ h=>h) (Or.inl ⟨by rfl,fun w' hSw=>by go_simp⟩) (by assumption) ?_;simp only [Gb4a,Gb4b,Gb4c];refine take_at 1 41 (.slice (some ⟨g,0,none⟩) N cap) rfl (by rfl) (by kernel_rfl) (by kernel_rfl) (by kernel_rfl) (fun _ _ _ h=>h) (Or.inl ⟨by rfl,fun w' hSw=>by go_simp⟩) (by assumption) ?_;simp only [Gb4a,Gb4b,Gb4c];refine take_at 2 42 (.int .i64 h) rfl (by rfl) (by kernel_rfl) (by kernel_rfl) (by kernel_rfl) (fun _ _ _ h=>h) (Or.inl ⟨by rfl,fun w' hSw=>by go_simp⟩) (by assumption) ?_;simp only [Gb4a,Gb4b,Gb4c];refine take_at 3 43 (.pointer (some ⟨g,h*3,none⟩)) rfl (by rfl) (by kernel_rfl) (by kernel_rfl) (by kernel_rfl) (fun _ _ _ h=>h) (Or.inl ⟨by rfl,fun w' hSw=>by go_simp⟩) (by assumption) ?_;simp only [Gb4a,Gb4b,Gb4c];refine take_at 4 44 (.agg (enc z).toArray) rfl (by rfl) (by kernel_rfl) (by kernel_rfl) (by kernel_rfl) (fun _ _ _ h=>h) (yieldsIf_load_mid (by rfl) _ _ rfl _ _ rfl (enc z) _ (fun w' hSw=>hSw.1.range hz) Tryz.underlying138 rfl (by rw [enc_len];exact infoE)) (by assumption) ?_;simp only [Gb4a,Gb4b,Gb4c];refine take_at 5 45 (.slice (some ⟨g,0,none⟩) N cap) rfl (by rfl) (by kernel_rfl) (by kernel_rfl) (by kernel_rfl) (fun _ _ _ h=>h) (Or.inl ⟨by rfl,fun w' hSw=>by go_simp⟩) (by assumption) ?_;simp only [Gb4a,Gb4b,Gb4c];refine take_at 6 46 (.int .i64 A0) rfl (by rfl) (by kernel_rfl) (by kernel_rfl) (by kernel_rfl) (fun _ _ _ h=>h) (Or.inl ⟨by rfl,fun w' hSw=>by go_simp⟩) (by assumption) ?_;simp only [Gb4a,Gb4b,Gb4c];refine take_at 7 47 (.pointer (some ⟨g,A0*3,none⟩)) rfl (by rfl) (by kernel_rfl) (by kernel_rfl) (by kernel_rfl) (fun _ _ _ h=>h) (Or.inl ⟨by rfl,fun w' hSw=>by go_simp⟩) (by assumption) ?_;simp only [Gb4a,Gb4b,Gb4c];refine take_at 8 48 (.agg (enc x).toArray) rfl (by rfl) (by kernel_rfl) (by kernel_rfl) (by kernel_rfl) (fun _ _ _ h=>h) (yieldsIf_load_mid (by rfl) _ _ rfl _ _ rfl (enc x) _ (fun w' hSw=>hSw.1.range hx0) Tryz.underlying138 rfl (by rw [enc_len];exact infoE)) (by assumption) ?_;simp only [Gb4a,Gb4b,Gb4c];refine wpAnyH_ready (rs:=[9]) (by kernel_rfl) (by simp) ?_;refine AllReadyH.cons rfl (fun K hK=>?_) AllReadyH.nil
    go_simp
    go_wp2_with (go_at_call 76;refine (cmp_at z x c hcf _).mono ?_;rintro e w5 ⟨rfl,hg5⟩)
    refine hK.out _ _ ⟨hHeld.1.grown0 enc_len (by omega) hg5,grown_trans hHeld.2 (grown_weak hg5 _)⟩ (fun hHeld=>?_);clear hK K;refine take_at 10 50 (.bool true) rfl (by rfl) (by kernel_rfl) (by kernel_rfl) (by kernel_rfl) (fun _ _ _ h=>h) (Or.inl ⟨by rfl,fun w' hSw=>by go_simp⟩) (by assumption) ?_;simp only [Gb4a,Gb4b,Gb4c];refine wpAnyH_done (by kernel_rfl) ?_ _;obtain⟨hH1,hH2⟩:=hHeld;have HH1:=hid hH1;have HH2:=hid hH2;clear hH1 hH2 hAr hgr
    go_wp2
    exact⟨⟨h+1,hi,by go_num,rfl,HUP.out,HH1.out,HH2.out⟩,by simp [intOf]<;>omega⟩
   ·have hc1:¬ c<0:=fun e=>hb (hcl.1 e)
    have hc0:0≤c:=by omega
    have HDN:=hid ((Hid.out hbs).down n4 n5 (by rw [GA_at hz];simp only [hb];rfl));clear hcl hc1
    go_wp2_with fail
    refine wp_region_held_drew (S:=fun w'=>Arr enc 3 w' g D∧w.grownBy w' (some g)) (by kernel_rfl) ⟨(Hid.out hAr).drew,grown_trans (Hid.out hgr) (grown_drew _ _)⟩ (fun hHeld=>?_);refine take_at 0 40 (.func (.func 76) #[] #[]) rfl (by rfl) (by kernel_rfl) (by kernel_rfl) (by kernel_rfl) (fun _ _ _ h=>h) (Or.inl ⟨by rfl,fun w' hSw=>by go_simp⟩) (by assumption) ?_;simp only [Gb4a,Gb4b,Gb4c];refine take_at 1 41 (.slice (some ⟨g,0,none⟩) N cap) rfl (by rfl) (by kernel_rfl) (by kernel_rfl) (by kernel_rfl) (fun _ _ _ h=>h) (Or.inl ⟨by rfl,fun w' hSw=>by go_simp⟩) (by assumption) ?_;simp only [Gb4a,Gb4b,Gb4c];refine take_at 2 42 (.int .i64 h) rfl (by rfl) (by kernel_rfl) (by kernel_rfl) (by kernel_rfl) (fun _ _ _ h=>h) (Or.inl ⟨by rfl,fun w' hSw=>by go_simp⟩) (by assumption) ?_;simp only [Gb4a,Gb4b,Gb4c];refine take_at 3 43 (.pointer (some ⟨g,h*3,none⟩)) rfl (by rfl) (by kernel_rfl) (by kernel_rfl) (by kernel_rfl) (fun _ _ _ h=>h) (Or.inl ⟨by rfl,fun w' hSw=>by go_simp⟩) (by assumption) ?_;simp only [Gb4a,Gb4b,Gb4c];refine take_at 4 44 (.agg (enc z).toArray) rfl (by rfl) (by kernel_rfl) (by kernel_rfl) (by kernel_rfl) (fun _ _ _ h=>h) (yieldsIf_load_mid (by rfl) _ _ rfl _ _ rfl (enc z) _ (fun w' hSw=>hSw.1.range hz) Tryz.underlying138 rfl (by rw [enc_len];exact infoE)) (by assumption) ?_;simp only [Gb4a,Gb4b,Gb4c];refine take_at 5 45 (.slice (some ⟨g,0,none⟩) N cap) rfl (by rfl) (by kernel_rfl) (by kernel_rfl) (by kernel_rfl) (fun _ _ _ h=>h) (Or.inl ⟨by rfl,fun w' hSw=>by go_simp⟩) (by assumption) ?_;simp only [Gb4a,Gb4b,Gb4c];refine take_at 6 46 (.int .i64 A0) rfl (by rfl) (by kernel_rfl) (by kernel_rfl) (by kernel_rfl) (fun _ _ _ h=>h) (Or.inl ⟨by rfl,fun w' hSw=>by go_simp⟩) (by assumption) ?_;simp only [Gb4a,Gb4b,Gb4c];refine take_at 7 47 (.pointer (some ⟨g,A0*3,none⟩)) rfl (by rfl) (by kernel_rfl) (by kernel_rfl) (by kernel_rfl) (fun _ _ _ h=>h) (Or.inl ⟨by rfl,fun w' hSw=>by go_simp⟩) (by assumption) ?_;simp only [Gb4a,Gb4b,Gb4c];refine take_at 8 48 (.agg (enc x).toArray) rfl (by rfl) (by kernel_rfl) (by kernel_rfl) (by kernel_rfl) (fun _ _ _ h=>h) (yieldsIf_load_mid (by rfl) _ _ rfl _ _ rfl (enc x) _ (fun w' hSw=>hSw.1.range hx0) Tryz.underlying138 rfl (by rw [enc_len];exact infoE)) (by assumption) ?_;simp only [Gb4a,Gb4b,Gb4c];refine wpAnyH_ready (rs:=[9]) (by kernel_rfl) (by simp) ?_;refine AllReadyH.cons rfl (fun K hK=>?_) AllReadyH.nil
    go_simp
    go_wp2_with (go_at_call 76;refine (cmp_at z x c hcf _).mono ?_;rintro e w5 ⟨rfl,hg5⟩)
    refine hK.out _ _ ⟨hHeld.1.grown0 enc_len (by omega) hg5,grown_trans hHeld.2 (grown_weak hg5 _)⟩ (fun hHeld=>?_);clear hK K;refine take_at 10 50 (.bool false) rfl (by rfl) (by kernel_rfl) (by kernel_rfl) (by kernel_rfl) (fun _ _ _ h=>h) (Or.inl ⟨by rfl,fun w' hSw=>by go_simp⟩) (by assumption) ?_;simp only [Gb4a,Gb4b,Gb4c];refine wpAnyH_done (by kernel_rfl) ?_ _;obtain⟨hH1,hH2⟩:=hHeld;have HH1:=hid hH1;have HH2:=hid hH2;clear hH1 hH2 hAr hgr
    go_wp2
    exact⟨⟨lo,h,rfl,rfl,HDN.out,HH1.out,HH2.out⟩,by simp [intOf]<;>omega⟩
  ·obtain rfl:lo=hi:=by omega
   obtain⟨p,rfl⟩:∃ p,lo=A0+1+p:=⟨lo-(A0+1),by omega⟩;have hp:p≤yl:=by omega
   have hm1:Srt key lt (Y.take p++x::Y.drop p)∧Sm key ([x]++Y) (Y.take p++x::Y.drop p):=by
    obtain⟨_,_,_,g1,g2⟩:=Hid.out hbs;refine one_left HS.out (take_lt HS.out ?_) (drop_ge HS.out ?_)
    ·rcases g1 with g1 | g1
     ·left;omega
     ·rcases Nat.eq_zero_or_pos p with h0 | h0
      ·left;exact h0
      ·right;have hz:=mv_old P Y R x (p-1) (by rw [← HYL.out];omega);rw [← HDM.out,← HA0.out] at hz;rw [show A0+1+p-1=A0+1+(p-1) by omega,GA_at hz] at g1;exact⟨_,List.getElem?_eq_getElem (by rw [← HYL.out];omega),by simpa using g1⟩
    ·rcases g2 with g2 | g2
     ·left;rw [← HYL.out];omega
     ·rcases Nat.lt_or_ge p yl with h0 | h0
      ·right;have hz:=mv_old P Y R x p (by rw [← HYL.out];omega);rw [← HDM.out,← HA0.out] at hz;rw [GA_at hz] at g2;exact⟨_,List.getElem?_eq_getElem (by rw [← HYL.out];omega),by simpa using g2⟩
      ·left;rw [← HYL.out];omega
   have HM:=hid hm1;have hAr0:Arr enc 3 wr g (mv P Y R x 0):=by rw [← HDM.out];exact Hid.out hAr
   have HAr0:=hid hAr0;clear hm1 hbs hAr0
   go_wp2_with fail
   go_loopw [13] (fun v wk=>∃ t:Nat,t≤p∧v=.int .i64 ((A0:Int)+t)∧Hid (Arr enc 3 wk g (mv P Y R x t))∧Hid (w.grownBy wk (some g))) (fun v _=>A0+p-(intOf v).toNat)
   case atStart=>exact⟨0,Nat.zero_le _,by go_num,HAr0.out,hgr⟩
   case round =>
    clear HAr0 hAr hgr;obtain⟨t,ht,rfl,hArk,hgk⟩:=hrel;by_cases htp:t<p
    ·have htY:t<Y.length:=by rw [← HYL.out];omega
     obtain⟨z,hzz⟩:∃ z,z=Y[t]:=⟨_,rfl⟩;have hxk:=(mv_at P Y R x t htY).1;have hzk:=(mv_at P Y R x t htY).2;have hup:=mv_up P Y R x t htY;rw [← hzz] at hzk hup;rw [← HA0.out] at hxk hzk hup;have hup:=hid hup;have ll:A0+t<(mv P Y R x t).length:=(List.getElem?_eq_some_iff.1 hxk).1;have lr:A0+t+1<((mv P Y R x t).set (A0+t) z).length:=by rw [List.length_set];exact (List.getElem?_eq_some_iff.1 hzk).1
     have q1:(0:Int)≤(A0:Int)+(t:Int):=by omega
     have q2:(A0:Int)+(t:Int)<(N:Int):=by omega
     have q3:(0:Int)≤(A0:Int)+(t:Int)+1:=by omega
     have q4:(A0:Int)+(t:Int)+1<(N:Int):=by omega
     clear hzz
     go_wp2_with fail
     refine wp_region_held_drew (S:=fun _=>True) (by kernel_rfl) trivial (fun hHeld=>?_);refine take_at 0 61 (.slice (some ⟨g,0,none⟩) N cap) rfl (by rfl) (by kernel_rfl) (by kernel_rfl) (by kernel_rfl) (fun _ _ _ h=>h) (Or.inl ⟨by rfl,fun w' hSw=>by go_simp⟩) (by assumption) ?_;simp only [Gb4a,Gb4b,Gb4c];refine take_at 1 62 (.int .i64 ((A0:Int)+(t:Int))) rfl (by rfl) (by kernel_rfl) (by kernel_rfl) (by kernel_rfl) (fun _ _ _ h=>h) (Or.inl ⟨by rfl,fun w' hSw=>by go_simp⟩) (by assumption) ?_;simp only [Gb4a,Gb4b,Gb4c];refine take_at 2 63 (.slice (some ⟨g,0,none⟩) N cap) rfl (by rfl) (by kernel_rfl) (by kernel_rfl) (by kernel_rfl) (fun _ _ _ h=>h) (Or.inl ⟨by rfl,fun w' hSw=>by go_simp⟩) (by assumption) ?_;simp only [Gb4a,Gb4b,Gb4c];refine take_at 3 64 (.int .i64 ((A0:Int)+(t:Int))) rfl (by rfl) (by kernel_rfl) (by kernel_rfl) (by kernel_rfl) (fun _ _ _ h=>h) (Or.inl ⟨by rfl,fun w' hSw=>by go_simp⟩) (by assumption) ?_;simp only [Gb4a,Gb4b,Gb4c];refine take_at 4 65 (.int .i64 ((A0:Int)+(t:Int)+1)) rfl (by rfl) (by kernel_rfl) (by kernel_rfl) (by kernel_rfl) (fun _ _ _ h=>h) (Or.inl ⟨by rfl,fun w' hSw=>by go_simp<;>exact IntWalk.i64_in _ ⟨by omega,by omega⟩⟩) (by assumption) ?_;simp only [Gb4a,Gb4b,Gb4c];refine take_at 5 66 (.slice (some ⟨g,0,none⟩) N cap) rfl (by rfl) (by kernel_rfl) (by kernel_rfl) (by kernel_rfl) (fun _ _ _ h=>h) (Or.inl ⟨by rfl,fun w' hSw=>by go_simp⟩) (by assumption) ?_;simp only [Gb4a,Gb4b,Gb4c];refine take_at 6 67 (.int .i64 ((A0:Int)+(t:Int))) rfl (by rfl) (by kernel_rfl) (by kernel_rfl) (by kernel_rfl) (fun _ _ _ h=>h) (Or.inl ⟨by rfl,fun w' hSw=>by go_simp⟩) (by assumption) ?_;simp only [Gb4a,Gb4b,Gb4c];refine take_at 7 68 (.int .i64 ((A0:Int)+(t:Int)+1)) rfl (by rfl) (by kernel_rfl) (by kernel_rfl) (by kernel_rfl) (fun _ _ _ h=>h) (Or.inl ⟨by rfl,fun w' hSw=>by go_simp<;>exact IntWalk.i64_in _ ⟨by omega,by omega⟩⟩) (by assumption) ?_;simp only [Gb4a,Gb4b,Gb4c];refine take_at 8 69 (.pointer (some ⟨g,(A0+t+1)*3,none⟩)) rfl (by rfl) (by kernel_rfl) (by kernel_rfl) (by kernel_rfl) (fun _ _ _ h=>h) (Or.inl ⟨by rfl,fun w' hSw=>by go_simp⟩) (by assumption) ?_;simp only [Gb4a,Gb4b,Gb4c];refine take_at 10 71 (.slice (some ⟨g,0,none⟩) N cap) rfl (by rfl) (by kernel_rfl) (by kernel_rfl) (by kernel_rfl) (fun _ _ _ h=>h) (Or.inl ⟨by rfl,fun w' hSw=>by go_simp⟩) (by assumption) ?_;simp only [Gb4a,Gb4b,Gb4c];refine take_at 11 72 (.int .i64 ((A0:Int)+(t:Int))) rfl (by rfl) (by kernel_rfl) (by kernel_rfl) (by kernel_rfl) (fun _ _ _ h=>h) (Or.inl ⟨by rfl,fun w' hSw=>by go_simp⟩) (by assumption) ?_;simp only [Gb4a,Gb4b,Gb4c];refine take_at 12 73 (.pointer (some ⟨g,(A0+t)*3,none⟩)) rfl (by rfl) (by kernel_rfl) (by kernel_rfl) (by kernel_rfl) (fun _ _ _ h=>h) (Or.inl ⟨by rfl,fun w' hSw=>by go_simp⟩) (by assumption) ?_;simp only [Gb4a,Gb4b,Gb4c];have HAd:=hid (Hid.out hArk).drew;have HGd:=hid (grown_trans (Hid.out hgk) (grown_drew _ (some g)));generalize wr.drew=X at *;have H1:=hid (HAd.out.store enc_len ll z);have H2:=hid (show Arr enc 3 ((X.setCells g ((A0+t)*3) (enc z)).setCells g ((A0+t+1)*3) (enc x)) g (mv P Y R x (t+1)) by rw [← hup.out];exact H1.out.store enc_len lr x)
     have G2:=hid (grown_trans (grown_trans HGd.out (grown_setCells X g ((A0+t)*3) (enc z))) (grown_setCells _ g ((A0+t+1)*3) (enc x)));have HX:=hid (HAd.out.range hxk);have HZ:=hid (HAd.out.range hzk);clear hArk hgk;refine wpAnyH_ready (rs:=[9,13]) (by kernel_rfl) (by simp) ?_;refine all_at 9 70 (.agg (enc z).toArray) X rfl (by rfl) (by rfl) (load_run 138 (.tmp 69) rfl g ((A0+t+1)*3) rfl (enc z) _ HZ.out Tryz.underlying138 rfl (by rw [enc_len];exact infoE)) trivial (fun hHeld=>?_) ?_
     ·simp only [Gb4a,Gb4b,Gb4c];refine wpAnyH_ready (rs:=[13]) (by kernel_rfl) (by simp) ?_;refine all_at 13 74 (.agg (enc x).toArray) X rfl (by rfl) (by rfl) (load_run 138 (.tmp 73) rfl g ((A0+t)*3) rfl (enc x) _ HX.out Tryz.underlying138 rfl (by rw [enc_len];exact infoE)) trivial (fun hHeld=>?_) all_nil;simp only [Gb4a,Gb4b,Gb4c];refine take_at 14 75 (.pointer (some ⟨g,(A0+t)*3,none⟩)) rfl (by rfl) (by kernel_rfl) (by kernel_rfl) (by kernel_rfl) (fun _ _ _ h=>h) (Or.inl ⟨by rfl,fun w' hSw=>by go_simp⟩) (by assumption) ?_;simp only [Gb4a,Gb4b,Gb4c];refine wpAnyH_ready (rs:=[15]) (by kernel_rfl) (by simp) ?_;refine all_wp 15 _ (X.setCells g ((A0+t)*3) (enc z)) rfl (by rfl) (fun K' hk=>wp_store_mid 138 (.tmp 75) (.tmp 70) rfl g ((A0+t)*3) (enc z).toArray rfl rfl (HAd.out.there enc_len ll) (by rw [List.size_toArray,enc_len];exact infoE) (all_oneCell_toArray (enc_one _)) (by simpa only [List.toList_toArray] using hk)) trivial (fun hHeld=>?_) all_nil;simp only [Act.put];refine take_at 16 76 (.pointer (some ⟨g,(A0+t+1)*3,none⟩)) rfl (by rfl) (by kernel_rfl) (by kernel_rfl) (by kernel_rfl) (fun _ _ _ h=>h) (Or.inl ⟨by rfl,fun w' hSw=>by go_simp⟩) (by assumption) ?_;simp only [Gb4a,Gb4b,Gb4c];refine wpAnyH_ready (rs:=[17]) (by kernel_rfl) (by simp) ?_;refine all_wp 17 _ ((X.setCells g ((A0+t)*3) (enc z)).setCells g ((A0+t+1)*3) (enc x)) rfl (by rfl) (fun K' hk=>wp_store_mid 138 (.tmp 76) (.tmp 74) rfl g ((A0+t+1)*3) (enc x).toArray rfl rfl (H1.out.there enc_len lr) (by rw [List.size_toArray,enc_len];exact infoE) (all_oneCell_toArray (enc_one _)) (by simpa only [List.toList_toArray] using hk)) trivial (fun hHeld=>?_) all_nil;simp only [Act.put];refine wpAnyH_done (by kernel_rfl) ?_ _;generalize ((X.setCells g ((A0+t)*3) (enc z)).setCells g ((A0+t+1)*3) (enc x))=Z at *;clear H1 HAd HGd HX HZ
      go_wp2
      refine⟨⟨_,_,_,_,_,_,_,_,_,_,_,_,_,_,_,_,_,_,_,_,_,_,_,⟨t+1,by omega,?_,H2.out,G2.out⟩,rfl⟩,by simp [intOf]<;>omega⟩
      go_num
     refine all_at 13 74 (.agg (enc x).toArray) X rfl (by rfl) (by rfl) (load_run 138 (.tmp 73) rfl g ((A0+t)*3) rfl (enc x) _ HX.out Tryz.underlying138 rfl (by rw [enc_len];exact infoE)) trivial (fun hHeld=>?_) all_nil;simp only [Gb4a,Gb4b,Gb4c];refine wpAnyH_ready (rs:=[9]) (by kernel_rfl) (by simp) ?_;refine all_at 9 70 (.agg (enc z).toArray) X rfl (by rfl) (by rfl) (load_run 138 (.tmp 69) rfl g ((A0+t+1)*3) rfl (enc z) _ HZ.out Tryz.underlying138 rfl (by rw [enc_len];exact infoE)) trivial (fun hHeld=>?_) all_nil;simp only [Gb4a,Gb4b,Gb4c];refine take_at 14 75 (.pointer (some ⟨g,(A0+t)*3,none⟩)) rfl (by rfl) (by kernel_rfl) (by kernel_rfl) (by kernel_rfl) (fun _ _ _ h=>h) (Or.inl ⟨by rfl,fun w' hSw=>by go_simp⟩) (by assumption) ?_;simp only [Gb4a,Gb4b,Gb4c];refine wpAnyH_ready (rs:=[15]) (by kernel_rfl) (by simp) ?_;refine all_wp 15 _ (X.setCells g ((A0+t)*3) (enc z)) rfl (by rfl) (fun K' hk=>wp_store_mid 138 (.tmp 75) (.tmp 70) rfl g ((A0+t)*3) (enc z).toArray rfl rfl (HAd.out.there enc_len ll) (by rw [List.size_toArray,enc_len];exact infoE) (all_oneCell_toArray (enc_one _)) (by simpa only [List.toList_toArray] using hk)) trivial (fun hHeld=>?_) all_nil;simp only [Act.put];refine take_at 16 76 (.pointer (some ⟨g,(A0+t+1)*3,none⟩)) rfl (by rfl) (by kernel_rfl) (by kernel_rfl) (by kernel_rfl) (fun _ _ _ h=>h) (Or.inl ⟨by rfl,fun w' hSw=>by go_simp⟩) (by assumption) ?_;simp only [Gb4a,Gb4b,Gb4c];refine wpAnyH_ready (rs:=[17]) (by kernel_rfl) (by simp) ?_;refine all_wp 17 _ ((X.setCells g ((A0+t)*3) (enc z)).setCells g ((A0+t+1)*3) (enc x)) rfl (by rfl) (fun K' hk=>wp_store_mid 138 (.tmp 76) (.tmp 74) rfl g ((A0+t+1)*3) (enc x).toArray rfl rfl (H1.out.there enc_len lr) (by rw [List.size_toArray,enc_len];exact infoE) (all_oneCell_toArray (enc_one _)) (by simpa only [List.toList_toArray] using hk)) trivial (fun hHeld=>?_) all_nil;simp only [Act.put];refine wpAnyH_done (by kernel_rfl) ?_ _;generalize ((X.setCells g ((A0+t)*3) (enc z)).setCells g ((A0+t+1)*3) (enc x))=Z at *;clear H1 HAd HGd HX HZ
     go_wp2
     refine⟨⟨_,_,_,_,_,_,_,_,_,_,_,_,_,_,_,_,_,_,_,_,_,_,_,⟨t+1,by omega,?_,H2.out,G2.out⟩,rfl⟩,by simp [intOf]<;>omega⟩
     go_num
    ·obtain rfl:t=p:=by omega
     have hfin:Merged P [x] Y R g w wr:=by
      refine⟨Y.take t++x::Y.drop t,?_,?_,HM.out.1,HM.out.2,Hid.out hgk⟩
      ·have e:P++((Y.take t++x::Y.drop t)++R)=mv P Y R x t:=by simp [mv]
       rw [e];exact Hid.out hArk
      ·simp only [List.length_append,List.length_cons,List.length_take,List.length_drop,List.length_nil];omega
     have HF:=hid hfin;clear hfin hArk hgk
     go_wp2
     exact⟨rfl,_,results_none rfl _ _ _,rfl,HF.out⟩
def GB (D:List Ch) (y:Ch) (c:Nat):Bool:=match D[c]? with | some z=>lt (key y) (key z) | none=>false
theorem GB_at {D:List Ch}{y z:Ch}{c:Nat}(h:D[c]?=some z):GB D y c=lt (key y) (key z):=by unfold GB;rw [h]
theorem sym_right (P X R D:List Ch) (y:Ch) (hD:D=P++(X++(y::R))) (hX:1<X.length) (hs:Srt key lt X) (g cap N:Nat) (hN:N=D.length) (hL:N≤cap) (hm:N≤281474976710656) (w:World) (hA:Arr enc 3 w g D) (a m b:Int) (ha:a=(P.length:Int)) (hmm:m=(P.length:Int)+X.length) (hb:b=(P.length:Int)+X.length+1) :
  Calls Tryz.prog 148 #[.slice (some ⟨g,0,none⟩) N cap,.int .i64 a,.int .i64 m,.int .i64 b,CMP] w fun e w'=>e=.returned (.tuple #[])∧Merged P X [y] R g w w':=by
 obtain⟨A0,hA0⟩:∃ M:Nat,M=P.length:=⟨_,rfl⟩;obtain⟨xl,hxl⟩:∃ n,n=X.length:=⟨_,rfl⟩;obtain⟨M,hM⟩:∃ M:Nat,M=A0+xl:=⟨_,rfl⟩;have hlen:M+1≤N:=by rw [hN,hD,hM,hA0,hxl];simp only [List.length_append,List.length_cons];omega
 have hDm:D=mv P X R y X.length:=by rw [mv_last];exact hD
 have hyM:D[M]?=some y:=by
  rw [hD,← List.append_assoc];exact get_mid _ _ _ _ (by rw [List.length_append,hM,hA0,hxl])
 have HDM:=hid hDm;have HA:=hid hA;have HN:=hid hN;have HS:=hid hs;rw [← hxl] at hmm hb hX;rw [← hA0] at ha hmm hb;have em:m=(M:Int):=by omega
 have eb:b=(M:Int)+1:=by omega
 have HA0:=hid hA0;have HXL:=hid hxl;have hM1:A0+xl≤M:=by omega
 have hM2:M≤A0+xl:=by omega
 clear hA hD hDm hN hs hA0 hxl hmm hb hM;subst ha em eb;have hq0:(((M:Int)-A0)==1)=false:=by rw [beq_eq_false_iff_ne];omega
 have hq:(((M:Int)+1-M)==1)=true:=by rw [beq_iff_eq];omega
 unfold CMP
 go_enter Tryz.func148,Tryz.ntmps148
 go_wp2_with fail
 go_loopw [14,15] (fun v u wr=>∃ lo hi:Nat,v=.int .i64 lo∧u=.int .i64 hi∧Hid (Bs (GB D y) A0 M lo hi)∧Hid (Arr enc 3 wr g D)∧Hid (w.grownBy wr (some g))) (fun v u _=>(intOf u).toNat-(intOf v).toNat)
 case atStart=>exact⟨A0,M,by go_num,by go_num,Bs.start _ (by omega),HA.out,grown_refl _ _⟩
 case round =>
  obtain⟨lo,hi,rfl,rfl,hbs,hAr,hgr⟩:=hrel;have hbd:=Hid.out hbs;obtain⟨n1,n2,n3,_⟩:=hbd;by_cases hlt:lo<hi
  ·obtain⟨h,hh⟩:∃ h:Nat,((lo:Int)+(hi:Int)) / 2=(h:Int):=⟨(lo+hi) / 2,by omega⟩;have n4:lo≤h:=by omega
   have n5:h<hi:=by omega
   have n6:(0:Int)≤(h:Int):=by omega
   have n7:(h:Int)<(N:Int):=by omega
   have n8:(0:Int)≤(M:Int):=by omega
   have n9:(M:Int)<(N:Int):=by omega
   obtain⟨z,hz⟩:∃ z,D[h]?=some z:=⟨_,List.getElem?_eq_getElem (by rw [← HN.out];omega)⟩;obtain⟨c,hcf⟩:∃ c,cf y z=c:=⟨_,rfl⟩;have hcl:=cf_lt y z;rw [hcf] at hcl;by_cases hb:lt (key y) (key z)=true
   ·have hc0:c<0:=hcl.2 hb;have HDN:=hid ((Hid.out hbs).down n4 n5 (by rw [GB_at hz,hb]));clear hcl
    go_wp2_with fail
    refine wp_region_held_drew (S:=fun w'=>Arr enc 3 w' g D∧w.grownBy w' (some g)) (by kernel_rfl) ⟨(Hid.out hAr).drew,grown_trans (Hid.out hgr) (grown_drew _ _)⟩ (fun hHeld=>?_);refine take_at 0 92 (.func (.func 76) #[] #[]) rfl (by rfl) (by kernel_rfl) (by kernel_rfl) (by kernel_rfl) (fun _ _ _ h=>h) (Or.inl ⟨by rfl,fun w' hSw=>by go_simp⟩) (by assumption) ?_;simp only [Gb4a,Gb4b,Gb4c];refine take_at 1 93 (.slice (some ⟨g,0,none⟩) N cap) rfl (by rfl) (by kernel_rfl) (by kernel_rfl) (by kernel_rfl) (fun _ _ _ h=>h) (Or.inl ⟨by rfl,fun w' hSw=>by go_simp⟩) (by assumption) ?_;simp only [Gb4a,Gb4b,Gb4c];refine take_at 2 94 (.int .i64 M) rfl (by rfl) (by kernel_rfl) (by kernel_rfl) (by kernel_rfl) (fun _ _ _ h=>h) (Or.inl ⟨by rfl,fun w' hSw=>by go_simp⟩) (by assumption) ?_;simp only [Gb4a,Gb4b,Gb4c];refine take_at 3 95 (.pointer (some ⟨g,M*3,none⟩)) rfl (by rfl) (by kernel_rfl) (by kernel_rfl) (by kernel_rfl) (fun _ _ _ h=>h) (Or.inl ⟨by rfl,fun w' hSw=>by go_simp⟩) (by assumption) ?_;simp only [Gb4a,Gb4b,Gb4c];refine take_at 4 96 (.agg (enc y).toArray) rfl (by rfl) (by kernel_rfl) (by kernel_rfl) (by kernel_rfl) (fun _ _ _ h=>h) (yieldsIf_load_mid (by rfl) _ _ rfl _ _ rfl (enc y) _ (fun w' hSw=>hSw.1.range hyM) Tryz.underlying138 rfl (by rw [enc_len];exact infoE)) (by assumption) ?_;simp only [Gb4a,Gb4b,Gb4c];refine take_at 5 97 (.slice (some ⟨g,0,none⟩) N cap) rfl (by rfl) (by kernel_rfl) (by kernel_rfl) (by kernel_rfl) (fun _ _ _ h=>h) (Or.inl ⟨by rfl,fun w' hSw=>by go_simp⟩) (by assumption) ?_;simp only [Gb4a,Gb4b,Gb4c];refine take_at 6 98 (.int .i64 h) rfl (by rfl) (by kernel_rfl) (by kernel_rfl) (by kernel_rfl) (fun _ _ _ h=>h) (Or.inl ⟨by rfl,fun w' hSw=>by go_simp⟩) (by assumption) ?_;simp only [Gb4a,Gb4b,Gb4c];refine take_at 7 99 (.pointer (some ⟨g,h*3,none⟩)) rfl (by rfl) (by kernel_rfl) (by kernel_rfl) (by kernel_rfl) (fun _ _ _ h=>h) (Or.inl ⟨by rfl,fun w' hSw=>by go_simp⟩) (by assumption) ?_;simp only [Gb4a,Gb4b,Gb4c];refine take_at 8 100 (.agg (enc z).toArray) rfl (by rfl) (by kernel_rfl) (by kernel_rfl) (by kernel_rfl) (fun _ _ _ h=>h) (yieldsIf_load_mid (by rfl) _ _ rfl _ _ rfl (enc z) _ (fun w' hSw=>hSw.1.range hz) Tryz.underlying138 rfl (by rw [enc_len];exact infoE)) (by assumption) ?_;simp only [Gb4a,Gb4b,Gb4c];refine wpAnyH_ready (rs:=[9]) (by kernel_rfl) (by simp) ?_;refine AllReadyH.cons rfl (fun K hK=>?_) AllReadyH.nil
    go_simp
    go_wp2_with (go_at_call 76;refine (cmp_at y z c hcf _).mono ?_;rintro e w5 ⟨rfl,hg5⟩)
    refine hK.out _ _ ⟨hHeld.1.grown0 enc_len (by omega) hg5,grown_trans hHeld.2 (grown_weak hg5 _)⟩ (fun hHeld=>?_);clear hK K;refine take_at 10 102 (.bool true) rfl (by rfl) (by kernel_rfl) (by kernel_rfl) (by kernel_rfl) (fun _ _ _ h=>h) (Or.inl ⟨by rfl,fun w' hSw=>by go_simp⟩) (by assumption) ?_;simp only [Gb4a,Gb4b,Gb4c];refine take_at 11 103 (.bool false) rfl (by rfl) (by kernel_rfl) (by kernel_rfl) (by kernel_rfl) (fun _ _ _ h=>h) (Or.inl ⟨by rfl,fun w' hSw=>by go_simp⟩) (by assumption) ?_;simp only [Gb4a,Gb4b,Gb4c];refine wpAnyH_done (by kernel_rfl) ?_ _;obtain⟨hH1,hH2⟩:=hHeld;have HH1:=hid hH1;have HH2:=hid hH2;clear hH1 hH2 hAr hgr
    go_wp2
    exact⟨⟨lo,h,rfl,rfl,HDN.out,HH1.out,HH2.out⟩,by simp [intOf]<;>omega⟩
   ·have hc1:¬ c<0:=fun e=>hb (hcl.1 e)
    have hc0:0≤c:=by omega
    have HUP:=hid ((Hid.out hbs).up n4 n5 (by rw [GB_at hz];simpa using hb));clear hcl hc1
    go_wp2_with fail
    refine wp_region_held_drew (S:=fun w'=>Arr enc 3 w' g D∧w.grownBy w' (some g)) (by kernel_rfl) ⟨(Hid.out hAr).drew,grown_trans (Hid.out hgr) (grown_drew _ _)⟩ (fun hHeld=>?_);refine take_at 0 92 (.func (.func 76) #[] #[]) rfl (by rfl) (by kernel_rfl) (by kernel_rfl) (by kernel_rfl) (fun _ _ _ h=>h) (Or.inl ⟨by rfl,fun w' hSw=>by go_simp⟩) (by assumption) ?_;simp only [Gb4a,Gb4b,Gb4c];refine take_at 1 93 (.slice (some ⟨g,0,none⟩) N cap) rfl (by rfl) (by kernel_rfl) (by kernel_rfl) (by kernel_rfl) (fun _ _ _ h=>h) (Or.inl ⟨by rfl,fun w' hSw=>by go_simp⟩) (by assumption) ?_;simp only [Gb4a,Gb4b,Gb4c];refine take_at 2 94 (.int .i64 M) rfl (by rfl) (by kernel_rfl) (by kernel_rfl) (by kernel_rfl) (fun _ _ _ h=>h) (Or.inl ⟨by rfl,fun w' hSw=>by go_simp⟩) (by assumption) ?_;simp only [Gb4a,Gb4b,Gb4c];refine take_at 3 95 (.pointer (some ⟨g,M*3,none⟩)) rfl (by rfl) (by kernel_rfl) (by kernel_rfl) (by kernel_rfl) (fun _ _ _ h=>h) (Or.inl ⟨by rfl,fun w' hSw=>by go_simp⟩) (by assumption) ?_;simp only [Gb4a,Gb4b,Gb4c];refine take_at 4 96 (.agg (enc y).toArray) rfl (by rfl) (by kernel_rfl) (by kernel_rfl) (by kernel_rfl) (fun _ _ _ h=>h) (yieldsIf_load_mid (by rfl) _ _ rfl _ _ rfl (enc y) _ (fun w' hSw=>hSw.1.range hyM) Tryz.underlying138 rfl (by rw [enc_len];exact infoE)) (by assumption) ?_;simp only [Gb4a,Gb4b,Gb4c];refine take_at 5 97 (.slice (some ⟨g,0,none⟩) N cap) rfl (by rfl) (by kernel_rfl) (by kernel_rfl) (by kernel_rfl) (fun _ _ _ h=>h) (Or.inl ⟨by rfl,fun w' hSw=>by go_simp⟩) (by assumption) ?_;simp only [Gb4a,Gb4b,Gb4c];refine take_at 6 98 (.int .i64 h) rfl (by rfl) (by kernel_rfl) (by kernel_rfl) (by kernel_rfl) (fun _ _ _ h=>h) (Or.inl ⟨by rfl,fun w' hSw=>by go_simp⟩) (by assumption) ?_;simp only [Gb4a,Gb4b,Gb4c];refine take_at 7 99 (.pointer (some ⟨g,h*3,none⟩)) rfl (by rfl) (by kernel_rfl) (by kernel_rfl) (by kernel_rfl) (fun _ _ _ h=>h) (Or.inl ⟨by rfl,fun w' hSw=>by go_simp⟩) (by assumption) ?_;simp only [Gb4a,Gb4b,Gb4c];refine take_at 8 100 (.agg (enc z).toArray) rfl (by rfl) (by kernel_rfl) (by kernel_rfl) (by kernel_rfl) (fun _ _ _ h=>h) (yieldsIf_load_mid (by rfl) _ _ rfl _ _ rfl (enc z) _ (fun w' hSw=>hSw.1.range hz) Tryz.underlying138 rfl (by rw [enc_len];exact infoE)) (by assumption) ?_;simp only [Gb4a,Gb4b,Gb4c];refine wpAnyH_ready (rs:=[9]) (by kernel_rfl) (by simp) ?_;refine AllReadyH.cons rfl (fun K hK=>?_) AllReadyH.nil
    go_simp
    go_wp2_with (go_at_call 76;refine (cmp_at y z c hcf _).mono ?_;rintro e w5 ⟨rfl,hg5⟩)
    refine hK.out _ _ ⟨hHeld.1.grown0 enc_len (by omega) hg5,grown_trans hHeld.2 (grown_weak hg5 _)⟩ (fun hHeld=>?_);clear hK K;refine take_at 10 102 (.bool false) rfl (by rfl) (by kernel_rfl) (by kernel_rfl) (by kernel_rfl) (fun _ _ _ h=>h) (Or.inl ⟨by rfl,fun w' hSw=>by go_simp⟩) (by assumption) ?_;simp only [Gb4a,Gb4b,Gb4c];refine take_at 11 103 (.bool true) rfl (by rfl) (by kernel_rfl) (by kernel_rfl) (by kernel_rfl) (fun _ _ _ h=>h) (Or.inl ⟨by rfl,fun w' hSw=>by go_simp⟩) (by assumption) ?_;simp only [Gb4a,Gb4b,Gb4c];refine wpAnyH_done (by kernel_rfl) ?_ _;obtain⟨hH1,hH2⟩:=hHeld;have HH1:=hid hH1;have HH2:=hid hH2;clear hH1 hH2 hAr hgr
    go_wp2
    exact⟨⟨h+1,hi,by go_num,rfl,HUP.out,HH1.out,HH2.out⟩,by simp [intOf]<;>omega⟩
  ·obtain rfl:lo=hi:=by omega
   obtain⟨p,rfl⟩:∃ p,lo=A0+p:=⟨lo-A0,by omega⟩;have hp:p≤xl:=by omega
   have hm1:Srt key lt (X.take p++y::X.drop p)∧Sm key (X++[y]) (X.take p++y::X.drop p):=by
    obtain⟨_,_,_,g1,g2⟩:=Hid.out hbs;refine one_right HS.out (take_ge HS.out ?_) (drop_lt HS.out ?_)
    ·rcases g1 with g1 | g1
     ·left;omega
     ·rcases Nat.eq_zero_or_pos p with h0 | h0
      ·left;exact h0
      ·right;have hz:=mv_old' P X R y (p-1) (by rw [← HXL.out];omega);rw [← HDM.out,← HA0.out] at hz;rw [show A0+p-1=A0+(p-1) by omega,GB_at hz] at g1;exact⟨_,List.getElem?_eq_getElem (by rw [← HXL.out];omega),g1⟩
    ·rcases g2 with g2 | g2
     ·left;rw [← HXL.out];omega
     ·rcases Nat.lt_or_ge p xl with h0 | h0
      ·right;have hz:=mv_old' P X R y p (by rw [← HXL.out];omega);rw [← HDM.out,← HA0.out] at hz;rw [GB_at hz] at g2;exact⟨_,List.getElem?_eq_getElem (by rw [← HXL.out];omega),g2⟩
      ·left;rw [← HXL.out];omega
   have HM:=hid hm1;have hAr0:Arr enc 3 wr g (mv P X R y (M-A0)):=by rw [show M-A0=X.length by rw [← HXL.out];omega,← HDM.out];exact Hid.out hAr
   have HAr0:=hid hAr0;clear hm1 hbs hAr0
   go_wp2_with fail
   go_loopw [17] (fun v wk=>∃ j:Nat,A0+p≤j∧j≤M∧v=.int .i64 (j:Int)∧Hid (Arr enc 3 wk g (mv P X R y (j-A0)))∧Hid (w.grownBy wk (some g))) (fun v _=>(intOf v).toNat)
   case atStart=>exact⟨M,by omega,Nat.le_refl _,by go_num,HAr0.out,hgr⟩
   case round =>
    clear HAr0 hAr hgr;obtain⟨j,hj1,hj2,rfl,hArk,hgk⟩:=hrel;by_cases htp:A0+p<j
    ·obtain⟨k,rfl⟩:∃ k,j=k+1:=⟨j-1,by omega⟩;obtain⟨s,hks⟩:∃ s,k=A0+s:=⟨k-A0,by omega⟩;have hsX:s<X.length:=by rw [← HXL.out];omega
     obtain⟨z,hzz⟩:∃ z,z=X[s]:=⟨_,rfl⟩;have hzk:=(mv_at' P X R y s hsX).1;have hyk:=(mv_at' P X R y s hsX).2;have hdn:=mv_down P X R y s hsX;rw [← hzz] at hzk hdn;rw [← HA0.out,← hks] at hzk hyk hdn;have es:k+1-A0=s+1:=by omega
     rw [es] at hArk;have hdn:=hid hdn;have ll:k+1<(mv P X R y (s+1)).length:=(List.getElem?_eq_some_iff.1 hyk).1;have lr:k<((mv P X R y (s+1)).set (k+1) z).length:=by rw [List.length_set];omega
     have q1:(0:Int)≤(k:Int)+1:=by omega
     have q2:(k:Int)+1<(N:Int):=by omega
     have q3:(0:Int)≤(k:Int):=by omega
     have q4:(k:Int)<(N:Int):=by omega
     have q5:(A0:Int)+(p:Int)<(k:Int)+1:=by omega
     have hks1:k≤A0+s:=by omega
     have hks2:A0+s≤k:=by omega
     clear hzz es hks
     go_wp2_with fail
     refine wp_region_held_drew (S:=fun _=>True) (by kernel_rfl) trivial (fun hHeld=>?_);refine take_at 0 113 (.slice (some ⟨g,0,none⟩) N cap) rfl (by rfl) (by kernel_rfl) (by kernel_rfl) (by kernel_rfl) (fun _ _ _ h=>h) (Or.inl ⟨by rfl,fun w' hSw=>by go_simp⟩) (by assumption) ?_;simp only [Gb4a,Gb4b,Gb4c];refine take_at 1 114 (.int .i64 ((k:Int)+1)) rfl (by rfl) (by kernel_rfl) (by kernel_rfl) (by kernel_rfl) (fun _ _ _ h=>h) (Or.inl ⟨by rfl,fun w' hSw=>by go_simp⟩) (by assumption) ?_;simp only [Gb4a,Gb4b,Gb4c];refine take_at 2 115 (.slice (some ⟨g,0,none⟩) N cap) rfl (by rfl) (by kernel_rfl) (by kernel_rfl) (by kernel_rfl) (fun _ _ _ h=>h) (Or.inl ⟨by rfl,fun w' hSw=>by go_simp⟩) (by assumption) ?_;simp only [Gb4a,Gb4b,Gb4c];refine take_at 3 116 (.int .i64 ((k:Int)+1)) rfl (by rfl) (by kernel_rfl) (by kernel_rfl) (by kernel_rfl) (fun _ _ _ h=>h) (Or.inl ⟨by rfl,fun w' hSw=>by go_simp⟩) (by assumption) ?_;simp only [Gb4a,Gb4b,Gb4c];refine take_at 4 117 (.int .i64 (k:Int)) rfl (by rfl) (by kernel_rfl) (by kernel_rfl) (by kernel_rfl) (fun _ _ _ h=>h) (Or.inl ⟨by rfl,fun w' hSw=>by go_simp<;>exact IntWalk.i64_in _ ⟨by omega,by omega⟩⟩) (by assumption) ?_;simp only [Gb4a,Gb4b,Gb4c];refine take_at 5 118 (.slice (some ⟨g,0,none⟩) N cap) rfl (by rfl) (by kernel_rfl) (by kernel_rfl) (by kernel_rfl) (fun _ _ _ h=>h) (Or.inl ⟨by rfl,fun w' hSw=>by go_simp⟩) (by assumption) ?_;simp only [Gb4a,Gb4b,Gb4c];refine take_at 6 119 (.int .i64 ((k:Int)+1)) rfl (by rfl) (by kernel_rfl) (by kernel_rfl) (by kernel_rfl) (fun _ _ _ h=>h) (Or.inl ⟨by rfl,fun w' hSw=>by go_simp⟩) (by assumption) ?_;simp only [Gb4a,Gb4b,Gb4c];refine take_at 7 120 (.int .i64 (k:Int)) rfl (by rfl) (by kernel_rfl) (by kernel_rfl) (by kernel_rfl) (fun _ _ _ h=>h) (Or.inl ⟨by rfl,fun w' hSw=>by go_simp<;>exact IntWalk.i64_in _ ⟨by omega,by omega⟩⟩) (by assumption) ?_;simp only [Gb4a,Gb4b,Gb4c];refine take_at 8 121 (.pointer (some ⟨g,k*3,none⟩)) rfl (by rfl) (by kernel_rfl) (by kernel_rfl) (by kernel_rfl) (fun _ _ _ h=>h) (Or.inl ⟨by rfl,fun w' hSw=>by go_simp⟩) (by assumption) ?_;simp only [Gb4a,Gb4b,Gb4c];refine take_at 10 123 (.slice (some ⟨g,0,none⟩) N cap) rfl (by rfl) (by kernel_rfl) (by kernel_rfl) (by kernel_rfl) (fun _ _ _ h=>h) (Or.inl ⟨by rfl,fun w' hSw=>by go_simp⟩) (by assumption) ?_;simp only [Gb4a,Gb4b,Gb4c];refine take_at 11 124 (.int .i64 ((k:Int)+1)) rfl (by rfl) (by kernel_rfl) (by kernel_rfl) (by kernel_rfl) (fun _ _ _ h=>h) (Or.inl ⟨by rfl,fun w' hSw=>by go_simp⟩) (by assumption) ?_;simp only [Gb4a,Gb4b,Gb4c];refine take_at 12 125 (.pointer (some ⟨g,(k+1)*3,none⟩)) rfl (by rfl) (by kernel_rfl) (by kernel_rfl) (by kernel_rfl) (fun _ _ _ h=>h) (Or.inl ⟨by rfl,fun w' hSw=>by go_simp⟩) (by assumption) ?_;simp only [Gb4a,Gb4b,Gb4c];have HAd:=hid (Hid.out hArk).drew;have HGd:=hid (grown_trans (Hid.out hgk) (grown_drew _ (some g)));generalize wr.drew=X1 at *;have H1:=hid (HAd.out.store enc_len ll z);have H2:=hid (show Arr enc 3 ((X1.setCells g ((k+1)*3) (enc z)).setCells g (k*3) (enc y)) g (mv P X R y (k-A0)) by rw [show k-A0=s by omega,← hdn.out];exact H1.out.store enc_len lr y)
     have G2:=hid (grown_trans (grown_trans HGd.out (grown_setCells X1 g ((k+1)*3) (enc z))) (grown_setCells _ g (k*3) (enc y)));have HX:=hid (HAd.out.range hyk);have HZ:=hid (HAd.out.range hzk);clear hArk hgk;refine wpAnyH_ready (rs:=[9,13]) (by kernel_rfl) (by simp) ?_;refine all_at 9 122 (.agg (enc z).toArray) X1 rfl (by rfl) (by rfl) (load_run 138 (.tmp 121) rfl g (k*3) rfl (enc z) _ HZ.out Tryz.underlying138 rfl (by rw [enc_len];exact infoE)) trivial (fun hHeld=>?_) ?_
     ·simp only [Gb4a,Gb4b,Gb4c];refine wpAnyH_ready (rs:=[13]) (by kernel_rfl) (by simp) ?_;refine all_at 13 126 (.agg (enc y).toArray) X1 rfl (by rfl) (by rfl) (load_run 138 (.tmp 125) rfl g ((k+1)*3) rfl (enc y) _ HX.out Tryz.underlying138 rfl (by rw [enc_len];exact infoE)) trivial (fun hHeld=>?_) all_nil;simp only [Gb4a,Gb4b,Gb4c];refine take_at 14 127 (.pointer (some ⟨g,(k+1)*3,none⟩)) rfl (by rfl) (by kernel_rfl) (by kernel_rfl) (by kernel_rfl) (fun _ _ _ h=>h) (Or.inl ⟨by rfl,fun w' hSw=>by go_simp⟩) (by assumption) ?_;simp only [Gb4a,Gb4b,Gb4c];refine wpAnyH_ready (rs:=[15]) (by kernel_rfl) (by simp) ?_;refine all_wp 15 _ (X1.setCells g ((k+1)*3) (enc z)) rfl (by rfl) (fun K' hk=>wp_store_mid 138 (.tmp 127) (.tmp 122) rfl g ((k+1)*3) (enc z).toArray rfl rfl (HAd.out.there enc_len ll) (by rw [List.size_toArray,enc_len];exact infoE) (all_oneCell_toArray (enc_one _)) (by simpa only [List.toList_toArray] using hk)) trivial (fun hHeld=>?_) all_nil;simp only [Act.put];refine take_at 16 128 (.pointer (some ⟨g,k*3,none⟩)) rfl (by rfl) (by kernel_rfl) (by kernel_rfl) (by kernel_rfl) (fun _ _ _ h=>h) (Or.inl ⟨by rfl,fun w' hSw=>by go_simp⟩) (by assumption) ?_;simp only [Gb4a,Gb4b,Gb4c];refine wpAnyH_ready (rs:=[17]) (by kernel_rfl) (by simp) ?_;refine all_wp 17 _ ((X1.setCells g ((k+1)*3) (enc z)).setCells g (k*3) (enc y)) rfl (by rfl) (fun K' hk=>wp_store_mid 138 (.tmp 128) (.tmp 126) rfl g (k*3) (enc y).toArray rfl rfl (H1.out.there enc_len lr) (by rw [List.size_toArray,enc_len];exact infoE) (all_oneCell_toArray (enc_one _)) (by simpa only [List.toList_toArray] using hk)) trivial (fun hHeld=>?_) all_nil;simp only [Act.put];refine wpAnyH_done (by kernel_rfl) ?_ _;generalize ((X1.setCells g ((k+1)*3) (enc z)).setCells g (k*3) (enc y))=Z at *;clear H1 HAd HGd HX HZ
      go_wp2
      refine⟨⟨_,_,_,_,_,_,_,_,_,_,_,_,_,_,_,_,_,_,_,_,_,_,⟨k,by omega,by omega,?_,H2.out,G2.out⟩,rfl⟩,by simp [intOf]<;>omega⟩
      go_num
     refine all_at 13 126 (.agg (enc y).toArray) X1 rfl (by rfl) (by rfl) (load_run 138 (.tmp 125) rfl g ((k+1)*3) rfl (enc y) _ HX.out Tryz.underlying138 rfl (by rw [enc_len];exact infoE)) trivial (fun hHeld=>?_) all_nil;simp only [Gb4a,Gb4b,Gb4c];refine wpAnyH_ready (rs:=[9]) (by kernel_rfl) (by simp) ?_;refine all_at 9 122 (.agg (enc z).toArray) X1 rfl (by rfl) (by rfl) (load_run 138 (.tmp 121) rfl g (k*3) rfl (enc z) _ HZ.out Tryz.underlying138 rfl (by rw [enc_len];exact infoE)) trivial (fun hHeld=>?_) all_nil;simp only [Gb4a,Gb4b,Gb4c];refine take_at 14 127 (.pointer (some ⟨g,(k+1)*3,none⟩)) rfl (by rfl) (by kernel_rfl) (by kernel_rfl) (by kernel_rfl) (fun _ _ _ h=>h) (Or.inl ⟨by rfl,fun w' hSw=>by go_simp⟩) (by assumption) ?_;simp only [Gb4a,Gb4b,Gb4c];refine wpAnyH_ready (rs:=[15]) (by kernel_rfl) (by simp) ?_;refine all_wp 15 _ (X1.setCells g ((k+1)*3) (enc z)) rfl (by rfl) (fun K' hk=>wp_store_mid 138 (.tmp 127) (.tmp 122) rfl g ((k+1)*3) (enc z).toArray rfl rfl (HAd.out.there enc_len ll) (by rw [List.size_toArray,enc_len];exact infoE) (all_oneCell_toArray (enc_one _)) (by simpa only [List.toList_toArray] using hk)) trivial (fun hHeld=>?_) all_nil;simp only [Act.put];refine take_at 16 128 (.pointer (some ⟨g,k*3,none⟩)) rfl (by rfl) (by kernel_rfl) (by kernel_rfl) (by kernel_rfl) (fun _ _ _ h=>h) (Or.inl ⟨by rfl,fun w' hSw=>by go_simp⟩) (by assumption) ?_;simp only [Gb4a,Gb4b,Gb4c];refine wpAnyH_ready (rs:=[17]) (by kernel_rfl) (by simp) ?_;refine all_wp 17 _ ((X1.setCells g ((k+1)*3) (enc z)).setCells g (k*3) (enc y)) rfl (by rfl) (fun K' hk=>wp_store_mid 138 (.tmp 128) (.tmp 126) rfl g (k*3) (enc y).toArray rfl rfl (H1.out.there enc_len lr) (by rw [List.size_toArray,enc_len];exact infoE) (all_oneCell_toArray (enc_one _)) (by simpa only [List.toList_toArray] using hk)) trivial (fun hHeld=>?_) all_nil;simp only [Act.put];refine wpAnyH_done (by kernel_rfl) ?_ _;generalize ((X1.setCells g ((k+1)*3) (enc z)).setCells g (k*3) (enc y))=Z at *;clear H1 HAd HGd HX HZ
     go_wp2
     refine⟨⟨_,_,_,_,_,_,_,_,_,_,_,_,_,_,_,_,_,_,_,_,_,_,⟨k,by omega,by omega,?_,H2.out,G2.out⟩,rfl⟩,by simp [intOf]<;>omega⟩
     go_num
    ·obtain rfl:j=A0+p:=by omega
     have hfin:Merged P X [y] R g w wr:=by
      refine⟨X.take p++y::X.drop p,?_,?_,HM.out.1,HM.out.2,Hid.out hgk⟩
      ·have e:P++((X.take p++y::X.drop p)++R)=mv P X R y (A0+p-A0):=by rw [show A0+p-A0=p by omega];simp [mv]
       rw [e];exact Hid.out hArk
      ·simp only [List.length_append,List.length_cons,List.length_take,List.length_drop,List.length_nil];omega
     have HF:=hid hfin;clear hfin hArk hgk
     go_wp2
     exact⟨rfl,_,results_none rfl _ _ _,rfl,HF.out⟩
theorem sym_pure {X Y:List Ch}{i j:Nat}(hX:Srt key lt X) (hY:Srt key lt Y)
  (h1:i=0∨j=Y.length∨∃ y x,Y[j]?=some y∧X[i-1]?=some x∧lt (key y) (key x)=false)
  (h2:j=0∨i=X.length∨∃ y x,Y[j-1]?=some y∧X[i]?=some x∧lt (key y) (key x)=true) :
  (∀ x∈X.take i,∀ y∈Y.drop j,lt (key y) (key x)=false)∧(∀ y∈Y.take j,∀ x∈X.drop i,lt (key y) (key x)=true):=by
 constructor
 ·rcases h1 with rfl | rfl | ⟨y,x,hy,hx,h⟩
  ·simp
  ·simp
  ·intro x' hx' y' hy';exact drop_ge hY (.inr ⟨y,hy,take_ge hX (.inr ⟨x,hx,h⟩) x' hx'⟩) y' hy'
 ·rcases h2 with rfl | rfl | ⟨y,x,hy,hx,h⟩
  ·simp
  ·simp
  ·intro y' hy' x' hx';exact take_lt hY (.inr ⟨y,hy,drop_lt hX (.inr ⟨x,hx,h⟩) x' hx'⟩) y' hy'
def GC (D:List Ch) (p c:Nat):Bool:=match D[p-c]?,D[c]? with | some u,some z=>lt (key u) (key z) | _,_=>false
theorem GC_at {D:List Ch}{p c:Nat}{u z:Ch}(h1:D[p-c]?=some u) (h2:D[c]?=some z):GC D p c=lt (key u) (key z):=by
 unfold GC;rw [h1,h2]
theorem get_X (P X Y R:List Ch) (i:Nat) (h:i<X.length):(P++(X++(Y++R)))[P.length+i]?=some X[i]:=by
 rw [List.getElem?_append_right (by omega),show P.length+i-P.length=i by omega,List.getElem?_append_left h,List.getElem?_eq_getElem h]
theorem get_Y (P X Y R:List Ch) (i:Nat) (h:i<Y.length):(P++(X++(Y++R)))[P.length+X.length+i]?=some Y[i]:=by
 rw [List.getElem?_append_right (by omega),List.getElem?_append_right (by omega),show P.length+X.length+i-P.length-X.length=i by omega,List.getElem?_append_left h,List.getElem?_eq_getElem h]
structure Four (n:Nat) (P X1 X2 Y1 Y2 R:List Ch) (N A S M E B Q:Nat):Prop where
 hN:(P++((X1++X2)++((Y1++Y2)++R))).length=N
 hA:P.length=A
 hS:A+X1.length=S
 hM:S+X2.length=M
 hE:M+Y1.length=E
 hB:E+Y2.length=B
 hQ:S+Y1.length=Q
 hAQ:A<Q
 hQB:Q<B
 hn:B-A≤n
 sX:Srt key lt (X1++X2)
 sY:Srt key lt (Y1++Y2)
 h12:∀ x∈X1,∀ y∈Y2,lt (key y) (key x)=false
 h21:∀ y∈Y1,∀ x∈X2,lt (key y) (key x)=true
theorem four_make {n:Nat}{P X Y R D:List Ch}{N A M B Q S0 R0 s:Nat}(hD:D=P++(X++(Y++R))) (hN:N=D.length) (hA:A=P.length) (hM:M=A+X.length) (hB:B=M+Y.length) (q1:2*Q≤A+B) (q2:A+B<2*Q+2) (hX:1<X.length) (hY:1<Y.length) (hn:B-A≤n)
  (hc:(Q<M∧S0=Q+M-B∧R0=Q)∨(M≤Q∧S0=A∧R0=M)) (sX:Srt key lt X) (sY:Srt key lt Y) (h:Bs (GC D (Q+M-1)) S0 R0 s s) :
  ∃ X1 X2 Y1 Y2,X=X1++X2∧Y=Y1++Y2∧Four n P X1 X2 Y1 Y2 R N A s M (Q+M-s) B Q:=by
 obtain⟨b1,_,b2,b3,b4⟩:=h;have c1:A≤s:=by omega
 have c2:s≤M:=by omega
 have c3:s≤Q:=by omega
 have c4:Q-s≤Y.length:=by omega
 have hp:=sym_pure (i:=s-A) (j:=Q-s) sX sY (by
  rcases b3 with b3 | b3
  ·rcases hc with hc | hc
   ·right;left;omega
   ·left;omega
  ·by_cases e1:s-A=0
   ·exact .inl e1
   by_cases e2:Q-s=Y.length
   ·exact .inr (.inl e2)
   right;right;have g1:=get_Y P X Y R (Q-s) (by omega);have g2:=get_X P X Y R (s-A-1) (by omega);rw [← hD,← hA] at g1 g2;rw [show A+X.length+(Q-s)=Q+M-1-(s-1) by omega] at g1;rw [show A+(s-A-1)=s-1 by omega] at g2;rw [GC_at g1 g2] at b3;exact⟨_,_,List.getElem?_eq_getElem _,List.getElem?_eq_getElem _,b3⟩) (by
  rcases b4 with b4 | b4
  ·rcases hc with hc | hc
   ·left;omega
   ·right;left;omega
  ·by_cases e1:Q-s=0
   ·exact .inl e1
   by_cases e2:s-A=X.length
   ·exact .inr (.inl e2)
   right;right;have g1:=get_Y P X Y R (Q-s-1) (by omega);have g2:=get_X P X Y R (s-A) (by omega);rw [← hD,← hA] at g1 g2;rw [show A+X.length+(Q-s-1)=Q+M-1-s by omega] at g1;rw [show A+(s-A)=s by omega] at g2;rw [GC_at g1 g2] at b4;exact⟨_,_,List.getElem?_eq_getElem _,List.getElem?_eq_getElem _,b4⟩)
 refine⟨X.take (s-A),X.drop (s-A),Y.take (Q-s),Y.drop (Q-s),(List.take_append_drop _ _).symm,(List.take_append_drop _ _).symm,?_,hA.symm,?_,?_,?_,?_,?_,by omega,by omega,hn,?_,?_,hp.1,hp.2⟩
 ·rw [List.take_append_drop,List.take_append_drop,← hD,hN]
 ·rw [List.length_take];omega
 ·rw [List.length_drop];omega
 ·rw [List.length_take];omega
 ·rw [List.length_drop];omega
 ·rw [List.length_take];omega
 ·rw [List.take_append_drop];exact sX
 ·rw [List.take_append_drop];exact sY
def SymOK (n:Nat):Prop:=∀ (P X Y R D:List Ch),D=P++(X++(Y++R))→0<X.length→0<Y.length→X.length+Y.length<n→Srt key lt X→Srt key lt Y→∀ (g cap N:Nat),N=D.length→N≤cap→N≤281474976710656→∀ (w:World),Arr enc 3 w g D→∀ (a m b:Int),a=(P.length:Int)→m=(P.length:Int)+X.length→b=(P.length:Int)+X.length+Y.length →
 Calls Tryz.prog 148 #[.slice (some ⟨g,0,none⟩) N cap,.int .i64 a,.int .i64 m,.int .i64 b,CMP] w fun e w'=>e=.returned (.tuple #[])∧Merged P X Y R g w w'
def S1 (P X1 X2 Y1 Y2 R:List Ch) (g:Nat) (w wr:World):Prop:=Arr enc 3 wr g (P++(X1++(Y1++(X2++(Y2++R)))))∧w.grownBy wr (some g)
def S2 (P X1 X2 Y1 Y2 R:List Ch) (g:Nat) (w wr:World):Prop:=∃ Z,Arr enc 3 wr g (P++(Z++(X2++(Y2++R))))∧Z.length=X1.length+Y1.length∧Srt key lt Z∧Sm key (X1++Y1) Z∧w.grownBy wr (some g)
section
variable {n:Nat}{P X1 X2 Y1 Y2 R:List Ch}{N A S M E B Q g:Nat}{w wr:World}
theorem Four.lenN (F:Four n P X1 X2 Y1 Y2 R N A S M E B Q):P.length+X1.length+X2.length+Y1.length+Y2.length+R.length=N:=by
 have:=F.hN;simp only [List.length_append] at this;omega
theorem four_rot (F:Four n P X1 X2 Y1 Y2 R N A S M E B Q) (cap:Nat) (hL:N≤cap) (hm:N≤281474976710656) (V:Value) (hA:Arr enc 3 wr g (P++((X1++X2)++((Y1++Y2)++R)))) (hg:w.grownBy wr (some g)) (h1:S<M) (h2:M<E) :
  Calls Tryz.prog 174 #[.slice (some ⟨g,0,none⟩) N cap,.int .i64 S,.int .i64 M,.int .i64 E,V] wr fun e w'=>e=.returned (.tuple #[])∧S1 P X1 X2 Y1 Y2 R g w w':=by
 have:=F.hA;have:=F.hS;have:=F.hM;have:=F.hE;refine (rotate_any (P++X1) X2 Y1 (Y2++R) _ (by simp) (by omega) (by omega) g cap N F.hN.symm V hL hm wr hA _ _ _ ?_ ?_ ?_).mono fun e w' h=>⟨h.1,?_,grown_trans hg h.2.1⟩
 ·rw [List.length_append];omega
 ·rw [List.length_append];omega
 ·rw [List.length_append];omega
 ·have e:P++(X1++(Y1++(X2++(Y2++R))))=P++X1++(Y1++(X2++(Y2++R))):=by simp only [List.append_assoc]
  rw [e];exact h.2.2
theorem four_rot' (F:Four n P X1 X2 Y1 Y2 R N A S M E B Q) (hA:Arr enc 3 wr g (P++((X1++X2)++((Y1++Y2)++R)))) (hg:w.grownBy wr (some g)) (h:¬ (S<M∧M<E)):S1 P X1 X2 Y1 Y2 R g w wr:=by
 have:=F.hM;have:=F.hE;refine⟨?_,hg⟩;by_cases h1:S<M
 ·have:Y1=[]:=List.eq_nil_of_length_eq_zero (by omega);subst this;simpa using hA
 ·have:X2=[]:=List.eq_nil_of_length_eq_zero (by omega);subst this;simpa using hA
theorem four_one (IH:SymOK n) (F:Four n P X1 X2 Y1 Y2 R N A S M E B Q) (cap:Nat) (hL:N≤cap) (hm:N≤281474976710656) (h:S1 P X1 X2 Y1 Y2 R g w wr) (h1:A<S) (h2:S<Q) :
  Calls Tryz.prog 148 #[.slice (some ⟨g,0,none⟩) N cap,.int .i64 A,.int .i64 S,.int .i64 Q,CMP] wr fun e w'=>e=.returned (.tuple #[])∧S2 P X1 X2 Y1 Y2 R g w w':=by
 obtain⟨hA,hg⟩:=h;have:=F.hA;have:=F.hS;have:=F.hM;have:=F.hE;have:=F.hB;have:=F.hQ;have:=F.hQB;have:=F.hn;have hl:=F.lenN;refine (IH P X1 Y1 (X2++(Y2++R)) _ rfl (by omega) (by omega) (by omega) (Srt.append.1 F.sX).1 (Srt.append.1 F.sY).1 g cap N ?_ hL hm wr hA _ _ _ ?_ ?_ ?_).mono fun e w' h=>⟨h.1,?_⟩
 ·simp only [List.length_append];omega
 ·omega
 ·omega
 ·omega
 ·obtain⟨Z,z1,z2,z3,z4,z5⟩:=h.2;exact⟨Z,z1,z2,z3,z4,grown_trans hg z5⟩
theorem four_one' (F:Four n P X1 X2 Y1 Y2 R N A S M E B Q) (h:S1 P X1 X2 Y1 Y2 R g w wr) (hc:¬ (A<S∧S<Q)):S2 P X1 X2 Y1 Y2 R g w wr:=by
 obtain⟨hA,hg⟩:=h;have:=F.hS;have:=F.hQ;refine⟨X1++Y1,by rw [List.append_assoc];exact hA,by rw [List.length_append],?_,Sm.refl _,hg⟩;by_cases h1:A<S
 ·have:Y1=[]:=List.eq_nil_of_length_eq_zero (by omega);subst this;simpa using (Srt.append.1 F.sX).1
 ·have:X1=[]:=List.eq_nil_of_length_eq_zero (by omega);subst this;simpa using (Srt.append.1 F.sY).1
theorem four_end (F:Four n P X1 X2 Y1 Y2 R N A S M E B Q){Z Z2:List Ch}(hA:Arr enc 3 wr g (P++(Z++(Z2++R)))) (z2:Z.length=X1.length+Y1.length) (z3:Srt key lt Z) (z4:Sm key (X1++Y1) Z) (y2:Z2.length=X2.length+Y2.length) (y3:Srt key lt Z2) (y4:Sm key (X2++Y2) Z2) (hg:w.grownBy wr (some g)):Merged P (X1++X2) (Y1++Y2) R g w wr:=by
 have hm:=merged O F.sX F.sY F.h12 F.h21 z4 z3 y4 y3;refine⟨Z++Z2,by rw [List.append_assoc];exact hA,?_,hm.2,hm.1,hg⟩;simp only [List.length_append];omega
theorem four_two (IH:SymOK n) (F:Four n P X1 X2 Y1 Y2 R N A S M E B Q) (cap:Nat) (hL:N≤cap) (hm:N≤281474976710656) (h:S2 P X1 X2 Y1 Y2 R g w wr) (h1:Q<E) (h2:E<B) :
  Calls Tryz.prog 148 #[.slice (some ⟨g,0,none⟩) N cap,.int .i64 Q,.int .i64 E,.int .i64 B,CMP] wr fun e w'=>e=.returned (.tuple #[])∧Merged P (X1++X2) (Y1++Y2) R g w w':=by
 obtain⟨Z,z1,z2,z3,z4,z5⟩:=h;have:=F.hA;have:=F.hS;have:=F.hM;have:=F.hE;have:=F.hB;have:=F.hQ;have:=F.hAQ;have:=F.hn;have hl:=F.lenN;refine (IH (P++Z) X2 Y2 R _ (by simp only [List.append_assoc]) (by omega) (by omega) (by omega) (Srt.append.1 F.sX).2.1 (Srt.append.1 F.sY).2.1 g cap N ?_ hL hm wr z1 _ _ _ ?_ ?_ ?_).mono fun e w' h=>⟨h.1,?_⟩
 ·simp only [List.length_append];omega
 ·rw [List.length_append];omega
 ·rw [List.length_append];omega
 ·rw [List.length_append];omega
 ·obtain⟨Z2,y1,y2,y3,y4,y5⟩:=h.2;rw [List.append_assoc] at y1;exact four_end F y1 z2 z3 z4 y2 y3 y4 (grown_trans z5 y5)
theorem four_two' (F:Four n P X1 X2 Y1 Y2 R N A S M E B Q) (h:S2 P X1 X2 Y1 Y2 R g w wr) (hc:¬ (Q<E∧E<B)):Merged P (X1++X2) (Y1++Y2) R g w wr:=by
 obtain⟨Z,z1,z2,z3,z4,z5⟩:=h;have:=F.hS;have:=F.hM;have:=F.hE;have:=F.hB;have:=F.hQ;refine four_end F (Z2:=X2++Y2) (by rw [List.append_assoc];exact z1) z2 z3 z4 (by rw [List.length_append]) ?_ (Sm.refl _) z5;by_cases h1:Q<E
 ·have:Y2=[]:=List.eq_nil_of_length_eq_zero (by omega);subst this;simpa using (Srt.append.1 F.sX).2.1
 ·have:X2=[]:=List.eq_nil_of_length_eq_zero (by omega);subst this;simpa using (Srt.append.1 F.sY).2.1
end
open Go.ChangeShapes Go.WideShapes Go.ChangeAt Go.RowKit
open Ar Rg St
theorem sym_gt (n:Nat) (IH:SymOK n) (P X Y R D:List Ch) (hD:D=P++(X++(Y++R))) (hX:1<X.length) (hY:1<Y.length) (hn:X.length+Y.length≤n) (sX:Srt key lt X) (sY:Srt key lt Y) (g cap N:Nat) (hN:N=D.length) (hL:N≤cap) (hm:N≤281474976710656) (w:World) (hA:Arr enc 3 w g D) (a m b:Int) (ha:a=(P.length:Int)) (hmm:m=(P.length:Int)+X.length) (hb:b=(P.length:Int)+X.length+Y.length) (hw:(a+b) / 2<m) :
  Calls Tryz.prog 148 #[.slice (some ⟨g,0,none⟩) N cap,.int .i64 a,.int .i64 m,.int .i64 b,CMP] w fun e w'=>e=.returned (.tuple #[])∧Merged P X Y R g w w':=by
 obtain⟨A0,hA0⟩:∃ M:Nat,M=P.length:=⟨_,rfl⟩;obtain⟨M,hM⟩:∃ M:Nat,M=A0+X.length:=⟨_,rfl⟩;obtain⟨B,hB⟩:∃ B:Nat,B=M+Y.length:=⟨_,rfl⟩;obtain⟨Q,hQ⟩:∃ Q:Nat,((A0:Int)+(B:Int)) / 2=(Q:Int):=⟨(A0+B) / 2,by omega⟩;have q1:2*Q≤A0+B:=by omega
 have q2:A0+B<2*Q+2:=by omega
 have hlen:B≤N:=by rw [hN,hD,hB,hM,hA0];simp only [List.length_append];omega
 have b1:A0+1<M:=by omega
 have b2:M+1<B:=by omega
 have hn2:B-A0≤n:=by omega
 have em:m=(M:Int):=by omega
 have eb:b=(B:Int):=by omega
 rw [← hA0] at ha hmm hb;rw [ha,eb,hQ,em] at hw;obtain⟨S0,hS0⟩:∃ S0:Nat,(Q:Int)+(M:Int)-(B:Int)=(S0:Int):=⟨Q+M-B,by omega⟩;have HQ1:=hid q1;have HQ2:=hid q2;have HA:=hid hA;have HD:=hid hD;have HN:=hid hN;have HX:=hid sX;have HY:=hid sY;have HA0:=hid hA0;have HM:=hid hM;have HB:=hid hB;have HXL:=hid hX;have HYL:=hid hY;clear hA hD hN sX sY hA0 hM hB hX hY hmm hb hn;subst ha em eb;have hq1:(((M:Int)-A0)==1)=false:=by rw [beq_eq_false_iff_ne];omega
 have hq2:(((B:Int)-M)==1)=false:=by rw [beq_eq_false_iff_ne];omega
 unfold CMP
 go_enter Tryz.func148,Tryz.ntmps148
 go_wp2_with fail
 go_loopw [20,21] (fun v u wr=>∃ lo hi:Nat,v=.int .i64 lo∧u=.int .i64 hi∧Hid (Bs (GC D (Q+M-1)) S0 Q lo hi)∧Hid (Arr enc 3 wr g D)∧Hid (w.grownBy wr (some g))) (fun v u _=>(intOf u).toNat-(intOf v).toNat)
 case atStart=>exact⟨S0,Q,by go_num,by go_num,Bs.start _ (by omega),HA.out,grown_refl _ _⟩
 case round =>
  obtain⟨lo,hi,rfl,rfl,hbs,hAr,hgr⟩:=hrel;have hbd:=Hid.out hbs;obtain⟨n1,n2,n3,_⟩:=hbd;by_cases hlt:lo<hi
  ·obtain⟨h,hh⟩:∃ h:Nat,((lo:Int)+(hi:Int)) / 2=(h:Int):=⟨(lo+hi) / 2,by omega⟩;have n4:lo≤h:=by omega
   have n5:h<hi:=by omega
   have n6:(0:Int)≤(h:Int):=by omega
   have n7:(h:Int)<(N:Int):=by omega
   obtain⟨q,hq⟩:∃ q:Nat,(Q:Int)+(M:Int)-1-(h:Int)=(q:Int):=⟨Q+M-1-h,by omega⟩;have n8:(0:Int)≤(q:Int):=by omega
   have n9:(q:Int)<(N:Int):=by omega
   obtain⟨z,hz⟩:∃ z,D[h]?=some z:=⟨_,List.getElem?_eq_getElem (by rw [← HN.out];omega)⟩;obtain⟨u,hu⟩:∃ z,D[q]?=some z:=⟨_,List.getElem?_eq_getElem (by rw [← HN.out];omega)⟩;obtain⟨c,hcf⟩:∃ c,cf u z=c:=⟨_,rfl⟩;have hcl:=cf_lt u z;rw [hcf] at hcl;have hgc:GC D (Q+M-1) h=lt (key u) (key z):=GC_at (by rw [show Q+M-1-h=q by omega];exact hu) hz;by_cases hb:lt (key u) (key z)=true
   ·have hc0:c<0:=hcl.2 hb;have HDN:=hid ((Hid.out hbs).down n4 n5 (by rw [hgc,hb]));clear hcl hgc
    go_wp2_with fail
    refine wp_region_held_drew (S:=fun w'=>Arr enc 3 w' g D∧w.grownBy w' (some g)) (by kernel_rfl) ⟨(Hid.out hAr).drew,grown_trans (Hid.out hgr) (grown_drew _ _)⟩ (fun hHeld=>?_);refine take_at 0 158 (.func (.func 76) #[] #[]) rfl (by rfl) (by kernel_rfl) (by kernel_rfl) (by kernel_rfl) (fun _ _ _ h=>h) (Or.inl ⟨by rfl,fun w' hSw=>by go_simp⟩) (by assumption) ?_;simp only [Gb4a,Gb4b,Gb4c];refine take_at 1 159 (.slice (some ⟨g,0,none⟩) N cap) rfl (by rfl) (by kernel_rfl) (by kernel_rfl) (by kernel_rfl) (fun _ _ _ h=>h) (Or.inl ⟨by rfl,fun w' hSw=>by go_simp⟩) (by assumption) ?_;simp only [Gb4a,Gb4b,Gb4c];refine take_at 2 160 (.int .i64 ((Q:Int)+(M:Int)-1)) rfl (by rfl) (by kernel_rfl) (by kernel_rfl) (by kernel_rfl) (fun _ _ _ h=>h) (Or.inl ⟨by rfl,fun w' hSw=>by go_simp⟩) (by assumption) ?_;simp only [Gb4a,Gb4b,Gb4c];refine take_at 3 161 (.int .i64 h) rfl (by rfl) (by kernel_rfl) (by kernel_rfl) (by kernel_rfl) (fun _ _ _ h=>h) (Or.inl ⟨by rfl,fun w' hSw=>by go_simp⟩) (by assumption) ?_;simp only [Gb4a,Gb4b,Gb4c];refine take_at 4 162 (.int .i64 q) rfl (by rfl) (by kernel_rfl) (by kernel_rfl) (by kernel_rfl) (fun _ _ _ h=>h) (Or.inl ⟨by rfl,fun w' hSw=>by go_simp<;>exact IntWalk.i64_in _ ⟨by omega,by omega⟩⟩) (by assumption) ?_;simp only [Gb4a,Gb4b,Gb4c];refine take_at 5 163 (.pointer (some ⟨g,q*3,none⟩)) rfl (by rfl) (by kernel_rfl) (by kernel_rfl) (by kernel_rfl) (fun _ _ _ h=>h) (Or.inl ⟨by rfl,fun w' hSw=>by go_simp⟩) (by assumption) ?_;simp only [Gb4a,Gb4b,Gb4c];refine take_at 6 164 (.agg (enc u).toArray) rfl (by rfl) (by kernel_rfl) (by kernel_rfl) (by kernel_rfl) (fun _ _ _ h=>h) (yieldsIf_load_mid (by rfl) _ _ rfl _ _ rfl (enc u) _ (fun w' hSw=>hSw.1.range hu) Tryz.underlying138 rfl (by rw [enc_len];exact infoE)) (by assumption) ?_;simp only [Gb4a,Gb4b,Gb4c];refine take_at 7 165 (.slice (some ⟨g,0,none⟩) N cap) rfl (by rfl) (by kernel_rfl) (by kernel_rfl) (by kernel_rfl) (fun _ _ _ h=>h) (Or.inl ⟨by rfl,fun w' hSw=>by go_simp⟩) (by assumption) ?_;simp only [Gb4a,Gb4b,Gb4c];refine take_at 8 166 (.int .i64 h) rfl (by rfl) (by kernel_rfl) (by kernel_rfl) (by kernel_rfl) (fun _ _ _ h=>h) (Or.inl ⟨by rfl,fun w' hSw=>by go_simp⟩) (by assumption) ?_;simp only [Gb4a,Gb4b,Gb4c];refine take_at 9 167 (.pointer (some ⟨g,h*3,none⟩)) rfl (by rfl) (by kernel_rfl) (by kernel_rfl) (by kernel_rfl) (fun _ _ _ h=>h) (Or.inl ⟨by rfl,fun w' hSw=>by go_simp⟩) (by assumption) ?_;simp only [Gb4a,Gb4b,Gb4c];refine take_at 10 168 (.agg (enc z).toArray) rfl (by rfl) (by kernel_rfl) (by kernel_rfl) (by kernel_rfl) (fun _ _ _ h=>h) (yieldsIf_load_mid (by rfl) _ _ rfl _ _ rfl (enc z) _ (fun w' hSw=>hSw.1.range hz) Tryz.underlying138 rfl (by rw [enc_len];exact infoE)) (by assumption) ?_;simp only [Gb4a,Gb4b,Gb4c];refine wpAnyH_ready (rs:=[11]) (by kernel_rfl) (by simp) ?_;refine AllReadyH.cons rfl (fun K hK=>?_) AllReadyH.nil
    go_simp
    go_wp2_with (go_at_call 76;refine (cmp_at u z c hcf _).mono ?_;rintro e w5 ⟨rfl,hg5⟩)
    refine hK.out _ _ ⟨hHeld.1.grown0 enc_len (by omega) hg5,grown_trans hHeld.2 (grown_weak hg5 _)⟩ (fun hHeld=>?_);clear hK K;refine take_at 12 170 (.bool true) rfl (by rfl) (by kernel_rfl) (by kernel_rfl) (by kernel_rfl) (fun _ _ _ h=>h) (Or.inl ⟨by rfl,fun w' hSw=>by go_simp⟩) (by assumption) ?_;simp only [Gb4a,Gb4b,Gb4c];refine take_at 13 171 (.bool false) rfl (by rfl) (by kernel_rfl) (by kernel_rfl) (by kernel_rfl) (fun _ _ _ h=>h) (Or.inl ⟨by rfl,fun w' hSw=>by go_simp⟩) (by assumption) ?_;simp only [Gb4a,Gb4b,Gb4c];refine wpAnyH_done (by kernel_rfl) ?_ _;obtain⟨hH1,hH2⟩:=hHeld;have HH1:=hid hH1;have HH2:=hid hH2;clear hH1 hH2 hAr hgr
    go_wp2
    first
     | exact⟨⟨lo,h,rfl,rfl,HDN.out,HH1.out,HH2.out⟩,by simp [intOf]<;>omega⟩
     | exact⟨⟨_,_,_,_,_,_,_,_,_,_,_,_,_,_,_,_,_,_,_,_,_,_,_,_,_,_,_,_,_,⟨lo,h,rfl,rfl,HDN.out,HH1.out,HH2.out⟩,rfl⟩,by simp [intOf]<;>omega⟩
   ·have hc1:¬ c<0:=fun e=>hb (hcl.1 e)
    have hc0:0≤c:=by omega
    have HUP:=hid ((Hid.out hbs).up n4 n5 (by rw [hgc];simpa using hb));clear hcl hc1 hgc
    go_wp2_with fail
    refine wp_region_held_drew (S:=fun w'=>Arr enc 3 w' g D∧w.grownBy w' (some g)) (by kernel_rfl) ⟨(Hid.out hAr).drew,grown_trans (Hid.out hgr) (grown_drew _ _)⟩ (fun hHeld=>?_);refine take_at 0 158 (.func (.func 76) #[] #[]) rfl (by rfl) (by kernel_rfl) (by kernel_rfl) (by kernel_rfl) (fun _ _ _ h=>h) (Or.inl ⟨by rfl,fun w' hSw=>by go_simp⟩) (by assumption) ?_;simp only [Gb4a,Gb4b,Gb4c];refine take_at 1 159 (.slice (some ⟨g,0,none⟩) N cap) rfl (by rfl) (by kernel_rfl) (by kernel_rfl) (by kernel_rfl) (fun _ _ _ h=>h) (Or.inl ⟨by rfl,fun w' hSw=>by go_simp⟩) (by assumption) ?_;simp only [Gb4a,Gb4b,Gb4c];refine take_at 2 160 (.int .i64 ((Q:Int)+(M:Int)-1)) rfl (by rfl) (by kernel_rfl) (by kernel_rfl) (by kernel_rfl) (fun _ _ _ h=>h) (Or.inl ⟨by rfl,fun w' hSw=>by go_simp⟩) (by assumption) ?_;simp only [Gb4a,Gb4b,Gb4c];refine take_at 3 161 (.int .i64 h) rfl (by rfl) (by kernel_rfl) (by kernel_rfl) (by kernel_rfl) (fun _ _ _ h=>h) (Or.inl ⟨by rfl,fun w' hSw=>by go_simp⟩) (by assumption) ?_;simp only [Gb4a,Gb4b,Gb4c];refine take_at 4 162 (.int .i64 q) rfl (by rfl) (by kernel_rfl) (by kernel_rfl) (by kernel_rfl) (fun _ _ _ h=>h) (Or.inl ⟨by rfl,fun w' hSw=>by go_simp<;>exact IntWalk.i64_in _ ⟨by omega,by omega⟩⟩) (by assumption) ?_;simp only [Gb4a,Gb4b,Gb4c];refine take_at 5 163 (.pointer (some ⟨g,q*3,none⟩)) rfl (by rfl) (by kernel_rfl) (by kernel_rfl) (by kernel_rfl) (fun _ _ _ h=>h) (Or.inl ⟨by rfl,fun w' hSw=>by go_simp⟩) (by assumption) ?_;simp only [Gb4a,Gb4b,Gb4c];refine take_at 6 164 (.agg (enc u).toArray) rfl (by rfl) (by kernel_rfl) (by kernel_rfl) (by kernel_rfl) (fun _ _ _ h=>h) (yieldsIf_load_mid (by rfl) _ _ rfl _ _ rfl (enc u) _ (fun w' hSw=>hSw.1.range hu) Tryz.underlying138 rfl (by rw [enc_len];exact infoE)) (by assumption) ?_;simp only [Gb4a,Gb4b,Gb4c];refine take_at 7 165 (.slice (some ⟨g,0,none⟩) N cap) rfl (by rfl) (by kernel_rfl) (by kernel_rfl) (by kernel_rfl) (fun _ _ _ h=>h) (Or.inl ⟨by rfl,fun w' hSw=>by go_simp⟩) (by assumption) ?_;simp only [Gb4a,Gb4b,Gb4c];refine take_at 8 166 (.int .i64 h) rfl (by rfl) (by kernel_rfl) (by kernel_rfl) (by kernel_rfl) (fun _ _ _ h=>h) (Or.inl ⟨by rfl,fun w' hSw=>by go_simp⟩) (by assumption) ?_;simp only [Gb4a,Gb4b,Gb4c];refine take_at 9 167 (.pointer (some ⟨g,h*3,none⟩)) rfl (by rfl) (by kernel_rfl) (by kernel_rfl) (by kernel_rfl) (fun _ _ _ h=>h) (Or.inl ⟨by rfl,fun w' hSw=>by go_simp⟩) (by assumption) ?_;simp only [Gb4a,Gb4b,Gb4c];refine take_at 10 168 (.agg (enc z).toArray) rfl (by rfl) (by kernel_rfl) (by kernel_rfl) (by kernel_rfl) (fun _ _ _ h=>h) (yieldsIf_load_mid (by rfl) _ _ rfl _ _ rfl (enc z) _ (fun w' hSw=>hSw.1.range hz) Tryz.underlying138 rfl (by rw [enc_len];exact infoE)) (by assumption) ?_;simp only [Gb4a,Gb4b,Gb4c];refine wpAnyH_ready (rs:=[11]) (by kernel_rfl) (by simp) ?_;refine AllReadyH.cons rfl (fun K hK=>?_) AllReadyH.nil
    go_simp
    go_wp2_with (go_at_call 76;refine (cmp_at u z c hcf _).mono ?_;rintro e w5 ⟨rfl,hg5⟩)
    refine hK.out _ _ ⟨hHeld.1.grown0 enc_len (by omega) hg5,grown_trans hHeld.2 (grown_weak hg5 _)⟩ (fun hHeld=>?_);clear hK K;refine take_at 12 170 (.bool false) rfl (by rfl) (by kernel_rfl) (by kernel_rfl) (by kernel_rfl) (fun _ _ _ h=>h) (Or.inl ⟨by rfl,fun w' hSw=>by go_simp⟩) (by assumption) ?_;simp only [Gb4a,Gb4b,Gb4c];refine take_at 13 171 (.bool true) rfl (by rfl) (by kernel_rfl) (by kernel_rfl) (by kernel_rfl) (fun _ _ _ h=>h) (Or.inl ⟨by rfl,fun w' hSw=>by go_simp⟩) (by assumption) ?_;simp only [Gb4a,Gb4b,Gb4c];refine wpAnyH_done (by kernel_rfl) ?_ _;obtain⟨hH1,hH2⟩:=hHeld;have HH1:=hid hH1;have HH2:=hid hH2;clear hH1 hH2 hAr hgr
    go_wp2
    first
     | exact⟨⟨h+1,hi,by go_num,rfl,HUP.out,HH1.out,HH2.out⟩,by simp [intOf]<;>omega⟩
     | exact⟨⟨_,_,_,_,_,_,_,_,_,_,_,_,_,_,_,_,_,_,_,_,_,_,_,_,_,_,_,_,_,⟨h+1,hi,by go_num,rfl,HUP.out,HH1.out,HH2.out⟩,rfl⟩,by simp [intOf]<;>omega⟩
  ·obtain rfl:lo=hi:=by omega
   obtain⟨X1,X2,Y1,Y2,e1,e2,F⟩:=four_make HD.out HN.out HA0.out HM.out HB.out HQ1.out HQ2.out HXL.out HYL.out hn2 (.inl ⟨by omega,by omega,rfl⟩) HX.out HY.out (Hid.out hbs);obtain⟨E,hE⟩:∃ E:Nat,(Q:Int)+(M:Int)-(lo:Int)=(E:Int):=⟨Q+M-lo,by omega⟩;rw [show Q+M-lo=E by omega] at F;have HF:=hid F;have hAr1:Arr enc 3 wr g (P++(X++(Y++R))):=by rw [← HD.out];exact Hid.out hAr
   rw [e1,e2] at hAr1;have HAr:=hid hAr1;have HE1:=hid e1;have HE2:=hid e2;have b3:=F.hAQ;have b4:=F.hQB;clear hAr1 F e1 e2 hbs hAr HX HY HXL HYL HD HA0 HM HB;by_cases cQ:lo<Q
   ·have d1:(lo:Int)<(M:Int):=by omega
    have d2:(M:Int)<(E:Int):=by omega
    have d3:(lo:Int)<(Q:Int):=by omega
    have d4:(Q:Int)<(E:Int):=by omega
    by_cases cA:A0<lo
    ·have d5:(A0:Int)<(lo:Int):=by omega
     by_cases cB:E<B
     ·have d6:(E:Int)<(B:Int):=by omega
      go_wp2_with fail
      go_at_call 174
      refine (four_rot HF.out cap hL hm _ HAr.out (Hid.out hgr) (by omega) (by omega)).mono ?_;rintro e w1 ⟨rfl,hs1⟩;have H1:=hid hs1;clear hs1
      go_wp2_with fail
      go_at_call 148
      refine (four_one IH HF.out cap hL hm H1.out (by omega) (by omega)).mono ?_;rintro e w2 ⟨rfl,hs2⟩;have H2:=hid hs2;clear hs2
      go_wp2_with fail
      go_at_call 148
      refine (four_two IH HF.out cap hL hm H2.out (by omega) (by omega)).mono ?_;rintro e w3 ⟨rfl,hs3⟩;have H3:=hid hs3;clear hs3
      go_wp2
      exact⟨rfl,_,results_none rfl _ _ _,rfl,by rw [HE1.out,HE2.out];exact H3.out⟩
     ·have d6:(B:Int)≤(E:Int):=by omega
      go_wp2_with fail
      go_at_call 174
      refine (four_rot HF.out cap hL hm _ HAr.out (Hid.out hgr) (by omega) (by omega)).mono ?_;rintro e w1 ⟨rfl,hs1⟩;have H1:=hid hs1;clear hs1
      go_wp2_with fail
      go_at_call 148
      refine (four_one IH HF.out cap hL hm H1.out (by omega) (by omega)).mono ?_;rintro e w2 ⟨rfl,hs2⟩;have H2:=hid hs2;clear hs2;have H3:=hid (four_two' HF.out H2.out (by omega))
      go_wp2
      exact⟨rfl,_,results_none rfl _ _ _,rfl,by rw [HE1.out,HE2.out];exact H3.out⟩
    ·have d5:(lo:Int)≤(A0:Int):=by omega
     by_cases cB:E<B
     ·have d6:(E:Int)<(B:Int):=by omega
      go_wp2_with fail
      go_at_call 174
      refine (four_rot HF.out cap hL hm _ HAr.out (Hid.out hgr) (by omega) (by omega)).mono ?_;rintro e w1 ⟨rfl,hs1⟩;have H1:=hid hs1;clear hs1;have H2:=hid (four_one' HF.out H1.out (by omega))
      go_wp2_with fail
      go_at_call 148
      refine (four_two IH HF.out cap hL hm H2.out (by omega) (by omega)).mono ?_;rintro e w3 ⟨rfl,hs3⟩;have H3:=hid hs3;clear hs3
      go_wp2
      exact⟨rfl,_,results_none rfl _ _ _,rfl,by rw [HE1.out,HE2.out];exact H3.out⟩
     ·have d6:(B:Int)≤(E:Int):=by omega
      go_wp2_with fail
      go_at_call 174
      refine (four_rot HF.out cap hL hm _ HAr.out (Hid.out hgr) (by omega) (by omega)).mono ?_;rintro e w1 ⟨rfl,hs1⟩;have H1:=hid hs1;clear hs1;have H2:=hid (four_one' HF.out H1.out (by omega));have H3:=hid (four_two' HF.out H2.out (by omega))
      go_wp2
      exact⟨rfl,_,results_none rfl _ _ _,rfl,by rw [HE1.out,HE2.out];exact H3.out⟩
   ·have d1:(lo:Int)<(M:Int):=by omega
    have d2:(E:Int)≤(M:Int):=by omega
    have d3:(Q:Int)≤(lo:Int):=by omega
    have d4:(Q:Int)<(E:Int):=by omega
    have d5:(A0:Int)<(lo:Int):=by omega
    by_cases cB:E<B
    ·have d6:(E:Int)<(B:Int):=by omega
     have H1:=hid (four_rot' HF.out HAr.out (Hid.out hgr) (by omega));have H2:=hid (four_one' HF.out H1.out (by omega))
     go_wp2_with fail
     go_at_call 148
     refine (four_two IH HF.out cap hL hm H2.out (by omega) (by omega)).mono ?_;rintro e w3 ⟨rfl,hs3⟩;have H3:=hid hs3;clear hs3
     go_wp2
     exact⟨rfl,_,results_none rfl _ _ _,rfl,by rw [HE1.out,HE2.out];exact H3.out⟩
    ·exfalso;omega
theorem sym_le (n:Nat) (IH:SymOK n) (P X Y R D:List Ch) (hD:D=P++(X++(Y++R))) (hX:1<X.length) (hY:1<Y.length) (hn:X.length+Y.length≤n) (sX:Srt key lt X) (sY:Srt key lt Y) (g cap N:Nat) (hN:N=D.length) (hL:N≤cap) (hm:N≤281474976710656) (w:World) (hA:Arr enc 3 w g D) (a m b:Int) (ha:a=(P.length:Int)) (hmm:m=(P.length:Int)+X.length) (hb:b=(P.length:Int)+X.length+Y.length) (hw:m≤(a+b) / 2) :
  Calls Tryz.prog 148 #[.slice (some ⟨g,0,none⟩) N cap,.int .i64 a,.int .i64 m,.int .i64 b,CMP] w fun e w'=>e=.returned (.tuple #[])∧Merged P X Y R g w w':=by
 obtain⟨A0,hA0⟩:∃ M:Nat,M=P.length:=⟨_,rfl⟩;obtain⟨M,hM⟩:∃ M:Nat,M=A0+X.length:=⟨_,rfl⟩;obtain⟨B,hB⟩:∃ B:Nat,B=M+Y.length:=⟨_,rfl⟩;obtain⟨Q,hQ⟩:∃ Q:Nat,((A0:Int)+(B:Int)) / 2=(Q:Int):=⟨(A0+B) / 2,by omega⟩;have q1:2*Q≤A0+B:=by omega
 have q2:A0+B<2*Q+2:=by omega
 have hlen:B≤N:=by rw [hN,hD,hB,hM,hA0];simp only [List.length_append];omega
 have b1:A0+1<M:=by omega
 have b2:M+1<B:=by omega
 have hn2:B-A0≤n:=by omega
 have em:m=(M:Int):=by omega
 have eb:b=(B:Int):=by omega
 rw [← hA0] at ha hmm hb;rw [ha,eb,hQ,em] at hw;have hnq:¬ Q<M:=by omega
 have hdq:decide (Q<M)=false:=by simp [hnq]
 have HQ1:=hid q1;have HQ2:=hid q2;have HA:=hid hA;have HD:=hid hD;have HN:=hid hN;have HX:=hid sX;have HY:=hid sY;have HA0:=hid hA0;have HM:=hid hM;have HB:=hid hB;have HXL:=hid hX;have HYL:=hid hY;clear hA hD hN sX sY hA0 hM hB hX hY hmm hb hn;subst ha em eb;have hq1:(((M:Int)-A0)==1)=false:=by rw [beq_eq_false_iff_ne];omega
 have hq2:(((B:Int)-M)==1)=false:=by rw [beq_eq_false_iff_ne];omega
 unfold CMP
 go_enter Tryz.func148,Tryz.ntmps148
 go_wp2_with fail
 go_loopw [20,21] (fun v u wr=>∃ lo hi:Nat,v=.int .i64 lo∧u=.int .i64 hi∧Hid (Bs (GC D (Q+M-1)) A0 M lo hi)∧Hid (Arr enc 3 wr g D)∧Hid (w.grownBy wr (some g))) (fun v u _=>(intOf u).toNat-(intOf v).toNat)
 case atStart=>exact⟨A0,M,by go_num,by go_num,Bs.start _ (by omega),HA.out,grown_refl _ _⟩
 case round =>
  obtain⟨lo,hi,rfl,rfl,hbs,hAr,hgr⟩:=hrel;have hbd:=Hid.out hbs;obtain⟨n1,n2,n3,_⟩:=hbd;by_cases hlt:lo<hi
  ·obtain⟨h,hh⟩:∃ h:Nat,((lo:Int)+(hi:Int)) / 2=(h:Int):=⟨(lo+hi) / 2,by omega⟩;have n4:lo≤h:=by omega
   have n5:h<hi:=by omega
   have n6:(0:Int)≤(h:Int):=by omega
   have n7:(h:Int)<(N:Int):=by omega
   obtain⟨q,hq⟩:∃ q:Nat,(Q:Int)+(M:Int)-1-(h:Int)=(q:Int):=⟨Q+M-1-h,by omega⟩;have n8:(0:Int)≤(q:Int):=by omega
   have n9:(q:Int)<(N:Int):=by omega
   obtain⟨z,hz⟩:∃ z,D[h]?=some z:=⟨_,List.getElem?_eq_getElem (by rw [← HN.out];omega)⟩;obtain⟨u,hu⟩:∃ z,D[q]?=some z:=⟨_,List.getElem?_eq_getElem (by rw [← HN.out];omega)⟩;obtain⟨c,hcf⟩:∃ c,cf u z=c:=⟨_,rfl⟩;have hcl:=cf_lt u z;rw [hcf] at hcl;have hgc:GC D (Q+M-1) h=lt (key u) (key z):=GC_at (by rw [show Q+M-1-h=q by omega];exact hu) hz;by_cases hb:lt (key u) (key z)=true
   ·have hc0:c<0:=hcl.2 hb;have HDN:=hid ((Hid.out hbs).down n4 n5 (by rw [hgc,hb]));clear hcl hgc
    go_wp2_with fail
    refine wp_region_held_drew (S:=fun w'=>Arr enc 3 w' g D∧w.grownBy w' (some g)) (by kernel_rfl) ⟨(Hid.out hAr).drew,grown_trans (Hid.out hgr) (grown_drew _ _)⟩ (fun hHeld=>?_);refine take_at 0 158 (.func (.func 76) #[] #[]) rfl (by rfl) (by kernel_rfl) (by kernel_rfl) (by kernel_rfl) (fun _ _ _ h=>h) (Or.inl ⟨by rfl,fun w' hSw=>by go_simp⟩) (by assumption) ?_;simp only [Gb4a,Gb4b,Gb4c];refine take_at 1 159 (.slice (some ⟨g,0,none⟩) N cap) rfl (by rfl) (by kernel_rfl) (by kernel_rfl) (by kernel_rfl) (fun _ _ _ h=>h) (Or.inl ⟨by rfl,fun w' hSw=>by go_simp⟩) (by assumption) ?_;simp only [Gb4a,Gb4b,Gb4c];refine take_at 2 160 (.int .i64 ((Q:Int)+(M:Int)-1)) rfl (by rfl) (by kernel_rfl) (by kernel_rfl) (by kernel_rfl) (fun _ _ _ h=>h) (Or.inl ⟨by rfl,fun w' hSw=>by go_simp⟩) (by assumption) ?_;simp only [Gb4a,Gb4b,Gb4c];refine take_at 3 161 (.int .i64 h) rfl (by rfl) (by kernel_rfl) (by kernel_rfl) (by kernel_rfl) (fun _ _ _ h=>h) (Or.inl ⟨by rfl,fun w' hSw=>by go_simp⟩) (by assumption) ?_;simp only [Gb4a,Gb4b,Gb4c];refine take_at 4 162 (.int .i64 q) rfl (by rfl) (by kernel_rfl) (by kernel_rfl) (by kernel_rfl) (fun _ _ _ h=>h) (Or.inl ⟨by rfl,fun w' hSw=>by go_simp<;>exact IntWalk.i64_in _ ⟨by omega,by omega⟩⟩) (by assumption) ?_;simp only [Gb4a,Gb4b,Gb4c];refine take_at 5 163 (.pointer (some ⟨g,q*3,none⟩)) rfl (by rfl) (by kernel_rfl) (by kernel_rfl) (by kernel_rfl) (fun _ _ _ h=>h) (Or.inl ⟨by rfl,fun w' hSw=>by go_simp⟩) (by assumption) ?_;simp only [Gb4a,Gb4b,Gb4c];refine take_at 6 164 (.agg (enc u).toArray) rfl (by rfl) (by kernel_rfl) (by kernel_rfl) (by kernel_rfl) (fun _ _ _ h=>h) (yieldsIf_load_mid (by rfl) _ _ rfl _ _ rfl (enc u) _ (fun w' hSw=>hSw.1.range hu) Tryz.underlying138 rfl (by rw [enc_len];exact infoE)) (by assumption) ?_;simp only [Gb4a,Gb4b,Gb4c];refine take_at 7 165 (.slice (some ⟨g,0,none⟩) N cap) rfl (by rfl) (by kernel_rfl) (by kernel_rfl) (by kernel_rfl) (fun _ _ _ h=>h) (Or.inl ⟨by rfl,fun w' hSw=>by go_simp⟩) (by assumption) ?_;simp only [Gb4a,Gb4b,Gb4c];refine take_at 8 166 (.int .i64 h) rfl (by rfl) (by kernel_rfl) (by kernel_rfl) (by kernel_rfl) (fun _ _ _ h=>h) (Or.inl ⟨by rfl,fun w' hSw=>by go_simp⟩) (by assumption) ?_;simp only [Gb4a,Gb4b,Gb4c];refine take_at 9 167 (.pointer (some ⟨g,h*3,none⟩)) rfl (by rfl) (by kernel_rfl) (by kernel_rfl) (by kernel_rfl) (fun _ _ _ h=>h) (Or.inl ⟨by rfl,fun w' hSw=>by go_simp⟩) (by assumption) ?_;simp only [Gb4a,Gb4b,Gb4c];refine take_at 10 168 (.agg (enc z).toArray) rfl (by rfl) (by kernel_rfl) (by kernel_rfl) (by kernel_rfl) (fun _ _ _ h=>h) (yieldsIf_load_mid (by rfl) _ _ rfl _ _ rfl (enc z) _ (fun w' hSw=>hSw.1.range hz) Tryz.underlying138 rfl (by rw [enc_len];exact infoE)) (by assumption) ?_;simp only [Gb4a,Gb4b,Gb4c];refine wpAnyH_ready (rs:=[11]) (by kernel_rfl) (by simp) ?_;refine AllReadyH.cons rfl (fun K hK=>?_) AllReadyH.nil
    go_simp
    go_wp2_with (go_at_call 76;refine (cmp_at u z c hcf _).mono ?_;rintro e w5 ⟨rfl,hg5⟩)
    refine hK.out _ _ ⟨hHeld.1.grown0 enc_len (by omega) hg5,grown_trans hHeld.2 (grown_weak hg5 _)⟩ (fun hHeld=>?_);clear hK K;refine take_at 12 170 (.bool true) rfl (by rfl) (by kernel_rfl) (by kernel_rfl) (by kernel_rfl) (fun _ _ _ h=>h) (Or.inl ⟨by rfl,fun w' hSw=>by go_simp⟩) (by assumption) ?_;simp only [Gb4a,Gb4b,Gb4c];refine take_at 13 171 (.bool false) rfl (by rfl) (by kernel_rfl) (by kernel_rfl) (by kernel_rfl) (fun _ _ _ h=>h) (Or.inl ⟨by rfl,fun w' hSw=>by go_simp⟩) (by assumption) ?_;simp only [Gb4a,Gb4b,Gb4c];refine wpAnyH_done (by kernel_rfl) ?_ _;obtain⟨hH1,hH2⟩:=hHeld;have HH1:=hid hH1;have HH2:=hid hH2;clear hH1 hH2 hAr hgr
    go_wp2
    first
     | exact⟨⟨lo,h,rfl,rfl,HDN.out,HH1.out,HH2.out⟩,by simp [intOf]<;>omega⟩
     | exact⟨⟨_,_,_,_,_,_,_,_,_,_,_,_,_,_,_,_,_,_,_,_,_,_,_,_,_,_,_,_,_,⟨lo,h,rfl,rfl,HDN.out,HH1.out,HH2.out⟩,rfl⟩,by simp [intOf]<;>omega⟩
   ·have hc1:¬ c<0:=fun e=>hb (hcl.1 e)
    have hc0:0≤c:=by omega
    have HUP:=hid ((Hid.out hbs).up n4 n5 (by rw [hgc];simpa using hb));clear hcl hc1 hgc
    go_wp2_with fail
    refine wp_region_held_drew (S:=fun w'=>Arr enc 3 w' g D∧w.grownBy w' (some g)) (by kernel_rfl) ⟨(Hid.out hAr).drew,grown_trans (Hid.out hgr) (grown_drew _ _)⟩ (fun hHeld=>?_);refine take_at 0 158 (.func (.func 76) #[] #[]) rfl (by rfl) (by kernel_rfl) (by kernel_rfl) (by kernel_rfl) (fun _ _ _ h=>h) (Or.inl ⟨by rfl,fun w' hSw=>by go_simp⟩) (by assumption) ?_;simp only [Gb4a,Gb4b,Gb4c];refine take_at 1 159 (.slice (some ⟨g,0,none⟩) N cap) rfl (by rfl) (by kernel_rfl) (by kernel_rfl) (by kernel_rfl) (fun _ _ _ h=>h) (Or.inl ⟨by rfl,fun w' hSw=>by go_simp⟩) (by assumption) ?_;simp only [Gb4a,Gb4b,Gb4c];refine take_at 2 160 (.int .i64 ((Q:Int)+(M:Int)-1)) rfl (by rfl) (by kernel_rfl) (by kernel_rfl) (by kernel_rfl) (fun _ _ _ h=>h) (Or.inl ⟨by rfl,fun w' hSw=>by go_simp⟩) (by assumption) ?_;simp only [Gb4a,Gb4b,Gb4c];refine take_at 3 161 (.int .i64 h) rfl (by rfl) (by kernel_rfl) (by kernel_rfl) (by kernel_rfl) (fun _ _ _ h=>h) (Or.inl ⟨by rfl,fun w' hSw=>by go_simp⟩) (by assumption) ?_;simp only [Gb4a,Gb4b,Gb4c];refine take_at 4 162 (.int .i64 q) rfl (by rfl) (by kernel_rfl) (by kernel_rfl) (by kernel_rfl) (fun _ _ _ h=>h) (Or.inl ⟨by rfl,fun w' hSw=>by go_simp<;>exact IntWalk.i64_in _ ⟨by omega,by omega⟩⟩) (by assumption) ?_;simp only [Gb4a,Gb4b,Gb4c];refine take_at 5 163 (.pointer (some ⟨g,q*3,none⟩)) rfl (by rfl) (by kernel_rfl) (by kernel_rfl) (by kernel_rfl) (fun _ _ _ h=>h) (Or.inl ⟨by rfl,fun w' hSw=>by go_simp⟩) (by assumption) ?_;simp only [Gb4a,Gb4b,Gb4c];refine take_at 6 164 (.agg (enc u).toArray) rfl (by rfl) (by kernel_rfl) (by kernel_rfl) (by kernel_rfl) (fun _ _ _ h=>h) (yieldsIf_load_mid (by rfl) _ _ rfl _ _ rfl (enc u) _ (fun w' hSw=>hSw.1.range hu) Tryz.underlying138 rfl (by rw [enc_len];exact infoE)) (by assumption) ?_;simp only [Gb4a,Gb4b,Gb4c];refine take_at 7 165 (.slice (some ⟨g,0,none⟩) N cap) rfl (by rfl) (by kernel_rfl) (by kernel_rfl) (by kernel_rfl) (fun _ _ _ h=>h) (Or.inl ⟨by rfl,fun w' hSw=>by go_simp⟩) (by assumption) ?_;simp only [Gb4a,Gb4b,Gb4c];refine take_at 8 166 (.int .i64 h) rfl (by rfl) (by kernel_rfl) (by kernel_rfl) (by kernel_rfl) (fun _ _ _ h=>h) (Or.inl ⟨by rfl,fun w' hSw=>by go_simp⟩) (by assumption) ?_;simp only [Gb4a,Gb4b,Gb4c];refine take_at 9 167 (.pointer (some ⟨g,h*3,none⟩)) rfl (by rfl) (by kernel_rfl) (by kernel_rfl) (by kernel_rfl) (fun _ _ _ h=>h) (Or.inl ⟨by rfl,fun w' hSw=>by go_simp⟩) (by assumption) ?_;simp only [Gb4a,Gb4b,Gb4c];refine take_at 10 168 (.agg (enc z).toArray) rfl (by rfl) (by kernel_rfl) (by kernel_rfl) (by kernel_rfl) (fun _ _ _ h=>h) (yieldsIf_load_mid (by rfl) _ _ rfl _ _ rfl (enc z) _ (fun w' hSw=>hSw.1.range hz) Tryz.underlying138 rfl (by rw [enc_len];exact infoE)) (by assumption) ?_;simp only [Gb4a,Gb4b,Gb4c];refine wpAnyH_ready (rs:=[11]) (by kernel_rfl) (by simp) ?_;refine AllReadyH.cons rfl (fun K hK=>?_) AllReadyH.nil
    go_simp
    go_wp2_with (go_at_call 76;refine (cmp_at u z c hcf _).mono ?_;rintro e w5 ⟨rfl,hg5⟩)
    refine hK.out _ _ ⟨hHeld.1.grown0 enc_len (by omega) hg5,grown_trans hHeld.2 (grown_weak hg5 _)⟩ (fun hHeld=>?_);clear hK K;refine take_at 12 170 (.bool false) rfl (by rfl) (by kernel_rfl) (by kernel_rfl) (by kernel_rfl) (fun _ _ _ h=>h) (Or.inl ⟨by rfl,fun w' hSw=>by go_simp⟩) (by assumption) ?_;simp only [Gb4a,Gb4b,Gb4c];refine take_at 13 171 (.bool true) rfl (by rfl) (by kernel_rfl) (by kernel_rfl) (by kernel_rfl) (fun _ _ _ h=>h) (Or.inl ⟨by rfl,fun w' hSw=>by go_simp⟩) (by assumption) ?_;simp only [Gb4a,Gb4b,Gb4c];refine wpAnyH_done (by kernel_rfl) ?_ _;obtain⟨hH1,hH2⟩:=hHeld;have HH1:=hid hH1;have HH2:=hid hH2;clear hH1 hH2 hAr hgr
    go_wp2
    first
     | exact⟨⟨h+1,hi,by go_num,rfl,HUP.out,HH1.out,HH2.out⟩,by simp [intOf]<;>omega⟩
     | exact⟨⟨_,_,_,_,_,_,_,_,_,_,_,_,_,_,_,_,_,_,_,_,_,_,_,_,_,_,_,_,_,⟨h+1,hi,by go_num,rfl,HUP.out,HH1.out,HH2.out⟩,rfl⟩,by simp [intOf]<;>omega⟩
  ·obtain rfl:lo=hi:=by omega
   obtain⟨X1,X2,Y1,Y2,e1,e2,F⟩:=four_make HD.out HN.out HA0.out HM.out HB.out HQ1.out HQ2.out HXL.out HYL.out hn2 (.inr ⟨by omega,rfl,rfl⟩) HX.out HY.out (Hid.out hbs);obtain⟨E,hE⟩:∃ E:Nat,(Q:Int)+(M:Int)-(lo:Int)=(E:Int):=⟨Q+M-lo,by omega⟩;rw [show Q+M-lo=E by omega] at F;have HF:=hid F;have hAr1:Arr enc 3 wr g (P++(X++(Y++R))):=by rw [← HD.out];exact Hid.out hAr
   rw [e1,e2] at hAr1;have HAr:=hid hAr1;have HE1:=hid e1;have HE2:=hid e2;have b3:=F.hAQ;have b4:=F.hQB;clear hAr1 F e1 e2 hbs hAr HX HY HXL HYL HD HA0 HM HB;by_cases cM:lo<M
   ·have d1:(lo:Int)<(M:Int):=by omega
    have d2:(M:Int)<(E:Int):=by omega
    have d3:(lo:Int)<(Q:Int):=by omega
    have d4:(Q:Int)<(E:Int):=by omega
    by_cases cA:A0<lo
    ·have d5:(A0:Int)<(lo:Int):=by omega
     by_cases cB:E<B
     ·have d6:(E:Int)<(B:Int):=by omega
      go_wp2_with fail
      go_at_call 174
      refine (four_rot HF.out cap hL hm _ HAr.out (Hid.out hgr) (by omega) (by omega)).mono ?_;rintro e w1 ⟨rfl,hs1⟩;have H1:=hid hs1;clear hs1
      go_wp2_with fail
      go_at_call 148
      refine (four_one IH HF.out cap hL hm H1.out (by omega) (by omega)).mono ?_;rintro e w2 ⟨rfl,hs2⟩;have H2:=hid hs2;clear hs2
      go_wp2_with fail
      go_at_call 148
      refine (four_two IH HF.out cap hL hm H2.out (by omega) (by omega)).mono ?_;rintro e w3 ⟨rfl,hs3⟩;have H3:=hid hs3;clear hs3
      go_wp2
      exact⟨rfl,_,results_none rfl _ _ _,rfl,by rw [HE1.out,HE2.out];exact H3.out⟩
     ·have d6:(B:Int)≤(E:Int):=by omega
      go_wp2_with fail
      go_at_call 174
      refine (four_rot HF.out cap hL hm _ HAr.out (Hid.out hgr) (by omega) (by omega)).mono ?_;rintro e w1 ⟨rfl,hs1⟩;have H1:=hid hs1;clear hs1
      go_wp2_with fail
      go_at_call 148
      refine (four_one IH HF.out cap hL hm H1.out (by omega) (by omega)).mono ?_;rintro e w2 ⟨rfl,hs2⟩;have H2:=hid hs2;clear hs2;have H3:=hid (four_two' HF.out H2.out (by omega))
      go_wp2
      exact⟨rfl,_,results_none rfl _ _ _,rfl,by rw [HE1.out,HE2.out];exact H3.out⟩
    ·have d5:(lo:Int)≤(A0:Int):=by omega
     by_cases cB:E<B
     ·have d6:(E:Int)<(B:Int):=by omega
      go_wp2_with fail
      go_at_call 174
      refine (four_rot HF.out cap hL hm _ HAr.out (Hid.out hgr) (by omega) (by omega)).mono ?_;rintro e w1 ⟨rfl,hs1⟩;have H1:=hid hs1;clear hs1;have H2:=hid (four_one' HF.out H1.out (by omega))
      go_wp2_with fail
      go_at_call 148
      refine (four_two IH HF.out cap hL hm H2.out (by omega) (by omega)).mono ?_;rintro e w3 ⟨rfl,hs3⟩;have H3:=hid hs3;clear hs3
      go_wp2
      exact⟨rfl,_,results_none rfl _ _ _,rfl,by rw [HE1.out,HE2.out];exact H3.out⟩
     ·have d6:(B:Int)≤(E:Int):=by omega
      go_wp2_with fail
      go_at_call 174
      refine (four_rot HF.out cap hL hm _ HAr.out (Hid.out hgr) (by omega) (by omega)).mono ?_;rintro e w1 ⟨rfl,hs1⟩;have H1:=hid hs1;clear hs1;have H2:=hid (four_one' HF.out H1.out (by omega));have H3:=hid (four_two' HF.out H2.out (by omega))
      go_wp2
      exact⟨rfl,_,results_none rfl _ _ _,rfl,by rw [HE1.out,HE2.out];exact H3.out⟩
   ·have d1:(M:Int)≤(lo:Int):=by omega
    have d4:(E:Int)≤(Q:Int):=by omega
    have d5:(A0:Int)<(lo:Int):=by omega
    by_cases cQ:lo<Q
    ·have d3:(lo:Int)<(Q:Int):=by omega
     have H1:=hid (four_rot' HF.out HAr.out (Hid.out hgr) (by omega))
     go_wp2_with fail
     go_at_call 148
     refine (four_one IH HF.out cap hL hm H1.out (by omega) (by omega)).mono ?_;rintro e w2 ⟨rfl,hs2⟩;have H2:=hid hs2;clear hs2;have H3:=hid (four_two' HF.out H2.out (by omega))
     go_wp2
     exact⟨rfl,_,results_none rfl _ _ _,rfl,by rw [HE1.out,HE2.out];exact H3.out⟩
    ·have d3:(Q:Int)≤(lo:Int):=by omega
     have H1:=hid (four_rot' HF.out HAr.out (Hid.out hgr) (by omega));have H2:=hid (four_one' HF.out H1.out (by omega));have H3:=hid (four_two' HF.out H2.out (by omega))
     go_wp2
     exact⟨rfl,_,results_none rfl _ _ _,rfl,by rw [HE1.out,HE2.out];exact H3.out⟩
theorem sym_ok:∀ n,SymOK n
 | 0=>fun P X Y R D hD hX hY hn=>by omega
 | n+1=>by
  intro P X Y R D hD hX hY hn sX sY g cap N hN hL hm w hA a m b ha hmm hb;by_cases h1:X.length=1
  ·obtain⟨x,rfl⟩:=List.length_eq_one_iff.1 h1;exact sym_left P Y R D x hD hY sY g cap N hN hL hm w hA a m b ha (by rw [hmm];rfl) (by rw [hb];rfl)
  by_cases h2:Y.length=1
  ·obtain⟨y,rfl⟩:=List.length_eq_one_iff.1 h2;exact sym_right P X R D y hD (by omega) sX g cap N hN hL hm w hA a m b ha hmm (by rw [hb];rfl)
  by_cases hw:(a+b) / 2<m
  ·exact sym_gt n (sym_ok n) P X Y R D hD (by omega) (by omega) (by omega) sX sY g cap N hN hL hm w hA a m b ha hmm hb hw
  ·exact sym_le n (sym_ok n) P X Y R D hD (by omega) (by omega) (by omega) sX sY g cap N hN hL hm w hA a m b ha hmm hb (by omega)
theorem sym_any (P X Y R D:List Ch) (hD:D=P++(X++(Y++R))) (hX:0<X.length) (hY:0<Y.length) (sX:Srt key lt X) (sY:Srt key lt Y) (g cap N:Nat) (hN:N=D.length) (hL:N≤cap) (hm:N≤281474976710656) (w:World) (hA:Arr enc 3 w g D) (a m b:Int) (ha:a=(P.length:Int)) (hmm:m=(P.length:Int)+X.length) (hb:b=(P.length:Int)+X.length+Y.length) :
  Calls Tryz.prog 148 #[.slice (some ⟨g,0,none⟩) N cap,.int .i64 a,.int .i64 m,.int .i64 b,CMP] w fun e w'=>e=.returned (.tuple #[])∧Merged P X Y R g w w' :=
 sym_ok (X.length+Y.length+1) P X Y R D hD hX hY (by omega) sX sY g cap N hN hL hm w hA a m b ha hmm hb
def Fl (k:Nat) (B:List Ch):Prop:=∃ cs:List (List Ch),B=cs.flatten∧∀ c∈cs,c.length=k∧Srt key lt c
def Ck (k:Nat) (C:List Ch):Prop:=∃ (ds:List (List Ch)) (T:List Ch),C=ds.flatten++T∧(∀ c∈ds,c.length=k∧Srt key lt c)∧T.length<k∧Srt key lt T
theorem Fl.nil (k:Nat):Fl k []:=⟨[],rfl,by simp⟩
theorem Fl.snoc {k:Nat}{B Z:List Ch}(h:Fl k B) (hz:Z.length=k) (hs:Srt key lt Z):Fl k (B++Z):=by
 obtain⟨cs,rfl,hc⟩:=h;refine⟨cs++[Z],by simp,?_⟩;intro c hcm;rcases List.mem_append.1 hcm with h | h
 ·exact hc c h
 ·simp at h;subst h;exact⟨hz,hs⟩
theorem Fl.ck {k:Nat}{B Z:List Ch}(h:Fl k B) (hz:Z.length<k) (hs:Srt key lt Z):Ck k (B++Z):=by
 obtain⟨cs,rfl,hc⟩:=h;exact⟨cs,Z,rfl,hc,hz,hs⟩
theorem Ck.two {k:Nat}{C:List Ch}(h:Ck k C) (hl:2*k≤C.length):∃ X Y C',C=X++(Y++C')∧X.length=k∧Y.length=k∧Srt key lt X∧Srt key lt Y∧Ck k C':=by
 obtain⟨ds,T,rfl,hc,ht,hs⟩:=h
 match ds,hc,hl with
 | [],_,hl=>simp at hl;omega
 | [X],hc,hl =>
  have:=hc X (by simp);simp at hl;omega
 | X::Y::ds,hc,hl =>
  have h1:=hc X (by simp);have h2:=hc Y (by simp);exact⟨X,Y,ds.flatten++T,by simp,h1.1,h2.1,h1.2,h2.2,ds,T,rfl,fun c h=>hc c (by simp [h]),ht,hs⟩
theorem Ck.one {k:Nat}{C:List Ch}(h:Ck k C) (hl:k<C.length) (hl2:C.length<2*k):∃ X Y,C=X++Y∧X.length=k∧0<Y.length∧Srt key lt X∧Srt key lt Y:=by
 obtain⟨ds,T,rfl,hc,ht,hs⟩:=h
 match ds,hc,hl,hl2 with
 | [],_,hl,_=>simp at hl;omega
 | [X],hc,hl,_ =>
  have:=hc X (by simp);exact⟨X,T,by simp,this.1,by simp at hl;omega,this.2,hs⟩
 | X::Y::ds,hc,_,hl =>
  have h1:=hc X (by simp);have h2:=hc Y (by simp);simp at hl;omega
theorem Ck.few {k:Nat}{C:List Ch}(h:Ck k C) (hl:C.length≤k):Srt key lt C:=by
 obtain⟨ds,T,rfl,hc,ht,hs⟩:=h
 match ds,hc,hl with
 | [],_,_=>simpa using hs
 | [X],hc,hl =>
  have:=hc X (by simp);have hT:T=[]:=List.eq_nil_of_length_eq_zero (by simp at hl;omega);subst hT;simpa using this.2
 | X::Y::ds,hc,hl =>
  have h1:=hc X (by simp);have h2:=hc Y (by simp);simp at hl;omega
def L1 (D:List Ch) (g:Nat) (w:World) (a:Nat) (wr:World):Prop:=∃ A:List Ch,Arr enc 3 wr g (A++D.drop a)∧A.length=a∧a≤D.length∧Fl 20 A∧Sm key (D.take a) A∧w.grownBy wr (some g)
def L2 (D:List Ch) (g:Nat) (w:World) (bs:Nat) (wr:World):Prop:=∃ A:List Ch,Arr enc 3 wr g A∧A.length=D.length∧Ck bs A∧Sm key D A∧w.grownBy wr (some g)
def L3 (D:List Ch) (g:Nat) (w:World) (bs a:Nat) (wr:World):Prop:=∃ B C:List Ch,Arr enc 3 wr g (B++C)∧B.length=a∧B.length+C.length=D.length∧Fl (2*bs) B∧Ck bs C∧Sm key D (B++C)∧w.grownBy wr (some g)
def Done (D:List Ch) (g:Nat) (w wr:World):Prop:=∃ A:List Ch,Arr enc 3 wr g A∧A.length=D.length∧Srt key lt A∧Sm key D A∧w.grownBy wr (some g)
section
variable {D:List Ch}{g N:Nat}{w wr:World}
theorem l1_start (hA:Arr enc 3 w g D):L1 D g w 0 w:=⟨[],by simpa using hA,rfl,Nat.zero_le _,Fl.nil _,by simpa using Sm.refl _,grown_refl _ _⟩
theorem insertion_none (a:Nat) (V F:Value) (hm:a≤281474976710656) (w:World) :
  Calls Tryz.prog 147 #[V,.int .i64 a,.int .i64 a,F] w fun e w'=>e=.returned (.tuple #[])∧w=w':=by
 go_enter Tryz.func147,Tryz.ntmps147
 go_wp2_with fail
 go_loopw [8] (fun v wr=>v=.int .i64 ((a:Int)+1)∧w=wr) (fun v _=>0)
 case atStart=>exact⟨rfl,rfl⟩
 case round =>
  obtain⟨rfl,rfl⟩:=hrel;have h1:¬ ((a:Int)+1<a):=by omega
  go_wp2
  exact⟨rfl,_,results_none rfl _ _ _,rfl,rfl⟩
theorem l1_step (hN:N=D.length) (cap:Nat) (hL:N≤cap) (hm:N≤281474976710656){a:Nat}(h:L1 D g w a wr) (ha:a+20≤N) (b:Int) (hb:b=(a:Int)+20) :
  Calls Tryz.prog 147 #[.slice (some ⟨g,0,none⟩) N cap,.int .i64 a,.int .i64 b,CMP] wr fun e w'=>e=.returned (.tuple #[])∧L1 D g w (a+20) w':=by
 obtain⟨A,h1,h2,h3,h4,h5,h6⟩:=h;have l1:((D.drop a).take 20).length=20:=by rw [List.length_take,List.length_drop];omega
 have e1:D.drop a=(D.drop a).take 20++D.drop (a+20):=by rw [← List.drop_drop,List.take_append_drop]
 refine (insertion_any A ((D.drop a).take 20) (D.drop (a+20)) (A++D.drop a) (by rw [← e1]) (by omega) g cap N (by rw [List.length_append,List.length_drop];omega) hL hm wr h1 _ _ (by rw [h2]) (by rw [hb,l1,h2];rfl)).mono fun e w' h=>⟨h.1,?_⟩
 obtain⟨S',s1,s2,s3,s4,s5⟩:=h.2;refine⟨A++S',by rw [List.append_assoc];exact s1,by rw [List.length_append];omega,by omega,Fl.snoc h4 (by omega) s3,?_,grown_trans h6 s5⟩;rw [List.take_add];exact Sm.append h5 s4
theorem l1_last (hN:N=D.length) (cap:Nat) (hL:N≤cap) (hm:N≤281474976710656){a:Nat}(h:L1 D g w a wr) (ha:N<a+20) :
  Calls Tryz.prog 147 #[.slice (some ⟨g,0,none⟩) N cap,.int .i64 a,.int .i64 N,CMP] wr fun e w'=>e=.returned (.tuple #[])∧L2 D g w 20 w':=by
 obtain⟨A,h1,h2,h3,h4,h5,h6⟩:=h;by_cases h0:a=N
 ·subst h0;refine (insertion_none a _ _ (by omega) wr).mono fun e w' h=>⟨h.1,?_⟩
  obtain⟨_,rfl⟩:=h;have e0:D.drop a=[]:=List.drop_eq_nil_of_le (by omega);have e1:D.take a=D:=List.take_of_length_le (by omega);rw [e0,List.append_nil] at h1;rw [e1] at h5;have:=Fl.ck h4 (Z:=[]) (by simp) Srt.nil;rw [List.append_nil] at this;exact⟨A,h1,by omega,this,h5,h6⟩
 ·refine (insertion_any A (D.drop a) [] (A++D.drop a) (by simp) (by rw [List.length_drop];omega) g cap N (by rw [List.length_append,List.length_drop];omega) hL hm wr h1 _ _ (by rw [h2]) (by rw [List.length_drop,h2];omega)).mono fun e w' h=>⟨h.1,?_⟩
  obtain⟨S',s1,s2,s3,s4,s5⟩:=h.2;rw [List.length_drop] at s2;rw [List.append_nil] at s1;refine⟨A++S',s1,by rw [List.length_append];omega,Fl.ck h4 (by omega) s3,?_,grown_trans h6 s5⟩;have:=Sm.append h5 s4
  rwa [List.take_append_drop] at this
theorem l2_in {bs:Nat}(h:L2 D g w bs wr):L3 D g w bs 0 wr:=by
 obtain⟨A,h1,h2,h3,h4,h5⟩:=h;exact⟨[],A,h1,rfl,by simpa using h2,Fl.nil _,h3,h4,h5⟩
theorem l2_end {bs:Nat}(h:L2 D g w bs wr) (hb:D.length≤bs):Done D g w wr:=by
 obtain⟨A,h1,h2,h3,h4,h5⟩:=h;exact⟨A,h1,h2,h3.few (by omega),h4,h5⟩
theorem l3_step (hN:N=D.length) (cap:Nat) (hL:N≤cap) (hm:N≤281474976710656){bs a:Nat}(h:L3 D g w bs a wr) (h0:0<bs) (ha:a+2*bs≤N) (m b:Int) (hmm:m=(a:Int)+bs) (hb:b=(a:Int)+2*bs) :
  Calls Tryz.prog 148 #[.slice (some ⟨g,0,none⟩) N cap,.int .i64 a,.int .i64 m,.int .i64 b,CMP] wr fun e w'=>e=.returned (.tuple #[])∧L3 D g w bs (a+2*bs) w':=by
 obtain⟨B,C,h1,h2,h3,h4,h5,h6,h7⟩:=h;obtain⟨X,Y,C',rfl,x1,y1,x2,y2,c1⟩:=h5.two (by omega);simp only [List.length_append] at h3;refine (sym_any B X Y C' _ rfl (by omega) (by omega) x2 y2 g cap N (by simp only [List.length_append];omega) hL hm wr h1 _ _ _ (by rw [h2]) (by rw [hmm,h2,x1]) (by rw [hb,h2,x1,y1];omega)).mono fun e w' h=>⟨h.1,?_⟩
 obtain⟨Z,z1,z2,z3,z4,z5⟩:=h.2;refine⟨B++Z,C',by rw [List.append_assoc];exact z1,by rw [List.length_append];omega,by rw [List.length_append];omega,Fl.snoc h4 (by omega) z3,c1,?_,grown_trans h7 z5⟩;refine h6.trans ?_;rw [List.append_assoc,← List.append_assoc X];exact Sm.append (Sm.refl _) (Sm.append z4 (Sm.refl _))
theorem l3_last (hN:N=D.length) (cap:Nat) (hL:N≤cap) (hm:N≤281474976710656){bs a:Nat}(h:L3 D g w bs a wr) (h0:0<bs) (ha:N<a+2*bs) (m:Int) (hmm:m=(a:Int)+bs) (ha2:a+bs<N) :
  Calls Tryz.prog 148 #[.slice (some ⟨g,0,none⟩) N cap,.int .i64 a,.int .i64 m,.int .i64 N,CMP] wr fun e w'=>e=.returned (.tuple #[])∧L2 D g w (2*bs) w':=by
 obtain⟨B,C,h1,h2,h3,h4,h5,h6,h7⟩:=h;obtain⟨X,Y,rfl,x1,y1,x2,y2⟩:=h5.one (by omega) (by omega);simp only [List.length_append] at h3;refine (sym_any B X Y [] (B++(X++Y)) (by simp) (by omega) (by omega) x2 y2 g cap N (by simp only [List.length_append];omega) hL hm wr h1 _ _ _ (by rw [h2]) (by rw [hmm,h2,x1]) (by omega)).mono fun e w' h=>⟨h.1,?_⟩
 obtain⟨Z,z1,z2,z3,z4,z5⟩:=h.2;rw [List.append_nil] at z1;refine⟨B++Z,z1,by rw [List.length_append];omega,Fl.ck h4 (by omega) z3,h6.trans (Sm.append (Sm.refl _) z4),grown_trans h7 z5⟩
theorem l3_few (hN:N=D.length){bs a:Nat}(h:L3 D g w bs a wr) (h0:0<bs) (ha:N≤a+bs):L2 D g w (2*bs) wr:=by
 obtain⟨B,C,h1,h2,h3,h4,h5,h6,h7⟩:=h;exact⟨B++C,h1,by rw [List.length_append];exact h3,Fl.ck h4 (by omega) (h5.few (by omega)),h6,h7⟩
theorem L3.le (hN:N=D.length){bs a:Nat}(h:L3 D g w bs a wr):a≤N:=by
 obtain⟨B,C,h1,h2,h3,_⟩:=h;omega
theorem L1.le (hN:N=D.length){a:Nat}(h:L1 D g w a wr):a≤N:=by
 obtain⟨A,h1,h2,h3,_⟩:=h;omega
end
open Go.ChangeShapes Go.WideShapes Go.ChangeAt Go.RowKit
open Ar Rg St
theorem stable_any (D:List Ch) (g cap N:Nat) (hN:N=D.length) (hL:N≤cap) (hm:N≤281474976710656) (w:World) (hA:Arr enc 3 w g D) :
  Calls Tryz.prog 117 #[.slice (some ⟨g,0,none⟩) N cap,.int .i64 N,CMP] w fun e w'=>e=.returned (.tuple #[])∧Done D g w w':=by
 have HN:=hid hN;have H1:=hid (l1_start hA);clear hN hA;unfold CMP
 go_enter Tryz.func117,Tryz.ntmps117
 go_wp2_with fail
 go_loopw [7,8] (fun v u wr=>∃ a:Nat,v=.int .i64 a∧u=.int .i64 ((a:Int)+20)∧Hid (L1 D g w a wr)) (fun v u _=>N+40-(intOf u).toNat)
 case atStart=>exact⟨0,by go_num,by go_num,H1.out⟩
 case round =>
  clear H1;obtain⟨a,rfl,rfl,h1⟩:=hrel;have ha:=(Hid.out h1).le HN.out;by_cases hb:a+20≤N
  ·have hb1:(a:Int)+20≤(N:Int):=by omega
   go_wp2_with fail
   go_at_call 147
   refine (l1_step HN.out cap hL hm (Hid.out h1) hb _ rfl).mono ?_;rintro e w1 ⟨rfl,hs⟩;have HS1:=hid hs;clear hs h1
   go_wp2
   exact⟨⟨a+20,by go_num,by go_num,HS1.out⟩,by simp [intOf]<;>omega⟩
  ·have hb1:(N:Int)<(a:Int)+20:=by omega
   go_wp2_with fail
   go_at_call 147
   refine (l1_last HN.out cap hL hm (Hid.out h1) (by omega)).mono ?_;rintro e w1 ⟨rfl,hs⟩;have HS1:=hid hs;clear hs h1 hb hb1
   go_wp2_with fail
   go_loopw [6] (fun v wr=>∃ bs:Nat,v=.int .i64 bs∧0<bs∧bs≤2*N+20∧Hid (L2 D g w bs wr)) (fun v _=>N-(intOf v).toNat)
   case atStart=>exact⟨20,by go_num,by omega,by omega,HS1.out⟩
   case round =>
    clear HS1;obtain⟨bs,rfl,c1,c2,h2⟩:=hrel;by_cases hlt:bs<N
    ·have HS2:=hid (l2_in (Hid.out h2));clear h2
     go_wp2_with fail
     go_loopw [7,8] (fun v u wr=>∃ a:Nat,v=.int .i64 a∧u=.int .i64 ((a:Int)+2*(bs:Int))∧Hid (L3 D g w bs a wr)) (fun v u _=>N+4*bs-(intOf u).toNat)
     case atStart=>exact⟨0,by go_num,by go_num,HS2.out⟩
     case round =>
      clear HS2;obtain⟨a2,rfl,rfl,h3⟩:=hrel;have ha2:=(Hid.out h3).le HN.out;by_cases hb:a2+2*bs≤N
      ·have hb1:(a2:Int)+2*(bs:Int)≤(N:Int):=by omega
       go_wp2_with fail
       go_at_call 148
       refine (l3_step HN.out cap hL hm (Hid.out h3) c1 hb _ _ rfl rfl).mono ?_;rintro e w1 ⟨rfl,hs⟩;have HS1:=hid hs;clear hs h3
       go_wp2
       exact⟨⟨a2+2*bs,by go_num,by go_num,HS1.out⟩,by simp [intOf]<;>omega⟩
      ·have hb1:(N:Int)<(a2:Int)+2*(bs:Int):=by omega
       by_cases hl:a2+bs<N
       ·have hl1:(a2:Int)+(bs:Int)<(N:Int):=by omega
        go_wp2_with fail
        go_at_call 148
        refine (l3_last HN.out cap hL hm (Hid.out h3) c1 (by omega) _ rfl hl).mono ?_;rintro e w1 ⟨rfl,hs⟩;have HS1:=hid hs;clear hs h3
        go_wp2
        exact⟨⟨2*bs,by go_num,by omega,by omega,HS1.out⟩,by simp [intOf]<;>omega⟩
       ·have hl1:(N:Int)≤(a2:Int)+(bs:Int):=by omega
        have HS1:=hid (l3_few HN.out (Hid.out h3) c1 (by omega));clear h3
        go_wp2
        exact⟨⟨2*bs,by go_num,by omega,by omega,HS1.out⟩,by simp [intOf]<;>omega⟩
    ·have HS2:=hid (l2_end (Hid.out h2) (by rw [← HN.out];omega));clear h2
     go_wp2
     exact⟨rfl,_,results_none rfl _ _ _,rfl,HS2.out⟩
theorem sort_any (D:List Ch) (g cap N:Nat) (hN:N=D.length) (hL:N≤cap) (hm:N≤281474976710656) (w:World) (hA:Arr enc 3 w g D) :
  Calls Tryz.prog 75 #[.slice (some ⟨g,0,none⟩) N cap,CMP] w fun e w'=>e=.returned (.tuple #[])∧Done D g w w':=by
 have HC:=hid (stable_any D g cap N hN hL hm w hA);clear hA hN;unfold CMP at *
 go_enter Tryz.func75,Tryz.ntmps75
 go_wp2_with fail
 go_at_call 117
 refine HC.out.mono ?_;rintro e w1 ⟨rfl,hs⟩;have HS1:=hid hs;clear hs HC
 go_wp2
 exact⟨rfl,_,results_none rfl _ _ _,rfl,HS1.out⟩
end Go.Proofs.YtopepebcnaikiaaGreatDoor.Sc
namespace Go.Proofs.YtopepebcnaikiaaGreatDoor.It
open Lib (hid)
open Go.ChangeShapes Go.WideShapes Go.ChangeAt Go.RowKit
open Ar Rg St
open BigFrame
theorem stable_none (w:World) :
  Calls Tryz.prog 117 #[.slice none 0 0,.int .i64 0,Sc.CMP] w fun e w'=>e=.returned (.tuple #[])∧w=w':=by
 unfold Sc.CMP
 go_enter Tryz.func117,Tryz.ntmps117
 go_wp2_with fail
 refine wp_loop_rounds 1 ?_;rw [rounds_succ]
 go_wp2_with fail
 go_at_call 147
 refine (Sc.insertion_none 0 _ _ (by omega) _).mono ?_;rintro e w1 ⟨rfl,rfl⟩
 go_wp2_with fail
 refine wp_loop_rounds 1 ?_;rw [rounds_succ]
 go_wp2
 exact⟨rfl,_,results_none rfl _ _ _,rfl,rfl⟩
theorem sort_none (w:World) :
  Calls Tryz.prog 75 #[.slice none 0 0,Sc.CMP] w fun e w'=>e=.returned (.tuple #[])∧w=w':=by
 have HC:=hid (stable_none w);unfold Sc.CMP at *
 go_enter Tryz.func75,Tryz.ntmps75
 go_wp2_with fail
 go_at_call 117
 refine HC.out.mono ?_;rintro e w1 ⟨rfl,rfl⟩
 go_wp2
 exact⟨rfl,_,results_none rfl _ _ _,rfl,rfl⟩
def SortedTo (C:List Ch) (w0:World) (v:Value) (w':World):Prop:=∃ (A:Option Addr) (c:Nat) (S:List Ch),v=.slice A C.length c∧S.length=C.length∧Srt Sc.key lt S∧Sm Sc.key C S∧Ls Sc.enc 3 w' w'.heap.size A S∧Below w0.heap.size w0 w'
theorem sorted_any (C:List Ch) (w0 w:World) (v:Value) (hM:MkC w0 w v C) (hlen:C.length≤1099511627776) :
  Calls Tryz.prog 75 #[v,Sc.CMP] w fun e w'=>e=.returned (.tuple #[])∧SortedTo C w0 v w':=by
 rcases hM.arr Sc.enc_len with ⟨rfl,rfl⟩ | ⟨g,c,rfl,hc,hcm,hg,hlt,hA⟩
 ·refine (sort_none w).mono fun e w' h=>?_
  obtain⟨h1,rfl⟩:=h;exact⟨h1,none,0,[],rfl,rfl,Srt.nil,Sm.refl _,Ls.nil,hM.2⟩
 ·refine (Sc.sort_any C g c C.length rfl hc (by omega) w hA).mono fun e w' h=>?_
  obtain⟨h1,S,h2,h3,h4,h5,h6⟩:=h;refine⟨h1,some ⟨g,0,none⟩,c,S,rfl,h3,h4,h5,Ls.of_arr h2 (Nat.lt_of_lt_of_le hlt h6.size),hM.2.grown h6 hM.2.size ?_⟩;intro q hq;cases hq;exact hg
theorem lasts_len:∀ S:List Ch,(lasts S).length≤S.length
 | []=>Nat.le_refl _
 | [c]=>by simp [lasts]
 | c::d::r=>by
  have ih:=lasts_len (d::r);rw [lasts,List.length_append];have:(if ckey d=ckey c then [] else [c]).length≤1:=by split<;>simp
  simp only [List.length_cons] at ih ⊢;omega
def AtL (S:List Ch) (i:Nat) (O:List Ch):Prop:=O++lasts (S.drop i)=lasts S
theorem AtL.le {S O:List Ch}{i:Nat}(h:AtL S i O):O.length≤S.length:=by
 have:=congrArg List.length h;rw [List.length_append] at this;have:=lasts_len S;omega
theorem AtL.put_last {S O:List Ch}{i:Nat}{x:Ch}(h:AtL S i O) (hx:S[i]?=some x) (hl:i+1=S.length):AtL S (i+1) (O++[x]):=by
 unfold AtL at h ⊢;rw [← h,drop_atC hx,List.drop_eq_nil_of_le (by omega)];simp [lasts]
theorem AtL.put {S O:List Ch}{i:Nat}{x y:Ch}(h:AtL S i O) (hx:S[i]?=some x) (hy:S[i+1]?=some y) (hk:ckey y≠ckey x):AtL S (i+1) (O++[x]):=by
 unfold AtL at h ⊢;rw [← h,drop_atC hx,drop_atC hy,lasts,if_neg hk,List.append_assoc]
theorem AtL.pass {S O:List Ch}{i:Nat}{x y:Ch}(h:AtL S i O) (hx:S[i]?=some x) (hy:S[i+1]?=some y) (hk:ckey y=ckey x):AtL S (i+1) O:=by
 unfold AtL at h ⊢;rw [← h,drop_atC hx,drop_atC hy,lasts,if_pos hk,List.nil_append]
theorem AtL.done {S O:List Ch}{i:Nat}(h:AtL S i O) (hi:S.length≤i):O=lasts S:=by
 unfold AtL at h;rw [List.drop_eq_nil_of_le hi] at h;rw [← h];simp [lasts]
theorem lastOfEach_any (C:List Ch) (A:Option Addr) (n c B:Nat) (hn:n=C.length) (hlen:n≤1099511627776) (w:World) (hB:B≤w.heap.size) (hC:Ls Sc.enc 3 w B A C) :
  Calls Tryz.prog 40 #[.slice A n c] w fun e w'=>∃ v S,e=.returned v∧Srt Sc.key lt S∧Sm Sc.key C S∧S.length=n∧MkC w w' v (lasts S):=by
 have HN:=hid hn;have HC:=hid hC;clear hn hC
 go_enter Tryz.func40,Tryz.ntmps40
 go_wp2_with (at_builtin;refine catC (Mk.nil (Below.refl _ _)) C A n c HN.out HC.out (by simp;omega) rfl _ _ rfl rfl rfl ?_;intro v1 w1 hM1 hG1;have HM1:=hid hM1;clear hM1 hG1)
 go_at_call 75
 refine (sorted_any C w w1 v1 HM1.out (by rw [← HN.out];exact hlen)).mono ?_;rintro e w2 ⟨rfl,hs⟩;obtain⟨A2,c2,S,hv1,hSl,hSs,hSm,hSL,hSb⟩:=hs;have HS:=hid (And.intro hSs hSm);have HSL:=hid hSL;have HSB:=hid hSb;have HSN:=hid (show n=S.length by rw [hSl];exact HN.out);rw [← HN.out] at hv1;clear hSs hSm hSL hSb hSl HM1;subst hv1
 go_wp2_with fail
 go_loopw [4,13] (fun ov v wr=>∃ (i:Nat) (O:List Ch),i≤n∧v=.int .i64 i∧Hid (AtL S i O)∧Hid (MkC w2 wr ov O)) (fun _ v _=>n-(intOf v).toNat)
 case atStart=>exact⟨0,[],Nat.zero_le _,by go_num,rfl,Mk.nil (Below.refl _ _)⟩
 case round =>
  obtain⟨i,O,hi,rfl,hat,hm⟩:=hrel;by_cases hlt:i<n
  ·obtain⟨x,hx⟩:∃ x,S[i]?=some x:=⟨_,List.getElem?_eq_getElem (by rw [← HSN.out];exact hlt)⟩;have hL:=HSL.out.below (Hid.out hm).2;obtain⟨b,o,hAe,hb,hr⟩:=hL i x hx;have hbs:b<wr.heap.size:=Nat.lt_of_lt_of_le hb (Hid.out hm).2.size;have hc0:wr.cell? ⟨b,o+i*3,none⟩=some (.string x.k):=hr 0 _ rfl;have hc1:wr.cell? ⟨b,o+i*3+1,none⟩=some (.bool x.h):=hr 1 _ rfl;have hc2:wr.cell? ⟨b,o+i*3+2,none⟩=some (.string x.v):=hr 2 _ rfl;have HL:=hid hL;clear hL hr;subst hAe;have HM:=hid (show MkC w2 (wr.alloc (.cells #[.string x.k,.bool x.h,.string x.v] 138)) _ O from (Hid.out hm).alloc _);have hd0:(wr.alloc (.cells #[.string x.k,.bool x.h,.string x.v] 138)).cell? ⟨wr.heap.size,0,none⟩=some (.string x.k):=by simp
   have hd1:(wr.alloc (.cells #[.string x.k,.bool x.h,.string x.v] 138)).cell? ⟨wr.heap.size,1,none⟩=some (.bool x.h):=by simp
   have hd2:(wr.alloc (.cells #[.string x.k,.bool x.h,.string x.v] 138)).cell? ⟨wr.heap.size,2,none⟩=some (.string x.v):=by simp
   have hol:O.length≤n:=by have:=(Hid.out hat).le;rw [← HSN.out] at this;exact this
   by_cases hl:i+1=n
   ·have hq:(((i:Int)+1)==(n:Int))=true:=by rw [beq_iff_eq];omega
    have HA:=hid ((Hid.out hat).put_last hx (by rw [← HSN.out];exact hl));clear hat hx hl
    go_wp2_with fail
    generalize wr.alloc _=W1 at *
    go_big_quiet (fail)
    have HM2:=hid (HM.out.drewN nq);clear HM hm
    go_wp2_with (at_builtin;refine catC (HM2.out.alloc _) [x] _ 1 1 rfl (Ls.new _ x _ _ (Nat.lt_succ_self _)) (by omega) rfl _ _ rfl rfl rfl ?_;intro v3 w3 hM3 hG3;have HM3:=hid hM3;clear hM3 hG3)
    exact⟨⟨i+1,O++[x],by omega,by go_num,HA.out,HM3.out⟩,by simp [intOf]<;>omega⟩
   ·obtain⟨j,hj⟩:∃ j,i+1=j:=⟨_,rfl⟩;have hj1:(i:Int)+1=(j:Int):=by omega
    have hj3:(j:Int)<(n:Int):=by omega
    have hq:((j:Int)==(n:Int))=false:=by rw [beq_eq_false_iff_ne];omega
    obtain⟨y,hy⟩:∃ y,S[j]?=some y:=⟨_,List.getElem?_eq_getElem (by rw [← HSN.out];omega)⟩;obtain⟨b2,o2,hAe,hb2,hr⟩:=HL.out j y hy;cases hAe;have hcy:(wr.alloc (.cells #[.string x.k,.bool x.h,.string x.v] 138)).cell? ⟨b,o+j*3,none⟩=some (.string y.k):=by
     rw [World.cell?_alloc_lt _ _ _ hbs];exact hr 0 _ rfl
    clear hr;rw [← hj] at hy;by_cases hk:ckey y=ckey x
    ·have he:(y.k.toList==x.k.toList)=true:=by rw [str_eq];exact decide_eq_true hk
     have HA:=hid ((Hid.out hat).pass hx hy hk);rw [hj] at HA;clear hat hx hy hk hl
     go_wp2_with fail
     generalize wr.alloc _=W1 at *
     go_big_quiet (fail)
     have HM2:=hid (HM.out.drewN nq);clear HM hm
     go_wp2
     exact⟨⟨j,O,by omega,rfl,HA.out,HM2.out⟩,by simp [intOf]<;>omega⟩
    ·have he:(y.k.toList==x.k.toList)=false:=by rw [str_eq];exact decide_eq_false hk
     have HA:=hid ((Hid.out hat).put hx hy hk);rw [hj] at HA;clear hat hx hy hk hl
     go_wp2_with fail
     generalize wr.alloc _=W1 at *
     go_big_quiet (fail)
     have HM2:=hid (HM.out.drewN nq);clear HM hm
     go_wp2_with (at_builtin;refine catC (HM2.out.alloc _) [x] _ 1 1 rfl (Ls.new _ x _ _ (Nat.lt_succ_self _)) (by omega) rfl _ _ rfl rfl rfl ?_;intro v3 w3 hM3 hG3;have HM3:=hid hM3;clear hM3 hG3)
     exact⟨⟨j,O++[x],by omega,rfl,HA.out,HM3.out⟩,by simp [intOf]<;>omega⟩
  ·have HO:=hid ((Hid.out hat).done (by rw [← HSN.out];omega));have HM:=hid ((Hid.out hm).since HSB.out);clear hat hm
   go_wp2
   go_ret
   exact⟨_,S,rfl,HS.out.1,HS.out.2,HSN.out.symm,by rw [← HO.out];exact HM.out⟩
theorem there_any (x:Itm) (w:World) :
  Calls Tryz.prog 114 #[.agg #[.string x.k,.string x.v]] w fun e w'=>e=.returned (.agg #[.string x.k,.bool true,.string x.v])∧Below w.heap.size w w':=by
 go_enter Tryz.func114,Tryz.ntmps114
 go_wp2
 exact bodyPost_ret (v:=.agg #[.string x.k,.bool true,.string x.v]) (by simp [results,Tryz.results114,go_sem]) rfl ⟨rfl,((Below.refl _ _).alloc (Nat.le_refl _) _).alloc (by simp) _⟩
def AtD (A B:List Itm) (i j:Nat) (O:List Ch):Prop:=O++dif (A.drop i) (B.drop j)=dif A B∧O.length≤i+j
theorem AtD.left {A B:List Itm}{i j:Nat}{O:List Ch}{a:Itm}(h:AtD A B i j O) (ha:A[i]?=some a) (hj:B.length≤j):AtD A B (i+1) j (O++[gone a]):=by
 obtain⟨h1,h2⟩:=h;refine⟨?_,by simp;omega⟩;rw [← h1,drop_at ha,List.drop_eq_nil_of_le hj,dif_left,List.append_assoc];rfl
theorem AtD.ahead {A B:List Itm}{i j:Nat}{O:List Ch}{a b:Itm}(h:AtD A B i j O) (ha:A[i]?=some a) (hb:B[j]?=some b) (hl:lt (key a) (key b)=true):AtD A B (i+1) j (O++[gone a]):=by
 obtain⟨h1,h2⟩:=h;refine⟨?_,by simp;omega⟩;rw [← h1,drop_at ha,drop_at hb,dif_lt _ _ hl,List.append_assoc];rfl
theorem AtD.right {A B:List Itm}{i j:Nat}{O:List Ch}{b:Itm}(h:AtD A B i j O) (hi:A.length≤i) (hb:B[j]?=some b):AtD A B i (j+1) (O++[there b]):=by
 obtain⟨h1,h2⟩:=h;refine⟨?_,by simp;omega⟩;rw [← h1,List.drop_eq_nil_of_le hi,drop_at hb,dif_right,List.append_assoc];rfl
theorem AtD.behind {A B:List Itm}{i j:Nat}{O:List Ch}{a b:Itm}(h:AtD A B i j O) (ha:A[i]?=some a) (hb:B[j]?=some b) (hl:lt (key b) (key a)=true):AtD A B i (j+1) (O++[there b]):=by
 obtain⟨h1,h2⟩:=h;refine⟨?_,by simp;omega⟩;rw [← h1,drop_at ha,drop_at hb,dif_gt _ _ hl,List.append_assoc];rfl
theorem AtD.same {A B:List Itm}{i j:Nat}{O:List Ch}{a b:Itm}(h:AtD A B i j O) (ha:A[i]?=some a) (hb:B[j]?=some b) (hk:key a=key b) (hv:a.v.data.toList=b.v.data.toList):AtD A B (i+1) (j+1) O:=by
 obtain⟨h1,h2⟩:=h;refine⟨?_,by omega⟩;rw [← h1,drop_at ha,drop_at hb,dif_same _ _ hk hv]
theorem AtD.other {A B:List Itm}{i j:Nat}{O:List Ch}{a b:Itm}(h:AtD A B i j O) (ha:A[i]?=some a) (hb:B[j]?=some b) (hk:key a=key b) (hv:a.v.data.toList≠b.v.data.toList):AtD A B (i+1) (j+1) (O++[there b]):=by
 obtain⟨h1,h2⟩:=h;refine⟨?_,by simp;omega⟩;rw [← h1,drop_at ha,drop_at hb,dif_other _ _ hk hv,List.append_assoc];rfl
theorem AtD.done {A B:List Itm}{i j:Nat}{O:List Ch}(h:AtD A B i j O) (hi:A.length≤i) (hj:B.length≤j):O=dif A B:=by
 have h1:=h.1;rw [List.drop_eq_nil_of_le hi,List.drop_eq_nil_of_le hj,dif_nil [],List.append_nil] at h1;exact h1
theorem O_tri {a b:List UInt8}(h:lt a b=false) (h':lt b a=false):a=b:=O.tri _ _ h h'
theorem bl_of {a b:ByteArray}{q:Bool}(h:lt a.data.toList b.data.toList=q):Op.bytesLess a.toList b.toList=q:=by
 rw [ByteArray.toList_eq,ByteArray.toList_eq];exact h
theorem apart_any (X Y:List Itm) (A A':Option Addr) (n c m c' B B':Nat) (hn:n=X.length) (hm:m=Y.length) (hlen:n≤1099511627776) (hlen':m≤1099511627776) (w:World) (hB:B≤w.heap.size) (hB':B'≤w.heap.size) (hX:Ls enc 2 w B A X) (hY:Ls enc 2 w B' A' Y) :
  Calls Tryz.prog 72 #[.slice A n c,.slice A' m c'] w fun e w'=>∃ v,e=.returned v∧MkC w w' v (dif X Y):=by
 have HN:=hid hn;have HN':=hid hm;have HX:=hid hX;have HY:=hid hY;clear hn hm hX hY
 go_enter Tryz.func72,Tryz.ntmps72
 go_wp2_with fail
 go_step3
 go_wp2_with fail
 go_step3
 go_wp2_with fail
 go_loopw [5,6,7] (fun ov iv jv wr=>∃ (i j:Nat) (O:List Ch),i≤n∧j≤m∧iv=.int .i64 i∧jv=.int .i64 j∧Hid (AtD X Y i j O)∧Hid (MkC w wr ov O)) (fun _ iv jv _=>(n+m)-((intOf iv).toNat+(intOf jv).toNat))
 case atStart=>exact⟨0,0,[],Nat.zero_le _,Nat.zero_le _,by go_num,by go_num,⟨rfl,Nat.le_refl _⟩,Mk.nil (Below.refl _ _)⟩
 case round =>
  obtain⟨i,j,O,hi,hj,rfl,rfl,hat,hmk⟩:=hrel;have hol:O.length≤i+j:=(Hid.out hat).2;have HM:=hmk;by_cases hin:i<n
  ·have q1:((i:Int)==(n:Int))=false:=by rw [beq_eq_false_iff_ne];omega
   have q2:decide ((i:Int)<(n:Int))=true:=by rw [decide_eq_true_iff];omega
   obtain⟨a,ha⟩:∃ a,X[i]?=some a:=⟨_,List.getElem?_eq_getElem (by rw [← HN.out];exact hin)⟩;obtain⟨b,o,hAe,hb,hr⟩:=(HX.out.below ((Hid.out hmk).2.mono hB)) i a ha;have ha0:wr.cell? ⟨b,o+i*2,none⟩=some (.string a.k):=hr 0 _ rfl;have ha1:wr.cell? ⟨b,o+i*2+1,none⟩=some (.string a.v):=hr 1 _ rfl;clear hr;subst hAe;by_cases hjm:j<m
   ·have q3:((j:Int)==(m:Int))=false:=by rw [beq_eq_false_iff_ne];omega
    obtain⟨b2,hb2⟩:∃ b2,Y[j]?=some b2:=⟨_,List.getElem?_eq_getElem (by rw [← HN'.out];exact hjm)⟩;obtain⟨b',o',hAe,hb',hr⟩:=(HY.out.below ((Hid.out hmk).2.mono hB')) j b2 hb2;have hb0:wr.cell? ⟨b',o'+j*2,none⟩=some (.string b2.k):=hr 0 _ rfl;have hb1:wr.cell? ⟨b',o'+j*2+1,none⟩=some (.string b2.v):=hr 1 _ rfl;clear hr;subst hAe;by_cases h1:lt (key a) (key b2)=true
    ·have HAT:=hid ((Hid.out hat).ahead ha hb2 h1);have q4:=bl_of h1;clear h1 hat ha hb2 hmk
     go_wp2_with fail
     go_big_quiet (fail)
     have HM2:=hid (HM.out.drewN nq);clear HM;have ha0':(wr.drewN nq).cell? ⟨b,o+i*2,none⟩=some (.string a.k):=ha0;clear ha0;have ha0:=ha0';clear ha0';have ha1':(wr.drewN nq).cell? ⟨b,o+i*2+1,none⟩=some (.string a.v):=ha1;clear ha1;have ha1:=ha1';clear ha1';have hb0':(wr.drewN nq).cell? ⟨b',o'+j*2,none⟩=some (.string b2.k):=hb0;clear hb0;have hb0:=hb0';clear hb0';have hb1':(wr.drewN nq).cell? ⟨b',o'+j*2+1,none⟩=some (.string b2.v):=hb1;clear hb1;have hb1:=hb1';clear hb1';generalize World.drewN wr nq=W2 at *
     go_wp2_with (at_builtin;refine catC (HM2.out.alloc _) [gone a] _ 1 1 rfl (Ls.new _ (gone a) _ _ (Nat.lt_succ_self _)) (by omega) rfl _ _ rfl rfl rfl ?_;intro v3 w3 hM3 hG3;have HM3:=hid hM3;clear hM3 hG3)
     exact⟨⟨i+1,j,O++[gone a],by omega,by omega,by go_num,by go_num,HAT.out,HM3.out⟩,by simp [intOf]<;>omega⟩
    ·have h1:lt (key a) (key b2)=false:=by simpa using h1
     have q4:=bl_of h1;by_cases h2:lt (key b2) (key a)=true
     ·have HAT:=hid ((Hid.out hat).behind ha hb2 h2);have q5:=bl_of h2;clear h1 h2 hat ha hb2 hmk
      go_wp2_with fail
      go_big_quiet (fail)
      have HM2:=hid (HM.out.drewN nq);clear HM;have ha0':(wr.drewN nq).cell? ⟨b,o+i*2,none⟩=some (.string a.k):=ha0;clear ha0;have ha0:=ha0';clear ha0';have ha1':(wr.drewN nq).cell? ⟨b,o+i*2+1,none⟩=some (.string a.v):=ha1;clear ha1;have ha1:=ha1';clear ha1';have hb0':(wr.drewN nq).cell? ⟨b',o'+j*2,none⟩=some (.string b2.k):=hb0;clear hb0;have hb0:=hb0';clear hb0';have hb1':(wr.drewN nq).cell? ⟨b',o'+j*2+1,none⟩=some (.string b2.v):=hb1;clear hb1;have hb1:=hb1';clear hb1';generalize World.drewN wr nq=W2 at *
      go_wp2_with fail
      go_big_quiet (fail)
      have HM4:=hid (HM2.out.drewN nq);clear HM2;have ha0':(W2.drewN nq).cell? ⟨b,o+i*2,none⟩=some (.string a.k):=ha0;clear ha0;have ha0:=ha0';clear ha0';have ha1':(W2.drewN nq).cell? ⟨b,o+i*2+1,none⟩=some (.string a.v):=ha1;clear ha1;have ha1:=ha1';clear ha1';have hb0':(W2.drewN nq).cell? ⟨b',o'+j*2,none⟩=some (.string b2.k):=hb0;clear hb0;have hb0:=hb0';clear hb0';have hb1':(W2.drewN nq).cell? ⟨b',o'+j*2+1,none⟩=some (.string b2.v):=hb1;clear hb1;have hb1:=hb1';clear hb1';generalize World.drewN W2 nq=W3 at *
      go_wp2_with (first | (go_at_call 114;refine (there_any b2 _).mono ?_;rintro e wt ⟨rfl,hbt⟩;have HMT:=hid (HM4.out.go hbt);clear hbt) | (at_builtin;refine catC (HMT.out.alloc _) [there b2] _ 1 1 rfl (Ls.new _ (there b2) _ _ (Nat.lt_succ_self _)) (by omega) rfl _ _ rfl rfl rfl ?_;intro v3 w3 hM3 hG3;have HM3:=hid hM3;clear hM3 hG3))
      exact⟨⟨i,j+1,O++[there b2],by omega,by omega,by go_num,by go_num,HAT.out,HM3.out⟩,by simp [intOf]<;>omega⟩
     ·have h2:lt (key b2) (key a)=false:=by simpa using h2
      have q5:=bl_of h2;have hk:key a=key b2:=O_tri h1 h2;have q6:(a.k.toList==b2.k.toList)=true:=by rw [str_eq];exact decide_eq_true hk
      by_cases hv:a.v.data.toList=b2.v.data.toList
      ·have q7:(a.v.toList==b2.v.toList)=true:=by rw [str_eq];exact decide_eq_true hv
       have HAT:=hid ((Hid.out hat).same ha hb2 hk hv);clear h1 h2 hk hv hat ha hb2 hmk
       go_wp2_with fail
       go_big_quiet (fail)
       have HM2:=hid (HM.out.drewN nq);clear HM;have ha0':(wr.drewN nq).cell? ⟨b,o+i*2,none⟩=some (.string a.k):=ha0;clear ha0;have ha0:=ha0';clear ha0';have ha1':(wr.drewN nq).cell? ⟨b,o+i*2+1,none⟩=some (.string a.v):=ha1;clear ha1;have ha1:=ha1';clear ha1';have hb0':(wr.drewN nq).cell? ⟨b',o'+j*2,none⟩=some (.string b2.k):=hb0;clear hb0;have hb0:=hb0';clear hb0';have hb1':(wr.drewN nq).cell? ⟨b',o'+j*2+1,none⟩=some (.string b2.v):=hb1;clear hb1;have hb1:=hb1';clear hb1';generalize World.drewN wr nq=W2 at *
       go_wp2_with fail
       go_big_quiet (fail)
       have HM4:=hid (HM2.out.drewN nq);clear HM2;have ha0':(W2.drewN nq).cell? ⟨b,o+i*2,none⟩=some (.string a.k):=ha0;clear ha0;have ha0:=ha0';clear ha0';have ha1':(W2.drewN nq).cell? ⟨b,o+i*2+1,none⟩=some (.string a.v):=ha1;clear ha1;have ha1:=ha1';clear ha1';have hb0':(W2.drewN nq).cell? ⟨b',o'+j*2,none⟩=some (.string b2.k):=hb0;clear hb0;have hb0:=hb0';clear hb0';have hb1':(W2.drewN nq).cell? ⟨b',o'+j*2+1,none⟩=some (.string b2.v):=hb1;clear hb1;have hb1:=hb1';clear hb1';generalize World.drewN W2 nq=W3 at *
       go_wp2_with fail
       go_big_quiet (fail)
       have HM3:=hid (HM4.out.drewN nq);clear HM4;have ha0':(W3.drewN nq).cell? ⟨b,o+i*2,none⟩=some (.string a.k):=ha0;clear ha0;have ha0:=ha0';clear ha0';have ha1':(W3.drewN nq).cell? ⟨b,o+i*2+1,none⟩=some (.string a.v):=ha1;clear ha1;have ha1:=ha1';clear ha1';have hb0':(W3.drewN nq).cell? ⟨b',o'+j*2,none⟩=some (.string b2.k):=hb0;clear hb0;have hb0:=hb0';clear hb0';have hb1':(W3.drewN nq).cell? ⟨b',o'+j*2+1,none⟩=some (.string b2.v):=hb1;clear hb1;have hb1:=hb1';clear hb1';generalize World.drewN W3 nq=W4 at *
       go_wp2_with fail
       exact⟨⟨i+1,j+1,O,by omega,by omega,by go_num,by go_num,HAT.out,HM3.out⟩,by simp [intOf]<;>omega⟩
      ·have q7:(a.v.toList==b2.v.toList)=false:=by rw [str_eq];exact decide_eq_false hv
       have HAT:=hid ((Hid.out hat).other ha hb2 hk hv);clear h1 h2 hk hv hat ha hb2 hmk
       go_wp2_with fail
       go_big_quiet (fail)
       have HM2:=hid (HM.out.drewN nq);clear HM;have ha0':(wr.drewN nq).cell? ⟨b,o+i*2,none⟩=some (.string a.k):=ha0;clear ha0;have ha0:=ha0';clear ha0';have ha1':(wr.drewN nq).cell? ⟨b,o+i*2+1,none⟩=some (.string a.v):=ha1;clear ha1;have ha1:=ha1';clear ha1';have hb0':(wr.drewN nq).cell? ⟨b',o'+j*2,none⟩=some (.string b2.k):=hb0;clear hb0;have hb0:=hb0';clear hb0';have hb1':(wr.drewN nq).cell? ⟨b',o'+j*2+1,none⟩=some (.string b2.v):=hb1;clear hb1;have hb1:=hb1';clear hb1';generalize World.drewN wr nq=W2 at *
       go_wp2_with fail
       go_big_quiet (fail)
       have HM4:=hid (HM2.out.drewN nq);clear HM2;have ha0':(W2.drewN nq).cell? ⟨b,o+i*2,none⟩=some (.string a.k):=ha0;clear ha0;have ha0:=ha0';clear ha0';have ha1':(W2.drewN nq).cell? ⟨b,o+i*2+1,none⟩=some (.string a.v):=ha1;clear ha1;have ha1:=ha1';clear ha1';have hb0':(W2.drewN nq).cell? ⟨b',o'+j*2,none⟩=some (.string b2.k):=hb0;clear hb0;have hb0:=hb0';clear hb0';have hb1':(W2.drewN nq).cell? ⟨b',o'+j*2+1,none⟩=some (.string b2.v):=hb1;clear hb1;have hb1:=hb1';clear hb1';generalize World.drewN W2 nq=W3 at *
       go_wp2_with fail
       go_big_quiet (fail)
       have HM5:=hid (HM4.out.drewN nq);clear HM4;have ha0':(W3.drewN nq).cell? ⟨b,o+i*2,none⟩=some (.string a.k):=ha0;clear ha0;have ha0:=ha0';clear ha0';have ha1':(W3.drewN nq).cell? ⟨b,o+i*2+1,none⟩=some (.string a.v):=ha1;clear ha1;have ha1:=ha1';clear ha1';have hb0':(W3.drewN nq).cell? ⟨b',o'+j*2,none⟩=some (.string b2.k):=hb0;clear hb0;have hb0:=hb0';clear hb0';have hb1':(W3.drewN nq).cell? ⟨b',o'+j*2+1,none⟩=some (.string b2.v):=hb1;clear hb1;have hb1:=hb1';clear hb1';generalize World.drewN W3 nq=W4 at *
       go_wp2_with (first | (go_at_call 114;refine (there_any b2 _).mono ?_;rintro e wt ⟨rfl,hbt⟩;have HMT:=hid (HM5.out.go hbt);clear hbt) | (at_builtin;refine catC (HMT.out.alloc _) [there b2] _ 1 1 rfl (Ls.new _ (there b2) _ _ (Nat.lt_succ_self _)) (by omega) rfl _ _ rfl rfl rfl ?_;intro v3 w3 hM3 hG3;have HM3:=hid hM3;clear hM3 hG3))
       exact⟨⟨i+1,j+1,O++[there b2],by omega,by omega,by go_num,by go_num,HAT.out,HM3.out⟩,by simp [intOf]<;>omega⟩
   ·have q3:((j:Int)==(m:Int))=true:=by rw [beq_iff_eq];omega
    have HAT:=hid ((Hid.out hat).left ha (by rw [← HN'.out];omega));clear hat ha hmk
    go_wp2_with fail
    go_big_quiet (fail)
    have HM2:=hid (HM.out.drewN nq);clear HM;have ha0':(wr.drewN nq).cell? ⟨b,o+i*2,none⟩=some (.string a.k):=ha0;clear ha0;have ha0:=ha0';clear ha0';have ha1':(wr.drewN nq).cell? ⟨b,o+i*2+1,none⟩=some (.string a.v):=ha1;clear ha1;have ha1:=ha1';clear ha1';generalize World.drewN wr nq=W2 at *
    go_wp2_with (at_builtin;refine catC (HM2.out.alloc _) [gone a] _ 1 1 rfl (Ls.new _ (gone a) _ _ (Nat.lt_succ_self _)) (by omega) rfl _ _ rfl rfl rfl ?_;intro v3 w3 hM3 hG3;have HM3:=hid hM3;clear hM3 hG3)
    exact⟨⟨i+1,j,O++[gone a],by omega,by omega,by go_num,by go_num,HAT.out,HM3.out⟩,by simp [intOf]<;>omega⟩
  ·have q1:((i:Int)==(n:Int))=true:=by rw [beq_iff_eq];omega
   have q2:decide ((i:Int)<(n:Int))=false:=by rw [decide_eq_false_iff_not];omega
   by_cases hjm:j<m
   ·have q3:((j:Int)==(m:Int))=false:=by rw [beq_eq_false_iff_ne];omega
    obtain⟨b2,hb2⟩:∃ b2,Y[j]?=some b2:=⟨_,List.getElem?_eq_getElem (by rw [← HN'.out];exact hjm)⟩;obtain⟨b',o',hAe,hb',hr⟩:=(HY.out.below ((Hid.out hmk).2.mono hB')) j b2 hb2;have hb0:wr.cell? ⟨b',o'+j*2,none⟩=some (.string b2.k):=hr 0 _ rfl;have hb1:wr.cell? ⟨b',o'+j*2+1,none⟩=some (.string b2.v):=hr 1 _ rfl;clear hr;subst hAe;have HAT:=hid ((Hid.out hat).right (by rw [← HN.out];omega) hb2);clear hat hb2 hmk
    go_wp2_with fail
    go_big_quiet (fail)
    have HM2:=hid (HM.out.drewN nq);clear HM;have hb0':(wr.drewN nq).cell? ⟨b',o'+j*2,none⟩=some (.string b2.k):=hb0;clear hb0;have hb0:=hb0';clear hb0';have hb1':(wr.drewN nq).cell? ⟨b',o'+j*2+1,none⟩=some (.string b2.v):=hb1;clear hb1;have hb1:=hb1';clear hb1';generalize World.drewN wr nq=W2 at *
    go_wp2_with fail
    go_big_quiet (fail)
    have HM4:=hid (HM2.out.drewN nq);clear HM2;have hb0':(W2.drewN nq).cell? ⟨b',o'+j*2,none⟩=some (.string b2.k):=hb0;clear hb0;have hb0:=hb0';clear hb0';have hb1':(W2.drewN nq).cell? ⟨b',o'+j*2+1,none⟩=some (.string b2.v):=hb1;clear hb1;have hb1:=hb1';clear hb1';generalize World.drewN W2 nq=W3 at *
    go_wp2_with (first | (go_at_call 114;refine (there_any b2 _).mono ?_;rintro e wt ⟨rfl,hbt⟩;have HMT:=hid (HM4.out.go hbt);clear hbt) | (at_builtin;refine catC (HMT.out.alloc _) [there b2] _ 1 1 rfl (Ls.new _ (there b2) _ _ (Nat.lt_succ_self _)) (by omega) rfl _ _ rfl rfl rfl ?_;intro v3 w3 hM3 hG3;have HM3:=hid hM3;clear hM3 hG3))
    exact⟨⟨i,j+1,O++[there b2],by omega,by omega,by go_num,by go_num,HAT.out,HM3.out⟩,by simp [intOf]<;>omega⟩
   ·have q3:((j:Int)==(m:Int))=true:=by rw [beq_iff_eq];omega
    have HO:=hid ((Hid.out hat).done (by rw [← HN.out];omega) (by rw [← HN'.out];omega));clear hat
    go_wp2
    rw [Exit.noGoto_ret]
    go_ret
    exact⟨_,rfl,by rw [← HO.out];exact HM.out⟩
theorem diff_any (X Y:List Itm) (A A':Option Addr) (n c m c' B B':Nat) (hn:n=X.length) (hm:m=Y.length) (hlen:n≤1099511627776) (hlen':m≤1099511627776) (w:World) (hB:B≤w.heap.size) (hB':B'≤w.heap.size) (hX:Ls enc 2 w B A X) (hY:Ls enc 2 w B' A' Y) :
  Calls Tryz.prog 36 #[.slice A n c,.slice A' m c'] w fun e w'=>∃ v,e=.returned (.tuple #[v,.int .i64 (er (rt X&&rt Y))])∧MkC w w' v (if rt X&&rt Y then dif X Y else []):=by
 have HX:=hid hX;have HY:=hid hY;have HN:=hid hn;have HN':=hid hm;have HC:=hid (rightList_any X A n c B hn (by omega) w hB hX);clear hn hm hX hY;cases hx:rt X
 ·rw [hx] at HC;clear hx
  go_enter Tryz.func36,Tryz.ntmps36
  go_wp2_with (go_at_call 37;refine HC.out.mono ?_;rintro e w1 ⟨rfl,hb1⟩;have HB1:=hid hb1;clear hb1)
  go_ret2
  exact⟨_,rfl,Mk.nil HB1.out⟩
 ·rw [hx] at HC;clear hx;cases hy:rt Y
  ·go_enter Tryz.func36,Tryz.ntmps36
   go_wp2_with fail
   go_at_call 37
   refine HC.out.mono ?_;rintro e w1 ⟨rfl,hb1⟩;have HB1:=hid hb1;clear hb1 HC
   go_wp2_with fail
   go_at_call 37
   refine (rightList_any Y A' m c' B' HN'.out (by omega) w1 (Nat.le_trans hB' HB1.out.size) (HY.out.below (HB1.out.mono hB'))).mono ?_;rintro e w2 ⟨rfl,hb2⟩;have HB2:=hid (HB1.out.trans (hb2.mono HB1.out.size));clear hb2 HB1;rw [hy];clear hy
   go_wp2
   go_ret2
   exact⟨_,rfl,Mk.nil HB2.out⟩
  ·go_enter Tryz.func36,Tryz.ntmps36
   go_wp2_with fail
   go_at_call 37
   refine HC.out.mono ?_;rintro e w1 ⟨rfl,hb1⟩;have HB1:=hid hb1;clear hb1 HC
   go_wp2_with fail
   go_at_call 37
   refine (rightList_any Y A' m c' B' HN'.out (by omega) w1 (Nat.le_trans hB' HB1.out.size) (HY.out.below (HB1.out.mono hB'))).mono ?_;rintro e w2 ⟨rfl,hb2⟩;have HB2:=hid (HB1.out.trans (hb2.mono HB1.out.size));clear hb2 HB1;rw [hy];clear hy
   go_wp2_with fail
   go_at_call 72
   refine (apart_any X Y A A' n c m c' B B' HN.out HN'.out hlen hlen' w2 (Nat.le_trans hB HB2.out.size) (Nat.le_trans hB' HB2.out.size) (HX.out.below (HB2.out.mono hB)) (HY.out.below (HB2.out.mono hB'))).mono ?_;rintro e w3 ⟨v,rfl,hM⟩;have HM:=hid (hM.since HB2.out);clear hM
   go_wp2
   go_ret2
   exact⟨_,rfl,HM.out⟩
theorem apply_any (D:List Itm) (C:List Ch) (A A':Option Addr) (n c m c' B B':Nat) (hn:n=D.length) (hc:n≤c) (hcm:c≤maxLen) (hm:m=C.length) (hlen:n≤1099511627776) (hlen':m≤1099511627776) (w:World) (hB:B≤w.heap.size) (hB':B'≤w.heap.size) (hX:Ls enc 2 w B A D) (hY:Ls Sc.enc 3 w B' A' C) :
  Calls Tryz.prog 25 #[.slice A n c,.slice A' m c'] w fun e w'=>∃ v,e=.returned (.tuple #[v,.int .i64 (er (rt D&&rc C))])∧MkI w w' v (if rt D&&rc C then app D C else []):=by
 have HX:=hid hX;have HY:=hid hY;have HN:=hid hn;have HN':=hid hm;have HC:=hid (rightList_any D A n c B hn (by omega) w hB hX);clear hn hm hX hY;cases hx:rt D
 ·rw [hx] at HC;clear hx
  go_enter Tryz.func25,Tryz.ntmps25
  go_wp2_with (go_at_call 37;refine HC.out.mono ?_;rintro e w1 ⟨rfl,hb1⟩;have HB1:=hid hb1;clear hb1)
  go_ret2
  exact⟨_,rfl,Mk.nil HB1.out⟩
 ·have HR:=hid hx;rw [hx] at HC;clear hx;cases hy:rc C
  ·go_enter Tryz.func25,Tryz.ntmps25
   go_wp2_with fail
   go_at_call 37
   refine HC.out.mono ?_;rintro e w1 ⟨rfl,hb1⟩;have HB1:=hid hb1;clear hb1 HC
   go_wp2_with fail
   go_at_call 38
   refine (rightChanges_any C A' m c' B' HN'.out (by omega) w1 (Nat.le_trans hB' HB1.out.size) (HY.out.below (HB1.out.mono hB'))).mono ?_;rintro e w2 ⟨rfl,hb2⟩;have HB2:=hid (HB1.out.trans (hb2.mono HB1.out.size));clear hb2 HB1;rw [hy];clear hy
   go_wp2
   go_ret2
   exact⟨_,rfl,Mk.nil HB2.out⟩
  ·go_enter Tryz.func25,Tryz.ntmps25
   go_wp2_with fail
   go_at_call 37
   refine HC.out.mono ?_;rintro e w1 ⟨rfl,hb1⟩;have HB1:=hid hb1;clear hb1 HC
   go_wp2_with fail
   go_at_call 38
   refine (rightChanges_any C A' m c' B' HN'.out (by omega) w1 (Nat.le_trans hB' HB1.out.size) (HY.out.below (HB1.out.mono hB'))).mono ?_;rintro e w2 ⟨rfl,hb2⟩;have HB2:=hid (HB1.out.trans (hb2.mono HB1.out.size));clear hb2 HB1;rw [hy];clear hy
   go_wp2_with fail
   go_at_call 40
   refine (lastOfEach_any C A' m c' B' HN'.out hlen' w2 (Nat.le_trans hB' HB2.out.size) (HY.out.below (HB2.out.mono hB'))).mono ?_;rintro e w3 ⟨v,S,rfl,hs1,hs2,hs3,hM⟩;obtain⟨A2,c2,hv,hc2,hcm2,hL2⟩:=hM.ls Sc.enc_len;have HM:=hid (hM.since HB2.out);have HS:=hid (And.intro hs1 hs2);have HL2:=hid hL2;have hln:(lasts S).length≤1099511627776:=by have:=lasts_len S;omega
   clear hM hs1 hs2 hs3 hL2;obtain⟨m2,hm2⟩:∃ m2,m2=(lasts S).length:=⟨_,rfl⟩;rw [← hm2] at hv hln hc2;have HM2:=hid hm2;subst hv;clear hm2
   go_wp2_with fail
   go_at_call 39
   refine (changed_any D (lasts S) A A2 n c m2 c2 B _ HN.out hc hcm HM2.out hlen hln (rt_iff.1 HR.out).1 (lasts_spec S HS.out.1).1 w3 (Nat.le_trans hB HM.out.2.size) (Nat.le_refl _) (HX.out.below (HM.out.2.mono hB)) HL2.out).mono ?_;rintro e w4 ⟨v,rfl,hM⟩;have HM3:=hid (show MkI w w4 v (app D C) from (app_lasts (rt_iff.1 HR.out).1 HS.out.1 HS.out.2)▸hM.since HM.out.2);clear hM
   go_wp2
   go_ret2
   exact⟨_,rfl,HM3.out⟩
end Go.Proofs.YtopepebcnaikiaaGreatDoor.It
namespace Go.Proofs.YtopepebcnaikiaaGreatDoor.Da
open Lib (hid)
open Go.ChangeShapes Go.WideShapes Go.ChangeAt Go.RowKit
open Ar Rg
open Pk (u8s u8s_length)
open It (Itm Ch)
theorem setRow_heap' {w:World}{g:Nat}{cs old:Array Value}{t:TypeId}{f:Nat×Nat}(h:w.heap[g]?=some (.cells old t f)):(w.setRow g cs).heap[g]?=some (.cells cs t f):=setRow_heap w g old cs t f h
theorem row_lt {w:World}{b:Nat}{o:Obj}(h:w.heap[b]?=some o):b<w.heap.size:=by
 rcases Nat.lt_or_ge b w.heap.size with hl | hg
 ·exact hl
 ·rw [Array.getElem?_eq_none hg] at h;cases h
def enC (c:Ck):List Value:=[.int .u32 c.n,.string c.k,.bool c.h,.string c.v]
theorem enC_len (c:Ck):(enC c).length=4:=rfl
theorem enC_one (c:Ck):∀ u∈enC c,u.oneCell'=true:=by
 intro v hv;simp [enC] at hv;rcases hv with rfl | rfl | rfl | rfl<;>rfl
theorem infoC4 (c:Ck):(Tryz.prog.info? 237).map (·.size)=some (enC c).toArray.size:=by
 show _=some 4
 kernel_rfl
theorem infoH3 (c:Ch):(Tryz.prog.info? 138).map (·.size)=some (Sc.enc c).toArray.size:=by
 show _=some 3
 kernel_rfl
theorem se1 {s:ByteArray}(h:s.size≠0):s.toList.isEmpty=false:=by rw [ByteArray.toList_eq,List.isEmpty_eq_false_iff];intro h2;exact h (show s.data.size=0 by rw [← Array.length_toList,h2];rfl)
theorem se2 {s:ByteArray}(h:s.size≠0):¬ s.toList=[]:=by intro h2;have:=se1 h;rw [h2] at this;cases this
theorem se3 {s:ByteArray}(h:s.size=0):s.toList=[]:=by rw [ByteArray.toList_eq];exact List.eq_nil_of_length_eq_zero (by rw [Array.length_toList];exact h)
theorem from_any (c:Ck) (h:c.n<4294967296) (w:World) :
  Calls Tryz.prog 167 #[.agg (enC c).toArray] w fun e w'=>e=.returned (.int .i64 ((c.n*128:Nat):Int))∧Below w.heap.size w w':=by
 show Calls Tryz.prog 167 #[.agg #[.int .u32 c.n,.string c.k,.bool c.h,.string c.v]] w _
 have HG:=hid (show Below w.heap.size w (w.alloc (.cells #[.int .u32 c.n,.string c.k,.bool c.h,.string c.v] 237)) from (Below.refl _ w).alloc (Nat.le_refl _) _)
 go_enter Tryz.func167,Tryz.ntmps167
 go_wp2
 go_ret
 exact⟨by congr 2,HG.out⟩
def btsB (c:Ck):ByteArray:=c.v.extract 0 (min c.v.size 128)
theorem btsB_size (c:Ck):(btsB c).size=min c.v.size 128:=by unfold btsB;simp
theorem btsB_list (c:Ck):(btsB c).data.toList=c.v.data.toList.take 128:=by
 unfold btsB;rw [ByteArray.data_extract,Array.toList_extract,List.extract_eq_take_drop,List.drop_zero,Nat.sub_zero];have hl:c.v.data.toList.length=c.v.size:=by rw [Array.length_toList];rfl
 by_cases h:c.v.size≤128
 ·rw [Nat.min_eq_left h,List.take_of_length_le (by omega),List.take_of_length_le (by omega)]
 ·rw [Nat.min_eq_right (by omega)]
theorem bytes_any (c:Ck) (h:c.v.size≤maxLen) (w:World) :
  Calls Tryz.prog 166 #[.agg (enC c).toArray] w fun e w'=>e=.returned (.string (btsB c))∧Below w.heap.size w w':=by
 show Calls Tryz.prog 166 #[.agg #[.int .u32 c.n,.string c.k,.bool c.h,.string c.v]] w _
 unfold maxLen at h;have HG:=hid (show Below w.heap.size w (w.alloc (.cells #[.int .u32 c.n,.string c.k,.bool c.h,.string c.v] 237)) from (Below.refl _ w).alloc (Nat.le_refl _) _);unfold btsB;by_cases hs:c.v.size≤128
 ·rw [Nat.min_eq_left hs,show c.v.extract 0 c.v.size=c.v by simp];have hs1:min (c.v.size:Int) 128=(c.v.size:Int):=by omega
  go_enter Tryz.func166,Tryz.ntmps166
  go_wp2
  go_ret
  exact⟨rfl,HG.out⟩
 ·rw [Nat.min_eq_right (by omega)];have hs1:min (c.v.size:Int) 128=128:=by omega
  have hs2:(128:Int)≤(c.v.size:Int):=by omega
  go_enter Tryz.func166,Tryz.ntmps166
  go_wp2
  go_ret
  exact⟨rfl,HG.out⟩
def akC (c:Ck):Ch:=⟨c.k,c.h,c.v⟩
theorem asKept_any (c:Ck) (w:World) :
  Calls Tryz.prog 172 #[.agg (enC c).toArray] w fun e w'=>e=.returned (.agg (Sc.enc (akC c)).toArray)∧Below w.heap.size w w':=by
 show Calls Tryz.prog 172 #[.agg #[.int .u32 c.n,.string c.k,.bool c.h,.string c.v]] w fun e w'=>e=.returned (.agg #[.string c.k,.bool c.h,.string c.v])∧Below w.heap.size w w'
 go_enter Tryz.func172,Tryz.ntmps172
 go_wp2
 refine bodyPost_ret (v:=.agg #[.string c.k,.bool c.h,.string c.v]) (by simp [results,Tryz.results172,go_sem]) rfl ?_;exact⟨rfl,((Below.refl _ _).alloc (Nat.le_refl _) _).alloc (by simp) _⟩
def kpC (k b:ByteArray):Ch:=⟨k,decide (0<(Tm.cutB b).size),Tm.cutB b⟩
theorem keep_any (k b:ByteArray) (hb:b.size≤9223372036854775807) (w:World) :
  Calls Tryz.prog 170 #[.string k,.string b] w fun e w'=>e=.returned (.agg (Sc.enc (kpC k b)).toArray)∧Below w.heap.size w w':=by
 have HT:=hid (fun w=>Tm.trimRight_any b hb w);by_cases h0:(Tm.cutB b).size=0
 ·have hk:(Sc.enc (kpC k b)).toArray=#[.string k,.bool false,.string (Tm.cutB b)]:=by unfold kpC Sc.enc;rw [h0];rfl
  rw [hk];have s3:=se3 h0;clear hk h0 hb;generalize Tm.cutB b=t at *
  go_enter Tryz.func170,Tryz.ntmps170
  go_wp2_with fail
  refine (HT.out _).mono ?_;rintro e w1 ⟨rfl,rfl⟩
  go_wp2
  refine bodyPost_ret (v:=.agg #[.string k,.bool false,.string t]) (by simp [results,Tryz.results170,go_sem]) rfl ?_;exact⟨rfl,(Below.refl _ _).alloc (Nat.le_refl _) _⟩
 ·have hk:(Sc.enc (kpC k b)).toArray=#[.string k,.bool true,.string (Tm.cutB b)]:=by unfold kpC Sc.enc;rw [decide_eq_true (by omega)]
  rw [hk];have s1:=se1 h0;have s2:=se2 h0;clear hk h0 hb;generalize Tm.cutB b=t at *
  go_enter Tryz.func170,Tryz.ntmps170
  go_wp2_with fail
  refine (HT.out _).mono ?_;rintro e w1 ⟨rfl,rfl⟩
  go_wp2
  refine bodyPost_ret (v:=.agg #[.string k,.bool true,.string t]) (by simp [results,Tryz.results170,go_sem]) rfl ?_;exact⟨rfl,(Below.refl _ _).alloc (Nat.le_refl _) _⟩
def cpy (L:List UInt8) (o n:Nat) (S:List UInt8):List UInt8:=L.take o++S.take n++L.drop (o+min S.length n)
theorem cpy_len {L S:List UInt8}{o n:Nat}(h:o+n≤L.length):(cpy L o n S).length=L.length:=by
 unfold cpy;simp only [List.length_append,List.length_take,List.length_drop];omega
theorem run_copy_u8 {P:Program}(w:World) (dT sT ty elem:TypeId) (g o dLen dCap:Nat) (s:ByteArray) (L:List UInt8) (t:TypeId)
  (hu:P.underlying dT=some (.slice elem)) (hs:(P.info? elem).map (·.size)=some 1) (hg:w.heap[g]?=some (.cells (u8s L).toArray t (0,0))) (hfit:o+dLen≤L.length) :
  (Builtin.copy_ #[dT,sT] ty #[.slice (some ⟨g,o,none⟩) dLen dCap,.string s]).run P w =
   .ok (goInt (min s.size dLen)) (w.setRow g (u8s (cpy L o dLen s.data.toList)).toArray):=by
 have hsl:s.data.toList.length=s.size:=by rw [Array.length_toList];rfl
 obtain⟨k,hk⟩:∃ k,min s.size dLen=k:=⟨_,rfl⟩;have htk0:s.data.toList.take dLen=s.data.toList.take k:=by
  rw [← hk];by_cases h:dLen≤s.size
  ·rw [Nat.min_eq_right h]
  ·rw [Nat.min_eq_left (by omega),List.take_of_length_le (by omega),List.take_of_length_le (by omega)]
 have hlen:(Lib.byteCells (s.data.toList.take k)).length=k:=by rw [Lib.byteCells_length,List.length_take,hsl];omega
 have hst:=run_storeCells_at P g o t (Lib.byteCells (s.data.toList.take k)) 0 (u8s L).toArray w hg (by rw [hlen,List.size_toArray,u8s_length];omega) (Lib.byteCells_one _);have hmin:Nat.min s.size dLen=k:=hk;have htk:List.take k (List.map (fun b:UInt8=>Value.int IntKind.u8 (b.toNat:Int)) s.data.toList)=Lib.byteCells (s.data.toList.take k):=by
  unfold Lib.byteCells;rw [List.map_take]
 rw [hlen] at hst;simp only [Nat.add_zero] at hst;have hnew:((u8s L).toArray.toList.take o++Lib.byteCells (s.data.toList.take k)++(u8s L).toArray.toList.drop (o+k)).toArray=(u8s (cpy L o dLen s.data.toList)).toArray:=by
  unfold cpy u8s Lib.byteCells;rw [List.toList_toArray,hsl,hk,htk0];simp only [List.map_append,List.map_take,List.map_drop]
 rw [hnew] at hst;cases hq:P.info? elem with
 | none=>simp [hq] at hs
 | some i =>
  simp [Builtin.copy_,run_underlying hu,Builtin.lenOf,Builtin.firstCells,sizeOf,typeInfo,hq,hmin,hk];rw [htk,hst];simp only [Result.andThen]
  congr 1
  congr 1
  omega
theorem wpList_copy_u8 {P:Program}{ops:Array Oper}{rest:List Oper}{o:Oper}{a:Act}{w:World}{Q:Exit→Act→World→Prop}
  (hgd:o.guard=none) (d x:Operand) (dT sT:TypeId) (hop:o.op=Op.call { callee:=Callee.builtin Builtin.copy,args:=#[d,x],argTypes:=#[dT,sT] })
  (elem:TypeId) (hu:P.underlying dT=some (.slice elem)) (hs:(P.info? elem).map (·.size)=some 1) (g off dLen dCap:Nat) (hd:a.eval d=.slice (some ⟨g,off,none⟩) dLen dCap) (s:ByteArray) (hx:a.eval x=.string s)
  (L:List UInt8) (t:TypeId) (hg:w.heap[g]?=some (.cells (u8s L).toArray t (0,0))) (hfit:off+dLen≤L.length)
  (hK:∀ v,wpList P ops Q rest (a.put o.dst v) (w.setRow g (u8s (cpy L off dLen s.data.toList)).toArray)) :
  wpList P ops Q (o::rest) a w:=by
 refine wpList_plain hgd fun K hK'=>?_
 have hrun:=run_copy_u8 (P:=P) w dT sT o.type elem g off dLen dCap s L t hu hs hg hfit;unfold Oper.wp;simp [execOp,hop,resolve,invoke,builtin,hd,hx,hrun,Result.andThen];exact hK' _ _ (by simpa using hK _)
theorem infB1:(Tryz.prog.info? 5).map (fun i=>(i.zero,i.size,i.bytes))=some (some (.int .u8 0),1,1):=by kernel_rfl
theorem info8:(Tryz.prog.info? 5).map (·.size)=some 1:=by kernel_rfl
theorem made_u8 (n:Nat):madeCells #[Value.int .u8 0] n=(u8s (List.replicate n 0)).toArray:=by
 apply Array.toList_inj.1;rw [toList_madeCells_one];simp [u8s]
theorem zeros_make (n:Nat) (hn:n≤1048576) (w:World):(Instr.makeSlice 116 (.int .i64 n) (.int .i64 n)).run Tryz.prog w=.ok (.slice (some ⟨w.heap.size,0,none⟩) n n) (w.alloc (.cells (u8s (List.replicate n 0)).toArray 5)):=by
 rw [← made_u8];exact run_make_row' (P:=Tryz.prog) 116 5 (.int .u8 0) 1 Tryz.underlying116 infB1 rfl .i64 .i64 n (by omega) (by omega) w
theorem conv_row (L:List UInt8) (n g:Nat) (hn:L.length=n) (w:World){t:TypeId}{fr:Nat×Nat}(hg:w.heap[g]?=some (.cells (u8s L).toArray t fr)):(convert 116 9 (.slice (some ⟨g,0,none⟩) n n)).run Tryz.prog w=.ok (.string ⟨L.toArray⟩) w:=by
 have:=run_convert_bytes_back (P:=Tryz.prog) w 116 9 5 ⟨g,0,none⟩ n L Tryz.underlying116 Tryz.underlying5 Tryz.underlying9 (fun j hj=>by
  rw [Ar.add_plain,Nat.zero_add,cell_of_row _ _ j _ _ _ hg];have:((u8s L).toArray)[j]?=some (.int .u8 ((L[j]).toNat:Int)):=by
   rw [List.getElem?_toArray];unfold u8s;rw [List.getElem?_map,List.getElem?_eq_getElem hj];rfl
  rw [this])
 rw [hn] at this;exact this
def laidL (t:List UInt8) (a:Nat) (b:List UInt8):List UInt8 :=
 cpy (cpy (List.replicate (max t.length (a+b.length)) 0) 0 (max t.length (a+b.length)) t) a (max t.length (a+b.length)-a) b
theorem grown_row {w0 w:World}{g:Nat}(h:Below w0.heap.size w0 w) (hg:w0.heap.size≤g) (cs:Array Value):Below w0.heap.size w0 (w.setRow g cs) :=
 below_setRow h hg cs
theorem laid_any (t:ByteArray) (a:Nat) (b:ByteArray) (ht:t.size≤128) (ha:a≤127) (hb:b.size≤128) (h1:1≤b.size) (w:World) :
  Calls Tryz.prog 171 #[.string t,.int .i64 a,.string b] w fun e w'=>e=.returned (.string ⟨(laidL t.data.toList a b.data.toList).toArray⟩)∧Below w.heap.size w w':=by
 have htl:t.data.toList.length=t.size:=by rw [Array.length_toList];rfl
 have hbl:b.data.toList.length=b.size:=by rw [Array.length_toList];rfl
 obtain⟨m,hm⟩:∃ m,max t.size (a+b.size)=m:=⟨_,rfl⟩;have hmi:max (t.size:Int) ((a:Int)+(b.size:Int))=(m:Int):=by omega
 have hL:laidL t.data.toList a b.data.toList=cpy (cpy (List.replicate m 0) 0 m t.data.toList) a (m-a) b.data.toList:=by unfold laidL;rw [htl,hbl,hm]
 rw [hL];have l1:(cpy (List.replicate m 0) 0 m t.data.toList).length=m:=by rw [cpy_len (by rw [List.length_replicate];omega),List.length_replicate]
 have l2:(cpy (cpy (List.replicate m 0) 0 m t.data.toList) a (m-a) b.data.toList).length=m:=by rw [cpy_len (by rw [l1];omega),l1]
 have hma:a<m:=by omega
 have hm2:m≤256:=by omega
 have hmk:=zeros_make m (by omega) w;have HR0:=hid (heap_alloc_new w (.cells (u8s (List.replicate m 0)).toArray 5));have HB0:=hid (show Below w.heap.size w (w.alloc (.cells (u8s (List.replicate m 0)).toArray 5)) from (Below.refl _ _).alloc (Nat.le_refl _) _);have HL1:=hid l1;have HL2:=hid l2;have HMI:=hid hmi;have e1:((m:Int)-(a:Int))=((m-a:Nat):Int):=by omega
 have e2:(a:Int)≤(m:Int):=by omega
 have e3:¬ (m=a):=by omega
 have e4:¬ ((m:Int)=(a:Int)):=by omega
 clear hL hm l1 l2 htl hbl;generalize w.alloc _=w1 at *;obtain⟨v1,hcp1⟩:∃ v,(Builtin.copy_ #[116,9] 3 #[.slice (some ⟨w.heap.size,0,none⟩) m m,.string t]).run Tryz.prog w1=.ok v (w1.setRow w.heap.size (u8s (cpy (List.replicate m 0) 0 m t.data.toList)).toArray):=⟨_,run_copy_u8 w1 _ _ _ 5 w.heap.size 0 m m t (List.replicate m 0) 5 Tryz.underlying116 info8 HR0.out (by rw [List.length_replicate];omega)⟩;have HR2:=hid (setRow_heap' (cs:=(u8s (cpy (List.replicate m 0) 0 m t.data.toList)).toArray) HR0.out);have HB2:=hid (grown_row HB0.out (Nat.le_refl _) (u8s (cpy (List.replicate m 0) 0 m t.data.toList)).toArray);generalize w1.setRow _ _=w2 at *;obtain⟨v2,hcp2⟩:∃ v,(Builtin.copy_ #[116,9] 3 #[.slice (some ⟨w.heap.size,a,none⟩) (m-a) (m-a),.string b]).run Tryz.prog w2=.ok v (w2.setRow w.heap.size (u8s (cpy (cpy (List.replicate m 0) 0 m t.data.toList) a (m-a) b.data.toList)).toArray):=⟨_,run_copy_u8 w2 _ _ _ 5 w.heap.size a (m-a) (m-a) b _ 5 Tryz.underlying116 info8 HR2.out (by rw [HL1.out];omega)⟩;have HR3:=hid (setRow_heap' (cs:=(u8s (cpy (cpy (List.replicate m 0) 0 m t.data.toList) a (m-a) b.data.toList)).toArray) HR2.out);have HB3:=hid (grown_row HB2.out (Nat.le_refl _) (u8s (cpy (cpy (List.replicate m 0) 0 m t.data.toList) a (m-a) b.data.toList)).toArray);generalize w2.setRow _ _=w3 at *;have hcv:=conv_row _ m w.heap.size HL2.out w3 HR3.out;generalize cpy (cpy (List.replicate m 0) 0 m t.data.toList) a (m-a) b.data.toList=L2 at *;clear HR0 HR2 HR3 HL1 HL2 HB0 HB2
 go_enter Tryz.func171,Tryz.ntmps171
 go_wp2
 go_ret
 exact⟨rfl,HB3.out⟩
end Go.Proofs.YtopepebcnaikiaaGreatDoor.Da
namespace Go.Proofs.YtopepebcnaikiaaGreatDoor.Da
open Lib (hid)
open Pk (be bytesLess_be)
open It (Itm Ch rt und key pre UpK rt_iff okI okKey lt)
open Ino (wrK wrK_pfx pfx deK deKE)
def UpC (D:List Ck):Prop:=D.Pairwise fun a b=>a.n<b.n
theorem bl_app (p x y:List UInt8):Op.bytesLess (p++x) (p++y)=Op.bytesLess x y:=by
 induction p with
 | nil=>rfl
 | cons a p ih =>
  show (decide (a<a)||(a==a&&Op.bytesLess (p++x) (p++y)))=_
  rw [ih,beq_self_eq_true];simp [UInt8.lt_irrefl]
theorem cky_lt {I j k:Nat}(hI:1≤I) (hj:j<512) (hk:k<512):lt (cky I j).data.toList (cky I k).data.toList=decide (j<k):=by
 have e:∀ {k},k<512→(cky I k).data.toList=(pfx 3 I).data.toList++be 4 k:=by
  intro k hk;obtain⟨h,_⟩:=wrK_pfx (kyC_ok hI hk);unfold cky;rw [h,ByteArray.data_append,Array.toList_append];rfl
 show Op.bytesLess _ _=_
 rw [e hj,e hk,bl_app,bytesLess_be,Nat.mod_eq_of_lt (show j<256 ^ 4 by omega),Nat.mod_eq_of_lt (show k<256 ^ 4 by omega)]
theorem chs_up {D:List Itm}{I:Nat}(hr:rt D=true) (hI:1≤I) (hI2:I<4294967296):UpC (chs D I):=by
 unfold chs UpC;rw [List.pairwise_filterMap];have hu:UpK key (und D (pfx 3 I)):=(rt_iff.1 hr).1.sub List.filter_sublist;refine List.Pairwise.imp_of_mem (fun {a b} ha hb hlt=>?_) hu;intro c hc d hd;have ga:=(List.mem_filter.1 ha).2;have gb:=(List.mem_filter.1 hb).2;unfold ckOf at hc hd;split at hc
 ·rename_i ka;split at hd
  ·rename_i kb;obtain⟨j,j1,j2,j3⟩:=ck_key hI hI2 ga ka;obtain⟨k,k1,k2,k3⟩:=ck_key hI hI2 gb kb;rw [← Option.some.inj hc,← Option.some.inj hd];show (deK a.k).C<(deK b.k).C
   rw [j3,k3];have:lt (cky I j).data.toList (cky I k).data.toList=true:=by rw [← j2,← k2];exact hlt
   rw [cky_lt hI j1 k1] at this;exact of_decide_eq_true this
  ·cases hd
 ·cases hc
theorem chs_sz {D:List Itm}{I:Nat}(hr:rt D=true) (hI:1≤I) (hI2:I<4294967296):∀ c∈chs D I,c.n<512∧c.v.size≤160:=by
 intro c hc;obtain⟨k,v,hk,hm,rfl⟩:=(mem_chs hI hI2 c).1 hc;have:=(rt_iff.1 hr).2 _ hm;simp only [okI,okKey,Bool.and_eq_true,decide_eq_true_iff] at this;exact⟨hk,this.2⟩
theorem up_len:∀ {E:List Ck}{k:Nat},UpC E→(∀ c∈E,k≤c.n∧c.n<512)→k+E.length≤512∨E=[]
 | [],k,_,_=>.inr rfl
 | c::E,k,hu,hz=>by
  left;obtain⟨h1,h2⟩:=List.pairwise_cons.1 hu;have hc:=hz c List.mem_cons_self;rcases up_len (k:=c.n+1) h2 (fun d hd=>⟨h1 d hd,(hz d (List.mem_cons_of_mem _ hd)).2⟩) with h | h
  ·rw [List.length_cons];omega
  ·subst h;rw [List.length_singleton];omega
theorem up_len' {E:List Ck}(hu:UpC E) (hz:∀ c∈E,c.n<512):E.length≤512:=by
 rcases up_len (k:=0) hu (fun c hc=>⟨Nat.zero_le _,hz c hc⟩) with h | h
 ·omega
 ·subst h;exact Nat.zero_le _
theorem chs_few {D:List Itm}{I:Nat}(hr:rt D=true) (hI:1≤I) (hI2:I<4294967296):(chs D I).length≤512:=up_len' (chs_up hr hI hI2) (fun c hc=>(chs_sz hr hI hI2 c hc).1)
theorem chs_part {D:List Itm}{I:Nat}(hr:rt D=true) (hI:1≤I) (hI2:I<4294967296) (i:Nat):(((und D (pfx 3 I)).take i).filterMap ckOf).length≤512 :=
 Nat.le_trans (((List.take_sublist i (und D (pfx 3 I))).filterMap ckOf).length_le) (chs_few hr hI hI2)
end Go.Proofs.YtopepebcnaikiaaGreatDoor.Da
namespace Go.Proofs.YtopepebcnaikiaaGreatDoor.Da
open Lib (hid)
open Go.ChangeShapes Go.WideShapes Go.ChangeAt Go.RowKit
open Ar Rg
open Pk (u8s u8s_length)
open It (Itm Ch MkI MkC rt und key infoI er okI_sizes)
open Ino (vK deK deKE pfx prefix_in parse_in)
theorem infoK:(Tryz.prog.info? 237).map (fun i=>(i.zero,i.size,i.bytes))=some (some (.agg #[.int .u32 0,.string ByteArray.empty,.bool false,.string ByteArray.empty]),4,48):=by kernel_rfl
abbrev MkK (w wr:World) (v:Value) (D:List Ck):Prop:=Mk enC 4 237 w wr v D
theorem catK {ops:Array Oper}{rest:List Oper}{o:Oper}{a:Act}{Q:Exit→Act→World→Prop}{w wr:World}{v:Value}{D:List Ck}(hM:MkK w wr v D) (E:List Ck) (A:Option Addr) (m c:Nat){B:Nat}(hm:m=E.length) (hL:Ls enC 4 wr B A E) (hlen:D.length+m≤2932031007402)
  (hgd:o.guard=none) (s x:Operand) (ho:o.op=.call { callee:=.builtin .append,args:=#[s,x],argTypes:=#[203,203] }) (hs:a.eval s=v) (hx:a.eval x=.slice A m c)
  (h:∀ v' w',MkK w w' v' (D++E)→wr.grownBy w' v.ownBlock→wpList Tryz.prog ops Q rest (a.put o.dst v') w'):wpList Tryz.prog ops Q (o::rest) a wr:=by
 obtain⟨i0,hi,hz0,hz1,hz2⟩:=info_parts infoK;exact wpList_cat 203 i0 _ 48 Tryz.underlying203 hi hz0 hz1 hz2 rfl (by decide) enC_len enC_one hM m c hm hL (by unfold maxLen;omega) (by omega) hgd s x ho hs hx h
def ec (D:List Itm) (I:Nat):Int:=if rt D then (if I=0 then 1 else 0) else 4
theorem fm_sn {U:List Itm}{i:Nat}{x:Itm}(h:U[i]?=some x):(U.take (i+1)).filterMap ckOf=(U.take i).filterMap ckOf++(match ckOf x with | some c=>[c] | none=>[]):=by
 rw [List.take_add_one,h,List.filterMap_append];cases hc:ckOf x<;>simp [hc]
theorem ls_new_at (w:World) (x:Ck) (e:TypeId) (k B:Nat) (hk:w.heap.size=k) (hB:k<B):Ls enC 4 (w.alloc (.cells (enC x).toArray e)) B (some ⟨k,0,none⟩) [x]:=by
 subst hk;exact Ls.new w x e B hB
theorem und_mem {D:List Itm}{p:ByteArray}{x:Itm}(h:x∈und D p):x∈D:=(List.mem_filter.1 h).1
theorem chunksOf_any (D:List Itm) (I:Nat) (hI:I<4294967296) (A:Option Addr) (n c B:Nat) (hn:n=D.length) (hc:n≤c) (hcm:c≤maxLen) (hlen:n≤4398046511104) (w:World) (hB:B≤w.heap.size) (hD:Ls It.enc 2 w B A D) :
  Calls Tryz.prog 134 #[.slice A n c,.int .u32 I] w fun e w'=>∃ v,e=.returned (.tuple #[v,.int .i64 (ec D I)])∧MkK w w' v (if ec D I=0 then chs D I else []):=by
 have HP:=hid (fun w=>prefix_in 3 I (by omega) hI w);have HU:=hid (fun (w1:World) (hb:Below w.heap.size w w1) (p:ByteArray) (hp:p.size≤9223372036854775807)=>It.under_any D p hp A n c B hn hc hcm (by omega) w1 (Nat.le_trans hB hb.size) (hD.below (hb.mono hB)));have hps:(pfx 3 I).size≤9223372036854775807:=by
  unfold pfx;split
  ·decide
  ·rw [ByteArray.size_append,Pk.bs_size,Pk.bs_size,Pk.be_length];have:(Ino.lt 3).length≤1:=by decide
   omega
 have HPS:=hid hps;have hun:(und D (pfx 3 I)).length≤4398046511104:=by
  have:(und D (pfx 3 I)).length≤D.length:=List.length_filter_le _ _;omega
 have HUN:=hid hun;have HSZ:=hid (fun (hr:rt D=true) (x:Itm) (hx:x∈und D (pfx 3 I))=>(by
  obtain⟨i,hi,e⟩:=List.getElem_of_mem (und_mem hx);exact okI_sizes hr (i:=i) (x:=x) (by rw [List.getElem?_eq_getElem hi,e]):x.k.size≤48∧x.v.size≤160))
 have HC:=hid (show chs D I=(und D (pfx 3 I)).filterMap ckOf from rfl);clear hps hun hn hc hcm hlen hD;cases hr:rt D
 ·have HE:=hid (show ec D I=4 by unfold ec;rw [hr];rfl);rw [HE.out];rw [hr,show er false=4 from rfl] at HU;clear hr
  go_enter Tryz.func134,Tryz.ntmps134
  go_wp2_with fail
  refine (HP.out _).mono ?_;rintro e w1 ⟨rfl,hb1⟩;have HB1:=hid hb1;clear hb1
  go_wp2_with fail
  refine (HU.out _ HB1.out _ HPS.out).mono ?_;rintro e w2 ⟨v,rfl,hm⟩;have HM:=hid (HB1.out.trans (hm.2.mono HB1.out.size));obtain⟨A1,c1,rfl,_⟩:=hm.ls It.enc_len;clear hm
  go_wp2
  go_ret2
  exact⟨_,rfl,Mk.nil HM.out⟩
 ·rw [hr,show er true=0 from rfl] at HU;have HR:=hid hr;by_cases h0:I=0
  ·have HE:=hid (show ec D I=1 by unfold ec;rw [hr,h0];rfl);rw [HE.out];have q0:((I:Int)==0)=true:=by rw [h0];rfl
   clear hr h0
   go_enter Tryz.func134,Tryz.ntmps134
   go_wp2_with fail
   refine (HP.out _).mono ?_;rintro e w1 ⟨rfl,hb1⟩;have HB1:=hid hb1;clear hb1
   go_wp2_with fail
   refine (HU.out _ HB1.out _ HPS.out).mono ?_;rintro e w2 ⟨v,rfl,hm⟩;have HM:=hid (HB1.out.trans (hm.2.mono HB1.out.size));obtain⟨A1,c1,rfl,_⟩:=hm.ls It.enc_len;clear hm
   go_wp2
   go_ret2
   exact⟨_,rfl,Mk.nil HM.out⟩
  ·have HE:=hid (show ec D I=0 by unfold ec;rw [hr,if_pos rfl,if_neg h0]);rw [HE.out,HC.out];have q0:((I:Int)==0)=false:=by rw [beq_eq_false_iff_ne];omega
   have hI1:1≤I:=by omega
   clear hr h0
   go_enter Tryz.func134,Tryz.ntmps134
   go_wp2_with fail
   refine (HP.out _).mono ?_;rintro e w1 ⟨rfl,hb1⟩;have HB1:=hid hb1;clear hb1
   go_wp2_with fail
   refine (HU.out _ HB1.out _ HPS.out).mono ?_;rintro e w2 ⟨v,rfl,hm⟩;have HB2:=hid (HB1.out.trans (hm.2.mono HB1.out.size));obtain⟨A1,c1,hv,_,_,hl1⟩:=hm.ls It.enc_len;obtain⟨m,hmm⟩:∃ m,(und D (pfx 3 I)).length=m:=⟨_,rfl⟩;have hl1':Ls It.enc 2 w2 w2.heap.size A1 (und D (pfx 3 I)):=hl1;have hv':v=.slice A1 (und D (pfx 3 I)).length c1:=hv;rw [hmm] at hv';subst hv';have HL1:=hid hl1';have HMM:=hid hmm;have HMX:=hid (show m≤4398046511104 by rw [← hmm];exact HUN.out);have HSZ2:=hid (fun x hx=>HSZ.out HR.out x hx);have HPT:=hid (fun i=>chs_part HR.out (by omega) hI i);clear hm hl1 hl1' hmm hv HU HP HSZ HUN HPS HC HB1 HE;generalize hU:und D (pfx 3 I)=U at *;have HUU:=hid hU;clear hU
   go_wp2_with fail
   go_loopw [8,27] (fun av v wr=>∃ (i:Nat) (E:List Ck),i≤m∧v=.int .i64 i∧Hid (E=(U.take i).filterMap ckOf)∧Hid (E.length≤i)∧Hid (MkK w2 wr av E)) (fun _ v _=>m-(intOf v).toNat)
   case atStart=>exact⟨0,[],Nat.zero_le _,by go_num,rfl,Nat.le_refl _,Mk.nil (Below.refl _ _)⟩
   case round =>
    obtain⟨i,E,hi,rfl,hE,hEl,hmk⟩:=hrel;have hm9:m≤4398046511104:=HMX.out;by_cases hlt:i<m
    ·obtain⟨x,hx⟩:∃ x,U[i]?=some x:=⟨_,List.getElem?_eq_getElem (by rw [HMM.out];exact hlt)⟩;obtain⟨hk48,hv160⟩:=HSZ2.out x (List.mem_of_getElem? hx);obtain⟨b,o,hAe,hb,hrg⟩:=(HL1.out.below (Hid.out hmk).2) i x hx;have hbs:b<wr.heap.size:=Nat.lt_of_lt_of_le hb (Hid.out hmk).2.size;have hc0:wr.cell? ⟨b,o+i*2,none⟩=some (.string x.k):=hrg 0 _ rfl;have hc1:wr.cell? ⟨b,o+i*2+1,none⟩=some (.string x.v):=hrg 1 _ rfl;have hd0:(wr.alloc (.cells #[.string x.k,.string x.v] 90)).cell? ⟨wr.heap.size,0,none⟩=some (.string x.k):=by simp
     have HDR:=hid (heap_alloc_new wr (.cells #[.string x.k,.string x.v] 90));have HPA:=hid (fun w=>parse_in x.k (by unfold maxLen;omega) w);have HM:=hid ((Hid.out hmk).alloc (.cells #[.string x.k,.string x.v] 90));have HDN:=hid (fm_sn hx);have HE5:=hid (show E.length≤512 by rw [Hid.out hE];exact HPT.out i);rw [← Hid.out hE] at HDN;have HEL:=hid (Hid.out hEl);clear hrg hmk hx hE hEl;subst hAe
     go_wp2_with fail
     clear hc0 hc1 hd0;generalize wr.alloc _=w3 at *;refine (HPA.out _).mono ?_;rintro e w4 ⟨rfl,hb4⟩;have HDR4:=hid ((hb4.block _ (row_lt HDR.out)).trans HDR.out);have HM4:=hid (HM.out.go hb4);have hgl:=row_lt HDR4.out;have d0:w4.cell? ⟨wr.heap.size,0,none⟩=some (.string x.k):=cell_of_row _ _ 0 _ _ _ HDR4.out;have d1:w4.cell? ⟨wr.heap.size,1,none⟩=some (.string x.v):=cell_of_row _ _ 1 _ _ _ HDR4.out;clear hb4 HDR HM HPA;generalize wr.heap.size=g at *;by_cases hk:deKE x.k=0
     ·have HCK:=hid (show (match ckOf x with | some c=>[c] | none=>[])=[(⟨(deK x.k).C,x.k,true,x.v⟩:Ck)] by unfold ckOf;rw [if_pos hk]);have qk:(deKE x.k==0)=true:=by rw [hk];rfl
      have HEL2:=hid (show (E++[(⟨(deK x.k).C,x.k,true,x.v⟩:Ck)]).length≤i+1 by rw [List.length_append];have:=HEL.out;simp;exact this);have HDL:=hid (show E.length+1≤2932031007402 by have:=HE5.out;omega);unfold vK;generalize deK x.k=q at *;generalize deKE x.k=q9 at *;clear hk;have hb9:Below w4.heap.size w4 (w4.alloc (.cells #[.int .u8 q.K,.int .u32 q.I,.string q.N,.int .u32 q.C] 99)):=(Below.refl _ _).alloc (Nat.le_refl _) _;have e0:(w4.alloc (.cells #[.int .u8 q.K,.int .u32 q.I,.string q.N,.int .u32 q.C] 99)).cell? ⟨g,0,none⟩=some (.string x.k):=(hb9.cell (p:=⟨g,0,none⟩) hgl).trans d0;have e1:(w4.alloc (.cells #[.int .u8 q.K,.int .u32 q.I,.string q.N,.int .u32 q.C] 99)).cell? ⟨g,1,none⟩=some (.string x.v):=(hb9.cell (p:=⟨g,1,none⟩) hgl).trans d1;clear hb9
      go_wp2_with (at_builtin;refine catK ((HM4.out.alloc _).alloc _) [⟨q.C,x.k,true,x.v⟩] _ 1 1 rfl (ls_new_at _ (⟨q.C,x.k,true,x.v⟩:Ck) _ (w4.heap.size+1) (w4.heap.size+2) (by simp) (Nat.lt_succ_self _)) HDL.out rfl _ _ rfl rfl rfl ?_;intro v3 w5 hM3 hG3;have HM5:=hid hM3;clear hM3 hG3)
      exact⟨⟨i+1,_,by omega,by go_num,(by rw [HDN.out,HCK.out]:E++[(⟨q.C,x.k,true,x.v⟩:Ck)]=_),HEL2.out,HM5.out⟩,by simp [intOf]<;>omega⟩
     ·have HCK:=hid (show (match ckOf x with | some c=>[c] | none=>[])=[] by unfold ckOf;rw [if_neg hk]);have qk:(deKE x.k==0)=false:=by rw [beq_eq_false_iff_ne];exact hk
      have HEL2:=hid (show E.length≤i+1 by have:=HEL.out;omega);have HM5:=hid (HM4.out.alloc (.cells #[.int .u8 (deK x.k).K,.int .u32 (deK x.k).I,.string (deK x.k).N,.int .u32 (deK x.k).C] 99));unfold vK;generalize deK x.k=q at *;generalize deKE x.k=q9 at *;clear hk
      go_wp2_with fail
      exact⟨⟨i+1,E,by omega,by go_num,(by rw [HDN.out,HCK.out,List.append_nil]:E=_),HEL2.out,HM5.out⟩,by simp [intOf]<;>omega⟩
    ·have HEE:=hid (show E=U.filterMap ckOf by have h:=Hid.out hE;rwa [List.take_of_length_le (by rw [HMM.out];omega)] at h);have HM:=hid ((Hid.out hmk).since HB2.out);obtain⟨A5,c5,hv5,_⟩:=(Hid.out hmk).ls enC_len;subst hv5;clear hE hEl hmk
     go_wp2
     go_ret2
     exact⟨_,rfl,by simp only [if_true];rw [HUU.out,← HEE.out];exact HM.out⟩
end Go.Proofs.YtopepebcnaikiaaGreatDoor.Da
namespace Go.Proofs.YtopepebcnaikiaaGreatDoor.Da
open Lib (hid)
open Go.ChangeShapes Go.WideShapes Go.ChangeAt Go.RowKit
open Ar Rg
open It (Itm Ch)
open Ino (vK key_in enK chK okK)
def cn (a b:Nat):Int:=if a<b then -1 else if b<a then 1 else 0
theorem isNaN32 (a:Nat) (w:World):Calls Tryz.prog 196 #[.int .u32 a] w fun e w'=>e=.returned (.bool false)∧w=w':=by
 go_enter Tryz.func196,Tryz.ntmps196
 go_wp2
 go_ret
 exact⟨by simp,rfl⟩
theorem compare32 (a b:Nat) (w:World):Calls Tryz.prog 190 #[.int .u32 a,.int .u32 b] w fun e w'=>e=.returned (.int .i64 (cn a b))∧w=w':=by
 have HA:=hid (isNaN32 a);have HB:=hid (isNaN32 b);unfold cn;by_cases h1:a<b
 ·have d1:decide ((a:Int)<(b:Int))=true:=by simp;omega
  rw [if_pos h1]
  go_enter Tryz.func190,Tryz.ntmps190
  go_wp2_with fail
  refine (HA.out _).mono ?_;rintro e w1 ⟨rfl,rfl⟩
  go_wp2_with fail
  refine (HB.out _).mono ?_;rintro e w1 ⟨rfl,rfl⟩
  go_wp2
  go_ret
  exact⟨rfl,rfl⟩
 ·have d1:decide ((a:Int)<(b:Int))=false:=by simp;omega
  rw [if_neg h1];by_cases h2:b<a
  ·have d2:decide ((b:Int)<(a:Int))=true:=by simp;omega
   rw [if_pos h2]
   go_enter Tryz.func190,Tryz.ntmps190
   go_wp2_with fail
   refine (HA.out _).mono ?_;rintro e w1 ⟨rfl,rfl⟩
   go_wp2_with fail
   refine (HB.out _).mono ?_;rintro e w1 ⟨rfl,rfl⟩
   go_wp2
   go_ret
   exact⟨rfl,rfl⟩
  ·have d2:decide ((b:Int)<(a:Int))=false:=by simp;omega
   rw [if_neg h2]
   go_enter Tryz.func190,Tryz.ntmps190
   go_wp2_with fail
   refine (HA.out _).mono ?_;rintro e w1 ⟨rfl,rfl⟩
   go_wp2_with fail
   refine (HB.out _).mono ?_;rintro e w1 ⟨rfl,rfl⟩
   go_wp2
   go_ret
   exact⟨rfl,rfl⟩
theorem findCmp_at (x:Ck) (k:Nat) (c:Int) (hc:cn x.n k=c) (w:World) :
  Calls Tryz.prog 189 #[.agg #[.int .u32 x.n,.string x.k,.bool x.h,.string x.v],.int .u32 k] w fun e w'=>e=.returned (.int .i64 c)∧Below w.heap.size w w':=by
 subst hc;have HC:=hid (fun w=>compare32 x.n k w);have HG:=hid (show Below w.heap.size w (w.alloc (.cells #[.int .u32 x.n,.string x.k,.bool x.h,.string x.v] 237)) from (Below.refl _ w).alloc (Nat.le_refl _) _);generalize cn x.n k=c at *
 go_enter Tryz.func189,Tryz.ntmps189
 go_wp2_with fail
 refine (HC.out _).mono ?_;rintro e w1 ⟨rfl,rfl⟩
 go_wp2
 go_ret
 exact⟨rfl,HG.out⟩
theorem cn_lt (a b:Nat):cn a b<0↔a<b:=by
 unfold cn;split
 ·simp [*]
 ·split<;>simp [*]
theorem cn_eq (a b:Nat):cn a b=0↔a=b:=by
 unfold cn;split
 ·constructor
  ·intro h;cases h
  ·omega
 ·split
  ·constructor
   ·intro h;cases h
   ·omega
  ·constructor
   ·omega
   ·intro _;rfl
def GI (D:List Ck) (k:Nat) (c:Nat):Bool:=match D[c]? with | some z=>!decide (z.n<k) | none=>false
theorem GI_at {D:List Ck}{k:Nat}{z:Ck}{c:Nat}(h:D[c]?=some z):GI D k c=!decide (z.n<k):=by unfold GI;rw [h]
def At (D:List Ck) (k p:Nat):Prop:=p≤D.length∧(∀ j y,D[j]?=some y→j<p→y.n<k)∧(∀ j y,D[j]?=some y→p≤j→k≤y.n)
theorem up_lt {D:List Ck}(h:UpC D){i j:Nat}{x y:Ck}(hx:D[i]?=some x) (hy:D[j]?=some y) (hij:i<j):x.n<y.n:=by
 obtain⟨h1,rfl⟩:=List.getElem?_eq_some_iff.1 hx;obtain⟨h2,rfl⟩:=List.getElem?_eq_some_iff.1 hy;exact List.pairwise_iff_getElem.1 h i j h1 h2 hij
theorem at_of {D:List Ck}{k p:Nat}(hs:UpC D) (h:Sc.Bs (GI D k) 0 D.length p p):At D k p:=by
 obtain⟨_,_,h1,h2,h3⟩:=h;refine⟨h1,fun j y hy hj=>?_,fun j y hy hj=>?_⟩
 ·rcases h2 with h2 | h2
  ·omega
  ·have hz:D[p-1]?=some (D[p-1]'(by omega)):=List.getElem?_eq_getElem _;rw [GI_at hz] at h2;have h2:(D[p-1]'(by omega)).n<k:=by simpa using h2
   by_cases e:j=p-1
   ·subst e;rw [hz] at hy;rw [← Option.some.inj hy];exact h2
   ·exact Nat.lt_trans (up_lt hs hy hz (by omega)) h2
 ·have hjl:j<D.length:=(List.getElem?_eq_some_iff.1 hy).1;rcases h3 with h3 | h3
  ·omega
  ·have hz:D[p]?=some (D[p]'(by omega)):=List.getElem?_eq_getElem _;rw [GI_at hz] at h3;have h3:k≤(D[p]'(by omega)).n:=by simpa using h3
   by_cases e:j=p
   ·subst e;rw [hz] at hy;rw [← Option.some.inj hy];exact h3
   ·exact Nat.le_of_lt (Nat.lt_of_le_of_lt h3 (up_lt hs hz hy (by omega)))
def found (D:List Ck) (k p:Nat):Bool:=match D[p]? with | some y=>decide (y.n=k) | none=>false
theorem found_at {D:List Ck}{k p:Nat}{y:Ck}(h:D[p]?=some y):found D k p=decide (y.n=k):=by unfold found;rw [h]
theorem found_out {D:List Ck}{k p:Nat}(h:D.length≤p):found D k p=false:=by unfold found;rw [List.getElem?_eq_none h]
theorem search_any (D:List Ck) (k:Nat) (A:Option Addr) (n cap B:Nat) (hn:n=D.length) (hm:n≤281474976710656) (hs:UpC D) (w:World) (hB:B≤w.heap.size) (hD:Ls enC 4 w B A D) :
  Calls Tryz.prog 188 #[.slice A n cap,.int .u32 k,.func (.func 189) #[] #[]] w fun e w'=>∃ p:Nat,At D k p∧e=.returned (.tuple #[.int .i64 p,.bool (found D k p)])∧Below w.heap.size w w':=by
 have HN:=hid hn;have HD:=hid hD;have HS:=hid hs;clear hn hD hs
 go_enter Tryz.func188,Tryz.ntmps188
 go_wp2_with fail
 go_loopw [9,10] (fun v u wr=>∃ lo hi:Nat,v=.int .i64 lo∧u=.int .i64 hi∧Hid (Sc.Bs (GI D k) 0 n lo hi)∧Hid (Below w.heap.size w wr)) (fun v u _=>(intOf u).toNat-(intOf v).toNat)
 case atStart=>exact⟨0,n,by go_num,by go_num,Sc.Bs.start _ (Nat.zero_le _),Below.refl _ _⟩
 case round =>
  obtain⟨lo,hi,rfl,rfl,hbs,hbel⟩:=hrel;obtain⟨_,n2,n3,_⟩:=Hid.out hbs;have hL:=HD.out.below ((Hid.out hbel).mono hB);by_cases hlt:lo<hi
  ·obtain⟨h,hh⟩:∃ h:Nat,((lo:Int)+(hi:Int)) / 2=(h:Int):=⟨(lo+hi) / 2,by omega⟩;have n4:lo≤h:=by omega
   have n5:h<hi:=by omega
   have n6:(0:Int)≤(h:Int):=by omega
   have n7:(h:Int)<(n:Int):=by omega
   obtain⟨z,hz⟩:∃ z,D[h]?=some z:=⟨_,List.getElem?_eq_getElem (by rw [← HN.out];omega)⟩;obtain⟨b,o,hAe,hb,hr⟩:=hL h z hz;have hbl:b<wr.heap.size:=Nat.lt_of_lt_of_le hb (Nat.le_trans hB (Hid.out hbel).size);have hc0:wr.cell? ⟨b,o+h*4,none⟩=some (.int .u32 z.n):=hr 0 _ rfl;have hc1:wr.cell? ⟨b,o+h*4+1,none⟩=some (.string z.k):=hr 1 _ rfl;have hc2:wr.cell? ⟨b,o+h*4+2,none⟩=some (.bool z.h):=hr 2 _ rfl;have hc3:wr.cell? ⟨b,o+h*4+3,none⟩=some (.string z.v):=hr 3 _ rfl;clear hL hr;subst hAe;obtain⟨c,hcf⟩:∃ c,cn z.n k=c:=⟨_,rfl⟩;have hcl:=cn_lt z.n k;rw [hcf] at hcl;have HCF:=hid hcf;by_cases hlk:z.n<k
   ·have hc:c<0:=hcl.2 hlk;have HUP:=hid ((Hid.out hbs).up n4 n5 (by rw [GI_at hz,decide_eq_true hlk];rfl));clear hcl hcf hbs hz hlk
    go_wp2_with (go_at_call 189;refine (findCmp_at z k c HCF.out _).mono ?_;rintro e w1 ⟨rfl,hb1⟩;have HB1:=hid ((Hid.out hbel).trans (hb1.mono (Hid.out hbel).size));clear hb1)
    exact⟨⟨h+1,hi,by go_num,rfl,HUP.out,HB1.out⟩,by simp [intOf]<;>omega⟩
   ·have hc:0≤c:=by
     have:¬ c<0:=fun e=>hlk (hcl.1 e)
     omega
    have HDN:=hid ((Hid.out hbs).down n4 n5 (by rw [GI_at hz,decide_eq_false hlk];rfl));clear hcl hcf hbs hz hlk
    go_wp2_with (go_at_call 189;refine (findCmp_at z k c HCF.out _).mono ?_;rintro e w1 ⟨rfl,hb1⟩;have HB1:=hid ((Hid.out hbel).trans (hb1.mono (Hid.out hbel).size));clear hb1)
    exact⟨⟨lo,h,rfl,rfl,HDN.out,HB1.out⟩,by simp [intOf]<;>omega⟩
  ·obtain rfl:lo=hi:=by omega
   have HAT:=hid (at_of HS.out (by have:=Hid.out hbs;rw [HN.out] at this;exact this));clear hbs;by_cases hp:lo<n
   ·obtain⟨z,hz⟩:∃ z,D[lo]?=some z:=⟨_,List.getElem?_eq_getElem (by rw [← HN.out];omega)⟩;obtain⟨b,o,hAe,hb,hr⟩:=hL lo z hz;have hbl:b<wr.heap.size:=Nat.lt_of_lt_of_le hb (Nat.le_trans hB (Hid.out hbel).size);have hc0:wr.cell? ⟨b,o+lo*4,none⟩=some (.int .u32 z.n):=hr 0 _ rfl;have hc1:wr.cell? ⟨b,o+lo*4+1,none⟩=some (.string z.k):=hr 1 _ rfl;have hc2:wr.cell? ⟨b,o+lo*4+2,none⟩=some (.bool z.h):=hr 2 _ rfl;have hc3:wr.cell? ⟨b,o+lo*4+3,none⟩=some (.string z.v):=hr 3 _ rfl;clear hL hr;subst hAe;obtain⟨c,hcf⟩:∃ c,cn z.n k=c:=⟨_,rfl⟩;have hce:=cn_eq z.n k;rw [hcf] at hce;have HF:=hid (show found D k lo=(c==0) by rw [found_at hz,Bool.eq_iff_iff];simp [hce]);have HCF:=hid hcf;clear hcf hce hz
    go_wp2_with (go_at_call 189;refine (findCmp_at z k c HCF.out _).mono ?_;rintro e w1 ⟨rfl,hb1⟩;have HB1:=hid ((Hid.out hbel).trans (hb1.mono (Hid.out hbel).size));clear hb1)
    go_ret2
    exact⟨lo,HAT.out,by rw [HF.out];rfl,HB1.out⟩
   ·have HF:=hid (found_out (D:=D) (k:=k) (p:=lo) (by rw [← HN.out];omega));clear hL
    go_wp2
    go_ret2
    exact⟨lo,HAT.out,by rw [HF.out];rfl,Hid.out hbel⟩
def fnd (D:List Ck) (I k:Nat):Ck:=(D.find? fun c=>decide (c.n=k)).getD ⟨k,cky I k,false,ByteArray.empty⟩
theorem fnd_yes {D:List Ck}(hs:UpC D){I k p:Nat}{c:Ck}(hc:D[p]?=some c) (hk:c.n=k):fnd D I k=c:=by
 unfold fnd;have hm:c∈D:=List.mem_of_getElem? hc;cases hf:D.find? fun c=>decide (c.n=k) with
 | none =>
  have:=List.find?_eq_none.1 hf c hm;simp [hk] at this
 | some d =>
  have h1:=List.find?_some hf;simp only [decide_eq_true_iff] at h1;obtain⟨j,hj⟩:=List.mem_iff_getElem?.1 (List.mem_of_find?_eq_some hf);show d=c
  rcases Nat.lt_trichotomy j p with h | h | h
  ·have:=up_lt hs hj hc h;omega
  ·subst h;rw [hj] at hc;exact Option.some.inj hc
  ·have:=up_lt hs hc hj h;omega
theorem fnd_no {D:List Ck}{I k:Nat}(h:∀ c∈D,c.n≠k):fnd D I k=⟨k,cky I k,false,ByteArray.empty⟩:=by
 unfold fnd;rw [List.find?_eq_none.2 (fun c hc=>by simp [h c hc])];rfl
theorem fnd_at {D:List Ck}(hs:UpC D){I k p:Nat}(ha:At D k p) (hf:found D k p=false):fnd D I k=⟨k,cky I k,false,ByteArray.empty⟩:=by
 refine fnd_no fun c hc e=>?_
 obtain⟨j,hj⟩:=List.mem_iff_getElem?.1 hc;rcases Nat.lt_trichotomy j p with h | h | h
 ·have:=ha.2.1 j c hj h;omega
 ·subst h;rw [found_at hj] at hf;simp [e] at hf
 ·have hpl:p<D.length:=by have:=(List.getElem?_eq_some_iff.1 hj).1;omega
  have hz:D[p]?=some (D[p]'hpl):=List.getElem?_eq_getElem _;have h1:=up_lt hs hz hj h;have h2:=ha.2.2 p _ hz (Nat.le_refl _);omega
theorem find_any (D:List Ck) (I k:Nat) (hI1:1≤I) (hI:I<4294967296) (hk:k<512) (A:Option Addr) (n cap B:Nat) (hn:n=D.length) (hm:n≤281474976710656) (hs:UpC D) (w:World) (hB:B≤w.heap.size) (hD:Ls enC 4 w B A D) :
  Calls Tryz.prog 169 #[.slice A n cap,.int .u32 I,.int .u32 k] w fun e w'=>e=.returned (.agg (enC (fnd D I k)).toArray)∧Below w.heap.size w w':=by
 have HR0:=hid (heap_alloc_new w (.cells #[.int .u32 0,.string ⟨#[]⟩,.bool false,.string ⟨#[]⟩] 237));have HB0:=hid (show Below w.heap.size w (w.alloc (.cells #[.int .u32 0,.string ⟨#[]⟩,.bool false,.string ⟨#[]⟩] 237)) from (Below.refl _ w).alloc (Nat.le_refl _) _);have HS:=hid (fun (w1:World) (hb:Below w.heap.size w w1)=>search_any D k A n cap B hn hm hs w1 (Nat.le_trans hB hb.size) (hD.below (hb.mono hB)));have HD:=hid hD;have HN:=hid hn;have HUP:=hid hs;have hlim:=kyC_lim hI hk;have hok:=kyC_ok hI1 hk;have HK:=hid (fun w=>by
  have h:=key_in (kyC I k) hlim w;rw [show enK (kyC I k)=cky I k by unfold enK;rw [if_pos hok];rfl,show chK (kyC I k)=0 by unfold chK;rw [if_pos hok]] at h;exact h)
 clear hn hs hD hlim hok
 go_enter Tryz.func169,Tryz.ntmps169
 go_wp2_with fail
 generalize w.alloc _=w1 at *;refine (HS.out _ HB0.out).mono ?_;rintro e w2 ⟨p,hat,rfl,hb⟩;have HR2:=hid ((hb.block _ (row_lt HR0.out)).trans HR0.out);have HB2:=hid (HB0.out.trans (hb.mono HB0.out.size));have HAT:=hid hat;have hpn:p≤n:=by rw [HN.out];exact hat.1
 clear hb hat HS HR0 HB0;cases hf:found D k p
 ·have HF:=hid (fnd_at (I:=I) HUP.out HAT.out hf);have HF2:=hid (show (enC (fnd D I k)).toArray=#[.int .u32 k,.string (cky I k),.bool false,.string ⟨#[]⟩] by rw [HF.out];rfl);clear hf HF
  go_wp2_with fail
  refine (HK.out _).mono ?_;rintro e w3 ⟨rfl,hb⟩;have HR3:=hid ((hb.block _ (row_lt HR2.out)).trans HR2.out);have HB3:=hid (HB2.out.trans (hb.mono HB2.out.size));clear hb;generalize cky I k=K at *;have HR4:=hid (setRow_heap' (cs:=#[.int .u32 k,.string K,.bool false,.string ⟨#[]⟩]) HR3.out);have HB4:=hid (grown_row HB3.out (Nat.le_refl _) #[.int .u32 k,.string K,.bool false,.string ⟨#[]⟩])
  go_wp2_with (refine wpList_store_row rfl 237 (.tmp 6) (.tmp 31) rfl w.heap.size #[.int .u32 k,.string K,.bool false,.string ⟨#[]⟩] rfl rfl 237 _ HR3.out (by kernel_rfl) rfl (by simp [Value.oneCell']) ?_)
  refine bodyPost_ret (v:=.agg #[.int .u32 k,.string K,.bool false,.string ⟨#[]⟩]) (results_cell_row rfl _ _ w.heap.size 237 #[.int .u32 k,.string K,.bool false,.string ⟨#[]⟩] (0,0) _ rfl HR4.out Tryz.underlying237 rfl (by kernel_rfl)) rfl ?_;exact⟨by rw [HF2.out],HB4.out⟩
 ·have hpl:p<n:=by
   rcases Nat.lt_or_ge p n with h | h
   ·exact h
   ·rw [found_out (by rw [← HN.out];exact h)] at hf;cases hf
  obtain⟨z,hz⟩:∃ z,D[p]?=some z:=⟨_,List.getElem?_eq_getElem (by rw [← HN.out];exact hpl)⟩;rw [found_at hz,decide_eq_true_iff] at hf;have HF:=hid (fnd_yes (I:=I) HUP.out hz hf);obtain⟨b,o,hAe,hb,hr⟩:=(HD.out.below (HB2.out.mono hB)) p z hz;have hbl:b<w2.heap.size:=Nat.lt_of_lt_of_le hb (Nat.le_trans hB HB2.out.size);have hc0:w2.cell? ⟨b,o+p*4,none⟩=some (.int .u32 z.n):=hr 0 _ rfl;have hc1:w2.cell? ⟨b,o+p*4+1,none⟩=some (.string z.k):=hr 1 _ rfl;have hc2:w2.cell? ⟨b,o+p*4+2,none⟩=some (.bool z.h):=hr 2 _ rfl;have hc3:w2.cell? ⟨b,o+p*4+3,none⟩=some (.string z.v):=hr 3 _ rfl;have HR4:=hid (setRow_heap' (cs:=(enC z).toArray) HR2.out);have HB4:=hid (grown_row HB2.out (Nat.le_refl _) (enC z).toArray);clear hr hz hf;subst hAe
  go_wp2_with (refine wpList_store_row rfl 237 (.tmp 6) (.tmp 21) rfl w.heap.size (enC z).toArray rfl rfl 237 _ HR2.out (infoC4 z) rfl (by simp [enC,Value.oneCell']) ?_)
  refine bodyPost_ret (v:=.agg (enC z).toArray) (results_cell_row rfl _ _ w.heap.size 237 (enC z).toArray (0,0) _ rfl HR4.out Tryz.underlying237 rfl (infoC4 z)) rfl ?_;exact⟨by rw [HF.out],HB4.out⟩
end Go.Proofs.YtopepebcnaikiaaGreatDoor.Da
namespace Go.Proofs.YtopepebcnaikiaaGreatDoor.Da
open Lib (hid)
open Go.ChangeShapes Go.WideShapes Go.ChangeAt Go.RowKit
open Ar Rg
open Pk (u8s u8s_length)
open It (Itm Ch)
theorem row_runD {P:Program}{ev:Operand→Value}{o:Oper}{w:World}(ty:TypeId){x:Operand}(ho:o.op=.load ty x) (b:Nat) (hx:ev x=.pointer (some ⟨b,0,none⟩)) (cs:Array Value) (t:TypeId) (fr:Nat×Nat) (d:TypeDesc) (hg:w.heap[b]?=some (.cells cs t fr))
  (hu:P.underlying ty=some d) (hd:(match d with | .struct _ | .array _ _=>true | _=>false)=true) (hi:(P.info? ty).map (·.size)=some cs.size):(execOp ev o).run P w=.ok (.value (.agg cs)) w:=by
 unfold execOp;simp only [ho,hx,Instr.loadAt,Instr.sureAddr,Sem.run_bind,Sem.run_pure,Result.andThen_ok,run_loadVar_row w b t ty cs fr d hg hu hd hi]
def btC (cs:List Ck) (p:Nat):UInt8:=match cs.find? fun c=>decide (c.n=p / 128) with
 | some c=>((btsB c).data.toList[p%128]?).getD 0
 | none=>0
def rdC (cs:List Ck) (a e:Nat):List UInt8:=(List.range (e-a)).map fun j=>btC cs (a+j)
theorem rdC_len (cs:List Ck) (a e:Nat):(rdC cs a e).length=e-a:=by unfold rdC;rw [List.length_map,List.length_range]
theorem rdC_get (cs:List Ck) (a e j:Nat) (h:j<e-a):(rdC cs a e)[j]?=some (btC cs (a+j)):=by
 unfold rdC;rw [List.getElem?_map,List.getElem?_range h];rfl
theorem rdC_nil (a e:Nat):rdC [] a e=List.replicate (e-a) 0:=by
 apply List.ext_getElem?;intro j;by_cases hj:j<e-a
 ·rw [rdC_get _ _ _ _ hj,List.getElem?_replicate,if_pos hj];rfl
 ·rw [List.getElem?_eq_none (by rw [rdC_len];omega),List.getElem?_replicate,if_neg hj]
theorem rdC_ext {cs ds:List Ck}{a e:Nat}(h:∀ p,a≤p→p<e→btC cs p=btC ds p):rdC cs a e=rdC ds a e:=by
 apply List.ext_getElem?;intro j;by_cases hj:j<e-a
 ·rw [rdC_get _ _ _ _ hj,rdC_get _ _ _ _ hj,h (a+j) (by omega) (by omega)]
 ·rw [List.getElem?_eq_none (by rw [rdC_len];omega),List.getElem?_eq_none (by rw [rdC_len];omega)]
theorem up_take {cs:List Ck}(hs:UpC cs){i:Nat}{c d:Ck}(hc:cs[i]?=some c) (hd:d∈cs.take i):d.n<c.n:=by
 obtain⟨j,hj⟩:=List.mem_iff_getElem?.1 hd;rw [List.getElem?_take] at hj;split at hj
 ·rename_i h;exact up_lt hs hj hc h
 ·cases hj
theorem btC_snoc {cs:List Ck}(hs:UpC cs){i:Nat}{c:Ck}(hc:cs[i]?=some c) (p:Nat):btC (cs.take (i+1)) p=if c.n=p / 128 then ((btsB c).data.toList[p%128]?).getD 0 else btC (cs.take i) p:=by
 unfold btC;rw [List.take_add_one,hc,List.find?_append];by_cases h:c.n=p / 128
 ·rw [if_pos h];have hn:(cs.take i).find? (fun c=>decide (c.n=p / 128))=none:=by
   rw [List.find?_eq_none];intro d hd;have:=up_take hs hc hd;simp;omega
  rw [hn];simp [h]
 ·rw [if_neg h];have h2:(some c).toList.find? (fun c=>decide (c.n=p / 128))=none:=by simp [h]
  rw [h2,Option.or_none]
theorem btC_old {cs:List Ck}(hs:UpC cs){i:Nat}{c:Ck}(hc:cs[i]?=some c){p:Nat}(h:c.n=p / 128):btC (cs.take i) p=0:=by
 unfold btC;have hn:(cs.take i).find? (fun c=>decide (c.n=p / 128))=none:=by
  rw [List.find?_eq_none];intro d hd;have:=up_take hs hc hd;simp;omega
 rw [hn]
theorem bts_le (c:Ck):(btsB c).data.toList.length≤128:=by rw [btsB_list,List.length_take];omega
theorem cpy_get {L S:List UInt8}{o n:Nat}(h:o+n≤L.length) (j:Nat):(cpy L o n S)[j]?=if o≤j∧j<o+min S.length n then S[j-o]? else L[j]?:=by
 unfold cpy;have l1:(L.take o).length=o:=by rw [List.length_take];omega
 have l2:(S.take n).length=min S.length n:=by rw [List.length_take];omega
 by_cases h1:j<o
 ·rw [if_neg (by omega),List.append_assoc,List.getElem?_append_left (by omega),List.getElem?_take,if_pos h1]
 ·by_cases h2:j<o+min S.length n
  ·rw [if_pos ⟨by omega,h2⟩,List.append_assoc,List.getElem?_append_right (by omega),l1,List.getElem?_append_left (by omega),List.getElem?_take,if_pos (by omega)]
  ·rw [if_neg (by omega),List.getElem?_append_right (by rw [List.length_append];omega),List.length_append,l1,l2,List.getElem?_drop]
   congr 1
   omega
theorem rd_skip {cs:List Ck}(hs:UpC cs){i a e:Nat}{c:Ck}(hc:cs[i]?=some c) (h:(btsB c).size≤a-c.n*128):rdC (cs.take (i+1)) a e=rdC (cs.take i) a e:=by
 have hl:(btsB c).data.toList.length=(btsB c).size:=by rw [Array.length_toList];rfl
 refine rdC_ext fun p hp _=>?_
 rw [btC_snoc hs hc];by_cases hn:c.n=p / 128
 ·rw [if_pos hn,btC_old hs hc hn,List.getElem?_eq_none (by rw [hl];omega)];rfl
 ·rw [if_neg hn]
theorem rd_stop {cs:List Ck}(hs:UpC cs){i a e:Nat}{c:Ck}(hc:cs[i]?=some c) (h:e≤c.n*128):rdC (cs.take i) a e=rdC cs a e:=by
 refine rdC_ext fun p hp hpe=>?_
 unfold btC;have e1:cs.find? (fun c=>decide (c.n=p / 128))=(cs.take i).find? (fun c=>decide (c.n=p / 128)):=by
  conv=>lhs;rw [← List.take_append_drop i cs]
  rw [List.find?_append];have hn:(cs.drop i).find? (fun c=>decide (c.n=p / 128))=none:=by
   rw [List.find?_eq_none];intro d hd;obtain⟨j,hj⟩:=List.mem_iff_getElem?.1 hd;rw [List.getElem?_drop] at hj;have h2:c.n≤d.n:=by
    rcases Nat.eq_zero_or_pos j with rfl | h0
    ·rw [Nat.add_zero,hc] at hj;cases hj;exact Nat.le_refl _
    ·exact Nat.le_of_lt (up_lt hs hc hj (by omega))
   have:c.n*128≤d.n*128:=Nat.mul_le_mul_right _ h2;simp;omega
  rw [hn,Option.or_none]
 rw [e1]
theorem rd_step {cs:List Ck}(hs:UpC cs){i a e f k q:Nat}{c:Ck}(hc:cs[i]?=some c) (hf:c.n*128=f) (hfe:f<e) (hae:a<e) (hk:a-f=k) (hkl:k<(btsB c).size) (hq:f+k-a=q) :
  cpy (rdC (cs.take i) a e) q (e-a-q) ((btsB c).data.toList.drop k)=rdC (cs.take (i+1)) a e:=by
 have hl:(btsB c).data.toList.length=(btsB c).size:=by rw [Array.length_toList];rfl
 have h128:=bts_le c;apply List.ext_getElem?;intro j;rw [cpy_get (by rw [rdC_len];omega)];by_cases hj:j<e-a
 ·rw [rdC_get _ _ _ _ hj,rdC_get _ _ _ _ hj,btC_snoc hs hc];have e1:(a+j) / 128*128+(a+j)%128=a+j:=by omega
  by_cases hin:q≤j∧j<q+min ((btsB c).data.toList.drop k).length (e-a-q)
  ·rw [if_pos hin];obtain⟨hi1,hi2⟩:=hin;rw [List.length_drop] at hi2;have hn:c.n=(a+j) / 128:=by omega
   rw [if_pos hn,List.getElem?_drop,show k+(j-q)=(a+j)%128 by omega,List.getElem?_eq_getElem (by omega)];rfl
  ·rw [if_neg hin];rw [List.length_drop] at hin;by_cases hn:c.n=(a+j) / 128
   ·rw [if_pos hn,btC_old hs hc hn,List.getElem?_eq_none (by omega)];rfl
   ·rw [if_neg hn]
 ·have e2:(rdC (cs.take i) a e)[j]?=none:=List.getElem?_eq_none (by rw [rdC_len];omega);rw [if_neg (by omega),e2,List.getElem?_eq_none (by rw [rdC_len];omega)]
theorem from_at (c:Ck) (f:Nat) (hf:c.n*128=f) (h:c.n<4294967296) (w:World) :
  Calls Tryz.prog 167 #[.agg (enC c).toArray] w fun e w'=>e=.returned (.int .i64 (f:Int))∧Below w.heap.size w w':=by
 subst hf;exact from_any c h w
theorem read_any (D:List Ck) (a e:Nat) (hae:a<e) (he:e≤65536) (A:Option Addr) (n cap B:Nat) (hn:n=D.length) (hm:n≤281474976710656) (hs:UpC D) (hz:∀ c∈D,c.n<512∧c.v.size≤160) (w:World) (hB:B≤w.heap.size) (hD:Ls enC 4 w B A D) :
  Calls Tryz.prog 135 #[.slice A n cap,.int .i64 a,.int .i64 e] w fun e' w'=>e'=.returned (.string ⟨(rdC D a e).toArray⟩)∧Below w.heap.size w w':=by
 obtain⟨m,hmm⟩:∃ m,e-a=m:=⟨_,rfl⟩;have e1:(e:Int)-(a:Int)=(m:Int):=by omega
 have hm9:m≤65536:=by omega
 have hmk:=zeros_make m (by omega) w;have HR0:=hid (heap_alloc_new w (.cells (u8s (List.replicate m 0)).toArray 5));have HB0:=hid (show Below w.heap.size w (w.alloc (.cells (u8s (List.replicate m 0)).toArray 5)) from (Below.refl _ _).alloc (Nat.le_refl _) _);have HM:=hid hmm;have HN:=hid hn;have HD:=hid hD;have HS:=hid hs;have HZ:=hid hz;have HRL:=hid (rdC_len D a e);clear hn hD hs hz hmm;generalize w.alloc _=w1 at *
 go_enter Tryz.func135,Tryz.ntmps135
 go_wp2_with fail
 go_step3
 go_wp2_with fail
 go_step3
 go_wp2_with fail
 go_loopw [18] (fun iv wr=>∃ i:Nat,i≤n∧iv=.int .i64 i∧Hid (wr.heap[w.heap.size]?=some (.cells (u8s (rdC (D.take i) a e)).toArray 5 (0,0)))∧Hid (Below w.heap.size w wr)) (fun iv _=>n-(intOf iv).toNat)
 case atStart=>exact⟨0,Nat.zero_le _,by go_num,(show w1.heap[w.heap.size]?=some (.cells (u8s (rdC (D.take 0) a e)).toArray 5 (0,0)) by rw [List.take_zero,rdC_nil,HM.out];exact HR0.out),HB0.out⟩
 case round =>
  obtain⟨i,hi,rfl,hrow,hbel⟩:=hrel;by_cases hlt:i<n
  ·obtain⟨c,hc⟩:∃ c,D[i]?=some c:=⟨_,List.getElem?_eq_getElem (by rw [← HN.out];exact hlt)⟩;obtain⟨hc512,hv160⟩:=HZ.out c (List.mem_of_getElem? hc);obtain⟨b,o,hAe,hb,hr⟩:=(HD.out.below ((Hid.out hbel).mono hB)) i c hc;have hbl:b<wr.heap.size:=Nat.lt_of_lt_of_le hb (Nat.le_trans hB (Hid.out hbel).size);have hc0:wr.cell? ⟨b,o+i*4,none⟩=some (.int .u32 c.n):=hr 0 _ rfl;have hc1:wr.cell? ⟨b,o+i*4+1,none⟩=some (.string c.k):=hr 1 _ rfl;have hc2:wr.cell? ⟨b,o+i*4+2,none⟩=some (.bool c.h):=hr 2 _ rfl;have hc3:wr.cell? ⟨b,o+i*4+3,none⟩=some (.string c.v):=hr 3 _ rfl;have HC:=hid hc;have HV:=hid (show c.v.size≤maxLen by unfold maxLen;omega);obtain⟨f,hf⟩:∃ f,c.n*128=f:=⟨_,rfl⟩;obtain⟨k,hk⟩:∃ k,a-f=k:=⟨_,rfl⟩;have hf9:f<65536:=by omega
   have hkm:max ((a:Int)-(f:Int)) 0=(k:Int):=by omega
   have hk9:k≤a:=by omega
   have HF:=hid hf;have HK:=hid hk;have hbz:=btsB_size c;have hbz9:(btsB c).size≤128:=by omega
   have HFR:=hid (fun w=>from_at c f hf (by omega) w);have HBY:=hid (fun w=>bytes_any c HV.out w);have hal:Below wr.heap.size wr (wr.alloc (.cells (enC c).toArray 237)):=(Below.refl _ _).alloc (Nat.le_refl _) _;have HQ1:=hid (heap_alloc_new wr (.cells (enC c).toArray 237));have HR1:=hid ((hal.block _ (row_lt (Hid.out hrow))).trans (Hid.out hrow));have HB1:=hid ((Hid.out hbel).trans (hal.mono (Hid.out hbel).size));have HG1:=hid (show w.heap.size<wr.heap.size from row_lt (Hid.out hrow));clear hr hc hal hrow hbel hf hk hbz hv160;obtain⟨bb,hbb⟩:∃ bb,btsB c=bb:=⟨_,rfl⟩;rw [hbb] at HBY hbz9;have HBB:=hid hbb;clear hbb;subst hAe
   go_wp2_with (refine wpList_load_row rfl 237 (.tmp 9) rfl wr.heap.size rfl 237 (enC c).toArray (0,0) _ HQ1.out Tryz.underlying237 rfl (infoC4 c) ?_)
   clear hc0 hc1 hc2 hc3;change Calls _ _ _ (wr.alloc (.cells (enC c).toArray 237)) _;generalize wr.alloc _=w2 at *;generalize wr.heap.size=g at *;refine (HBY.out _).mono ?_;rintro e' w3 ⟨rfl,hb3⟩;have HQ3:=hid ((hb3.block _ (row_lt HQ1.out)).trans HQ1.out);have HR3:=hid ((hb3.block _ (row_lt HR1.out)).trans HR1.out);have HB3:=hid (HB1.out.trans (hb3.mono HB1.out.size));clear hb3 HQ1 HR1 HB1 HBY
   go_wp2_with (refine wpList_load_row rfl 237 (.tmp 9) rfl g rfl 237 (enC c).toArray (0,0) _ HQ3.out Tryz.underlying237 rfl (infoC4 c) ?_)
   refine (HFR.out _).mono ?_;rintro e' w4 ⟨rfl,hb4⟩;have HQ4:=hid ((hb4.block _ (row_lt HQ3.out)).trans HQ3.out);have HR4:=hid ((hb4.block _ (row_lt HR3.out)).trans HR3.out);have HB4:=hid (HB3.out.trans (hb4.mono HB3.out.size));clear hb4 HQ3 HR3 HB3
   go_wp2_with (refine wpList_load_row rfl 237 (.tmp 9) rfl g rfl 237 (enC c).toArray (0,0) _ HQ4.out Tryz.underlying237 rfl (infoC4 c) ?_)
   refine (HFR.out _).mono ?_;rintro e' w5 ⟨rfl,hb5⟩;have HQ5:=hid ((hb5.block _ (row_lt HQ4.out)).trans HQ4.out);have HR5:=hid ((hb5.block _ (row_lt HR4.out)).trans HR4.out);have HB5:=hid (HB4.out.trans (hb5.mono HB4.out.size));clear hb5 HQ4 HR4 HB4;by_cases hfe:e≤f
   ·have d1:decide (e≤f)=true:=decide_eq_true hfe;have HX:=hid (show (rdC (D.take i) a e)=rdC D a e from rd_stop HS.out HC.out (by rw [HF.out];exact hfe));have HR:=hid HR5.out;rw [HX.out] at HR;have hcv:=conv_row (rdC D a e) m w.heap.size (by rw [HRL.out,HM.out]) w5 HR.out;generalize hR:rdC D a e=R at *;have HRR:=hid hR;clear hR hfe
    go_wp2_with fail
    rw [Exit.noGoto_ret]
    go_ret
    exact⟨by rw [HRR.out];rfl,HB5.out⟩
   ·have d1:decide (e≤f)=false:=decide_eq_false hfe;by_cases hsk:bb.size≤k
    ·have d2:decide (bb.size≤k)=true:=decide_eq_true hsk;have HX:=hid (show rdC (D.take (i+1)) a e=rdC (D.take i) a e from rd_skip HS.out HC.out (by rw [HBB.out,HF.out,HK.out];exact hsk));clear hsk hfe
     go_wp2_with fail
     exact⟨⟨i+1,by omega,by go_num,(by rw [HX.out];exact HR5.out),HB5.out⟩,by simp [intOf]<;>omega⟩
    ·have d2:decide (bb.size≤k)=false:=decide_eq_false hsk;obtain⟨q,hq⟩:∃ q,f+k-a=q:=⟨_,rfl⟩;have HX:=hid (show cpy (rdC (D.take i) a e) q (e-a-q) ((btsB c).data.toList.drop k)=rdC (D.take (i+1)) a e from rd_step HS.out HC.out HF.out (by omega) hae HK.out (by rw [HBB.out];omega) hq);have hkf:a≤f+k:=by have:=HK.out;omega
     have hqm:q<m:=by have:=HM.out;have:=HK.out;omega
     obtain⟨j,hj⟩:∃ j,f+k=j:=⟨_,rfl⟩;have e7:(f:Int)+(k:Int)=(j:Int):=by omega
     have e3:(j:Int)-(a:Int)=(q:Int):=by omega
     have hj9:j≤200000:=by omega
     have e4:(q:Int)≤(m:Int):=by omega
     have e5:¬ m=q:=by omega
     have e6:(k:Int)≤(bb.size:Int):=by omega
     have HQM:=hid (show q+(m-q)≤(rdC (D.take i) a e).length by rw [rdC_len];have:=HM.out;omega);have HXB:=hid (show (bb.extract k bb.size).data.toList=(btsB c).data.toList.drop k by
      rw [HBB.out,ByteArray.data_extract,Array.toList_extract,List.extract_eq_take_drop,List.take_of_length_le];rw [List.length_drop,Array.length_toList];exact Nat.le_refl _)
     obtain⟨X,hX⟩:∃ X,bb.extract k bb.size=X:=⟨_,rfl⟩;rw [hX] at HXB;clear hq hsk hfe hkf hj;have hw1:IntKind.i64.wrap (j:Int)=(j:Int):=IntWalk.i64_in _ ⟨by omega,by omega⟩;have hw2:IntKind.i64.wrap (q:Int)=(q:Int):=IntWalk.i64_in _ ⟨by omega,by omega⟩
     go_wp2_with fail
     refine wp_region_T (fun w':World=>w'.heap[g]?=some (.cells (enC c).toArray 237 (0,0))) 11 (by kernel_rfl) (by kernel_rfl) ?_;have hS:w5.drew.heap[g]?=some (.cells (enC c).toArray 237 (0,0)):=HQ5.out;refine take_T 0 39 (.slice (some ⟨w.heap.size,0,none⟩) m m) rfl (by rfl) (by kernel_rfl) (by decide) (by kernel_rfl) (by kernel_rfl) (by kernel_rfl) (fun _ _ _ h=>h) (Or.inl ⟨by rfl,fun w' hSw=>by go_simp⟩) hS ?_;simp only [Gb4a,Gb4b,Gb4c];refine take_T 1 40 (.agg (enC c).toArray) rfl (by rfl) (by kernel_rfl) (by decide) (by kernel_rfl) (by kernel_rfl) (by kernel_rfl) (fun _ _ _ h=>h) (Or.inl ⟨by rfl,fun w' hSw=>by exact row_runD 237 rfl g rfl _ _ (0,0) _ hSw Tryz.underlying237 rfl (infoC4 c)⟩) hS ?_;simp only [Gb4a,Gb4b,Gb4c];refine take_T 3 42 (.int .i64 k) rfl (by rfl) (by kernel_rfl) (by decide) (by kernel_rfl) (by kernel_rfl) (by kernel_rfl) (fun _ _ _ h=>h) (Or.inl ⟨by rfl,fun w' hSw=>by go_simp⟩) hS ?_;simp only [Gb4a,Gb4b,Gb4c];refine take_T 5 44 (.int .i64 a) rfl (by rfl) (by kernel_rfl) (by decide) (by kernel_rfl) (by kernel_rfl) (by kernel_rfl) (fun _ _ _ h=>h) (Or.inl ⟨by rfl,fun w' hSw=>by go_simp⟩) hS ?_;simp only [Gb4a,Gb4b,Gb4c];refine take_T 8 47 (.string bb) rfl (by rfl) (by kernel_rfl) (by decide) (by kernel_rfl) (by kernel_rfl) (by kernel_rfl) (fun _ _ _ h=>h) (Or.inl ⟨by rfl,fun w' hSw=>by go_simp⟩) hS ?_;simp only [Gb4a,Gb4b,Gb4c];refine take_T 9 48 (.int .i64 k) rfl (by rfl) (by kernel_rfl) (by decide) (by kernel_rfl) (by kernel_rfl) (by kernel_rfl) (fun _ _ _ h=>h) (Or.inl ⟨by rfl,fun w' hSw=>by go_simp⟩) hS ?_;simp only [Gb4a,Gb4b,Gb4c];refine take_T 10 49 (.string (X)) rfl (by rfl) (by kernel_rfl) (by decide) (by kernel_rfl) (by kernel_rfl) (by kernel_rfl) (fun _ _ _ h=>h) (Or.inl ⟨by rfl,fun w' hSw=>by go_simp⟩) hS ?_;simp only [Gb4a,Gb4b,Gb4c];refine only_T 2 rfl (by kernel_rfl) (by decide) (by rfl) (fun K hK=>?_)
     go_wp2_with fail
     refine (HFR.out _).mono ?_;rintro e' w6 ⟨rfl,hb6⟩;have hb6':Below w5.heap.size w5 w6:=(Below.refl _ _).drew.trans hb6;have HR6:=hid ((hb6'.block _ (row_lt HR5.out)).trans HR5.out);have HB6:=hid (HB5.out.trans (hb6'.mono HB5.out.size));have hS2:w6.heap[g]?=some (.cells (enC c).toArray 237 (0,0)):=(hb6'.block _ (row_lt HQ5.out)).trans HQ5.out;clear hb6 hb6';refine hK.out _ _ hS2 ?_;clear hK K;try simp only [Act.put,Gb4a,Gb4b,Gb4c]
     clear hS;have hS:=hS2;clear hS2;refine take_T 4 43 (.int .i64 (j:Int)) rfl (by rfl) (by kernel_rfl) (by decide) (by kernel_rfl) (by kernel_rfl) (by kernel_rfl) (fun _ _ _ h=>h) (Or.inl ⟨by rfl,fun w' hSw=>by go_simp⟩) hS ?_;simp only [Gb4a,Gb4b,Gb4c];refine take_T 6 45 (.int .i64 (q:Int)) rfl (by rfl) (by kernel_rfl) (by decide) (by kernel_rfl) (by kernel_rfl) (by kernel_rfl) (fun _ _ _ h=>h) (Or.inl ⟨by rfl,fun w' hSw=>by go_simp⟩) hS ?_;simp only [Gb4a,Gb4b,Gb4c];refine take_T 7 46 (.slice (some ⟨w.heap.size,q,none⟩) (m-q) (m-q)) rfl (by rfl) (by kernel_rfl) (by decide) (by kernel_rfl) (by kernel_rfl) (by kernel_rfl) (fun _ _ _ h=>h) (Or.inl ⟨by rfl,fun w' hSw=>by go_simp⟩) hS ?_;simp only [Gb4a,Gb4b,Gb4c];refine done_T (by kernel_rfl) ?_;simp only [List.drop_succ_cons,List.drop_zero];clear hw1 hw2;have HR7:=hid (setRow_heap' (cs:=(u8s (cpy (rdC (D.take i) a e) q (m-q) (X).data.toList)).toArray) HR6.out);have HB7:=hid (grown_row HB6.out (Nat.le_refl _) (u8s (cpy (rdC (D.take i) a e) q (m-q) (X).data.toList)).toArray);have HX7:=hid (show cpy (rdC (D.take i) a e) q (m-q) (X).data.toList=rdC (D.take (i+1)) a e by rw [HXB.out,← HM.out];exact HX.out)
     go_wp2_with (refine wpList_copy_u8 rfl (.tmp 46) (.tmp 49) 116 9 rfl 5 Tryz.underlying116 info8 w.heap.size q (m-q) (m-q) rfl (X) rfl (rdC (D.take i) a e) 5 HR6.out HQM.out ?_;intro v)
     exact⟨⟨i+1,by omega,by go_num,(by rw [← HX7.out];exact HR7.out),HB7.out⟩,by simp [intOf]<;>omega⟩
  ·have HX:=hid (show (rdC (D.take i) a e)=rdC D a e by rw [List.take_of_length_le (by rw [← HN.out];omega)]);have HR:=hid (Hid.out hrow);rw [HX.out] at HR;have hcv:=conv_row (rdC D a e) m w.heap.size (by rw [HRL.out,HM.out]) wr HR.out;have HB:=hid (Hid.out hbel);clear hrow hbel;generalize hR:rdC D a e=R at *;have HRR:=hid hR;clear hR
   go_wp2_with fail
   rw [Exit.noGoto_ret]
   go_ret
   exact⟨by rw [HRR.out];rfl,HB.out⟩
end Go.Proofs.YtopepebcnaikiaaGreatDoor.Da
namespace Go.Proofs.YtopepebcnaikiaaGreatDoor.Da
open Lib (hid)
open Go.ChangeShapes Go.WideShapes Go.ChangeAt Go.RowKit
open Ar Rg
open Pk (u8s u8s_length)
open It (Itm Ch MkC catC)
section
variable {P:Program}{ops:Array Oper}{Q:Exit→Act→World→Prop}{md:Region.Mode}{S:World→Prop}{n:Nat}{L:Array Bool→Act→World→Prop}
theorem two_T {f:Nat}{listed:Array Bool}{tmps:Array Value}{w:World}(i j:Nat){oi oj:Oper}(hi:ops[i]?=some oi) (hj:ops[j]?=some oj) (hr:Region.ready md ops listed=[i,j]) (hin:i<n) (hjn:j<n)
  (hwi:Region.wanted oi (yielded ops tmps)=true) (hwj:Region.wanted oj (yielded ops tmps)=true)
  (h1:∀ K:Act→World→Prop,Shut (∀ a' w',S w'→wpAnyT P md ops Q S n L f (listed.setIfInBounds i true) a' w'→K a' w')→Oper.wp P oi { tmps:=tmps,defers:=[] } w K Q)
  (h2:∀ K:Act→World→Prop,Shut (∀ a' w',S w'→wpAnyT P md ops Q S n L f (listed.setIfInBounds j true) a' w'→K a' w')→Oper.wp P oj { tmps:=tmps,defers:=[] } w K Q) :
  wpAnyT P md ops Q S n L (f+1) listed { tmps:=tmps,defers:=[] } w:=by
 refine⟨fun h0=>(by rw [hr] at h0;cases h0),fun k hk=>?_⟩;rw [hr] at hk;rcases List.mem_cons.1 hk with rfl | hk
 ·refine⟨hin,wpOp_step hi fun K' hK=>?_⟩;rw [if_pos hwi];exact h1 K' (fun a w hS hW=>hK a w ⟨hS,hW⟩)
 ·have hkj:k=j:=by simpa using hk
  subst hkj;refine⟨hjn,wpOp_step hj fun K' hK=>?_⟩;rw [if_pos hwj];exact h2 K' (fun a w hS hW=>hK a w ⟨hS,hW⟩)
end
def WrReg (wr:World) (g:Nat) (c:Ck) (nw:Ch) (s13:Value) (wx:World):Prop:=∃ g',s13=.pointer (some ⟨g',0,none⟩)∧wx.heap[g']?=some (.cells (Sc.enc nw).toArray 138 (0,0))∧wx.heap[g]?=some (.cells (enC c).toArray 237 (0,0))∧Below wr.heap.size wr wx
def eqH (a b:Ch):Bool:=decide (a.k=b.k)&&(a.h==b.h)&&decide (a.v=b.v)
theorem eqH_iff {a b:Ch}:eqH a b=true↔a=b:=by
 obtain⟨k,h,v⟩:=a;obtain⟨k',h',v'⟩:=b;simp [eqH,and_assoc]
def nwC (c:Ck) (a:Nat) (b:List UInt8):Ch:=kpC c.k ⟨(laidL (btsB c).data.toList a b).toArray⟩
def wrL (D:List Ck) (I p:Nat) (b:List UInt8):List Ch :=
 if h:b=[] then [] else
  (if eqH (nwC (fnd D I (p / 128)) (p%128) (b.take (min b.length (128-p%128)))) (akC (fnd D I (p / 128))) then [] else [nwC (fnd D I (p / 128)) (p%128) (b.take (min b.length (128-p%128)))]) ++
   wrL D I (p+min b.length (128-p%128)) (b.drop (min b.length (128-p%128)))
termination_by b.length
decreasing_by
 rw [List.length_drop];have:b.length≠0:=fun e=>h (List.eq_nil_of_length_eq_zero e)
 omega
theorem wrL_nil (D:List Ck) (I p:Nat):wrL D I p []=[]:=by rw [wrL];simp
theorem wrL_go {D:List Ck}{I p:Nat}{b:List UInt8}(h:b≠[]){c:Ck}{q n:Nat}(hc:fnd D I (p / 128)=c) (hq:p%128=q) (hn:min b.length (128-q)=n) :
  wrL D I p b=(if eqH (nwC c q (b.take n)) (akC c) then [] else [nwC c q (b.take n)])++wrL D I (p+n) (b.drop n):=by
 subst hc hq hn;rw [wrL,dif_neg h]
theorem fnd_v {D:List Ck}(hz:∀ c∈D,c.n<512∧c.v.size≤160){I k:Nat}(hk:k<512):(fnd D I k).n<512∧(fnd D I k).v.size≤160:=by
 unfold fnd;cases hf:D.find? fun c=>decide (c.n=k) with
 | none=>exact⟨hk,Nat.zero_le _⟩
 | some c=>exact hz c (List.mem_of_find?_eq_some hf)
theorem laidL_len (t:List UInt8) (a:Nat) (b:List UInt8):(laidL t a b).length=max t.length (a+b.length):=by
 unfold laidL;have h1:(cpy (List.replicate (max t.length (a+b.length)) 0) 0 (max t.length (a+b.length)) t).length=max t.length (a+b.length):=by
  rw [cpy_len (by rw [List.length_replicate];omega),List.length_replicate]
 rw [cpy_len (by rw [h1];omega),h1]
theorem written_any (D:List Ck) (I:Nat) (hI1:1≤I) (hI:I<4294967296) (p0:Nat) (s:ByteArray) (hps:p0+s.size≤65536) (A:Option Addr) (n cap B:Nat) (hn:n=D.length) (hm:n≤281474976710656) (hs:UpC D) (hz:∀ c∈D,c.n<512∧c.v.size≤160) (w:World) (hB:B≤w.heap.size) (hD:Ls enC 4 w B A D) :
  Calls Tryz.prog 140 #[.slice A n cap,.int .u32 I,.int .i64 p0,.string s] w fun e' w'=>∃ v,e'=.returned v∧MkC w w' v (wrL D I p0 s.data.toList):=by
 have HFN:=hid (fun (k:Nat) (hk:k<512) (w1:World) (hb:Below w.heap.size w w1)=>find_any D I k hI1 hI hk A n cap B hn hm hs w1 (Nat.le_trans hB hb.size) (hD.below (hb.mono hB)));have HZ:=hid (fun (k:Nat) (hk:k<512)=>fnd_v hz (I:=I) hk);clear hn hm hs hz hB hD
 go_enter Tryz.func140,Tryz.ntmps140
 go_wp2_with fail
 go_loopw [2,3,9] (fun ov bv av wr=>∃ (p:Nat) (t:ByteArray) (E:List Ch),p+t.size≤65536∧ov=.int .i64 p∧bv=.string t∧Hid (E++wrL D I p t.data.toList=wrL D I p0 s.data.toList)∧Hid (E.length≤p)∧Hid (MkC w wr av E)) (fun _ bv _ _=>match bv with | .string t=>t.size | _=>0)
 case atStart=>exact⟨p0,s,[],hps,by go_num,rfl,rfl,Nat.zero_le _,Mk.nil (Below.refl _ _)⟩
 case round =>
  obtain⟨p,t,E,hpt,rfl,rfl,hE,hEl,hmk⟩:=hrel;by_cases h0:t.size=0
  ·have ht:t.data.toList=[]:=List.eq_nil_of_length_eq_zero (by rw [Array.length_toList];exact h0);have HE:=hid (show E=wrL D I p0 s.data.toList by have h:=Hid.out hE;rwa [ht,wrL_nil,List.append_nil] at h);have HM:=hid (Hid.out hmk);obtain⟨A5,c5,hv5,_⟩:=(Hid.out hmk).ls Sc.enc_len;subst hv5;have s3:=se3 h0;clear hE hEl hmk ht h0
   go_wp2
   go_ret
   exact⟨_,rfl,by rw [← HE.out];exact HM.out⟩
  ·obtain⟨k,hk⟩:∃ k,p / 128=k:=⟨_,rfl⟩;obtain⟨q,hq⟩:∃ q,p%128=q:=⟨_,rfl⟩;obtain⟨nn,hnn⟩:∃ nn,min t.size (128-q)=nn:=⟨_,rfl⟩;obtain⟨c,hc⟩:∃ c,fnd D I k=c:=⟨_,rfl⟩;have hk9:k<512:=by omega
   have hq9:q<128:=by omega
   have hn1:1≤nn:=by omega
   have hn2:nn≤t.size:=by omega
   have hn3:q+nn≤128:=by omega
   have htl:t.data.toList.length=t.size:=by rw [Array.length_toList];rfl
   have hne:t.data.toList≠[]:=fun e=>h0 (by rw [e] at htl;exact htl.symm)
   have HW:=hid (wrL_go (D:=D) (I:=I) (p:=p) (c:=c) (q:=q) (n:=nn) hne (by rw [hk];exact hc) hq (by rw [htl];exact hnn));obtain⟨hcn,hcv⟩:=HZ.out k hk9;rw [hc] at hcn hcv;have HFD:=hid (HFN.out k hk9 wr (Hid.out hmk).2);rw [hc] at HFD;have HFD2:=hid (show Calls Tryz.prog 169 #[.slice A n cap,.int .u32 I,.int .u32 k] wr fun e w'=>e=.returned (.agg #[.int .u32 c.n,.string c.k,.bool c.h,.string c.v])∧Below wr.heap.size wr w' from HFD.out);have i1:(p:Int) / 128=(k:Int):=by omega
   have i2:(p:Int)%128=(q:Int):=by omega
   have i3:min (t.size:Int) (128-(q:Int))=(nn:Int):=by omega
   have i4:IntKind.u32.wrap (k:Int)=(k:Int):=by simp [IntKind.wrap,IntKind.bits,IntKind.signed];omega
   have i5:(nn:Int)≤(t.size:Int):=by omega
   have hp9:p≤65536:=by omega
   have s1:=se1 h0;have s2:=se2 h0;have hbz:=btsB_size c;have HBY:=hid (fun w=>bytes_any c (by unfold maxLen;omega) w);have hxs:(t.extract 0 nn).size=nn:=by simp;omega
   have hxl:(t.extract 0 nn).data.toList=t.data.toList.take nn:=by
    rw [ByteArray.data_extract,Array.toList_extract,List.extract_eq_take_drop];simp
   have HLD:=hid (fun w=>laid_any (btsB c) q (t.extract 0 nn) (by omega) (by omega) (by omega) (by omega) w);rw [hxl] at HLD;have hyl:=laidL_len (btsB c).data.toList q (t.data.toList.take nn);have hbl:(btsB c).data.toList.length=(btsB c).size:=by rw [Array.length_toList];rfl
   rw [hbl,List.length_take,htl] at hyl;have hys:(⟨(laidL (btsB c).data.toList q (t.data.toList.take nn)).toArray⟩:ByteArray).size≤9223372036854775807:=by
    show (laidL (btsB c).data.toList q (t.data.toList.take nn)).toArray.size≤_
    rw [List.size_toArray,hyl];omega
   have HKP:=hid (fun w=>keep_any c.k ⟨(laidL (btsB c).data.toList q (t.data.toList.take nn)).toArray⟩ hys w);rw [show kpC c.k ⟨(laidL (btsB c).data.toList q (t.data.toList.take nn)).toArray⟩=nwC c q (t.data.toList.take nn) from rfl] at HKP;have HAK:=hid (fun w=>asKept_any c w);obtain⟨nw,hnw⟩:∃ nw,nwC c q (t.data.toList.take nn)=nw:=⟨_,rfl⟩;rw [hnw] at HKP HW;have HKE:=hid (show nw.k=c.k by rw [← hnw];rfl);obtain⟨bb,hbb⟩:∃ bb,btsB c=bb:=⟨_,rfl⟩;rw [hbb] at HBY HLD HKP;obtain⟨yy,hyy⟩:∃ yy,(⟨(laidL bb.data.toList q (t.data.toList.take nn)).toArray⟩:ByteArray)=yy:=⟨_,rfl⟩;rw [hyy] at HLD HKP;obtain⟨xx,hxx⟩:∃ xx,t.extract 0 nn=xx:=⟨_,rfl⟩;rw [hxx] at HLD;have HXX:=hid hxx;have HDR:=hid (show (t.extract nn t.size).data.toList=t.data.toList.drop nn by
    rw [ByteArray.data_extract,Array.toList_extract,List.extract_eq_take_drop,List.take_of_length_le];rw [List.length_drop,htl];exact Nat.le_refl _)
   have HDS:=hid (show (t.extract nn t.size).size=t.size-nn by simp);have HM:=hid (Hid.out hmk);have HE:=hid (Hid.out hE);have HEL:=hid (show E.length+1≤p+nn by have:=Hid.out hEl;omega);have HNE:=hid h0;clear hE hEl hmk hc hk hq hnn hnw hbb hyy hxl hxs hbl htl hne hyl hys hbz hxx h0 HFD hcn hcv
   go_upto_region 6 with (go_at_call 169;refine HFD2.out.mono ?_;rintro e' w3 ⟨rfl,hb3⟩;have HB3:=hid hb3;have HQ3:=hid (heap_alloc_new w3 (.cells #[.int .u32 c.n,.string c.k,.bool c.h,.string c.v] 237));clear hb3)
   rw [i2];have HW4:=hid (HB3.out.trans (((Below.refl w3.heap.size w3).alloc (Nat.le_refl _) (.cells #[.int .u32 c.n,.string c.k,.bool c.h,.string c.v] 237)).mono HB3.out.size));have HGW:=hid (show wr.heap.size≤w3.heap.size from HB3.out.size);generalize w3.alloc _=w4 at *;generalize w3.heap.size=g at *;clear HB3 i1 i2
   go_cut [13] from 14 to 52 (fun s13 wx=>Hid (WrReg wr g c nw s13 wx))
   case first =>
    refine wp_region_T (fun w':World=>w'.heap[g]?=some (.cells (enC c).toArray 237 (0,0))) 11 (by kernel_rfl) (by kernel_rfl) ?_;have hS:w4.drew.heap[g]?=some (.cells (enC c).toArray 237 (0,0)):=HQ3.out;have HBD:=hid (show Below wr.heap.size wr w4.drew from HW4.out.drew);have HGG:=hid (row_lt hS);refine take_T 0 29 (.pointer (some ⟨g,1,none⟩)) rfl (by rfl) (by kernel_rfl) (by decide) (by kernel_rfl) (by kernel_rfl) (by kernel_rfl) (fun _ _ _ h=>h) (Or.inl ⟨by rfl,fun w' hSw=>by go_simp⟩) hS ?_;simp only [Gb4a,Gb4b,Gb4c];refine take_T 1 30 (.string c.k) rfl (by rfl) (by kernel_rfl) (by decide) (by kernel_rfl) (by kernel_rfl) (by kernel_rfl) (fun _ _ _ h=>h) (Or.inl ⟨by rfl,fun w' hSw=>by have r:=cell_of_row _ _ 1 _ _ _ hSw;simp only [enC] at r;go_simp⟩) hS ?_;simp only [Gb4a,Gb4b,Gb4c];refine take_T 2 31 (.agg (enC c).toArray) rfl (by rfl) (by kernel_rfl) (by decide) (by kernel_rfl) (by kernel_rfl) (by kernel_rfl) (fun _ _ _ h=>h) (Or.inl ⟨by rfl,fun w' hSw=>by exact row_runD 237 rfl g rfl _ _ (0,0) _ hSw Tryz.underlying237 rfl (infoC4 c)⟩) hS ?_;simp only [Gb4a,Gb4b,Gb4c];refine take_T 4 33 (.int .i64 (q:Int)) rfl (by rfl) (by kernel_rfl) (by decide) (by kernel_rfl) (by kernel_rfl) (by kernel_rfl) (fun _ _ _ h=>h) (Or.inl ⟨by rfl,fun w' hSw=>by go_simp⟩) hS ?_;simp only [Gb4a,Gb4b,Gb4c];refine take_T 5 34 (.string t) rfl (by rfl) (by kernel_rfl) (by decide) (by kernel_rfl) (by kernel_rfl) (by kernel_rfl) (fun _ _ _ h=>h) (Or.inl ⟨by rfl,fun w' hSw=>by go_simp⟩) hS ?_;simp only [Gb4a,Gb4b,Gb4c];refine take_T 6 35 (.int .i64 (nn:Int)) rfl (by rfl) (by kernel_rfl) (by decide) (by kernel_rfl) (by kernel_rfl) (by kernel_rfl) (fun _ _ _ h=>h) (Or.inl ⟨by rfl,fun w' hSw=>by go_simp⟩) hS ?_;simp only [Gb4a,Gb4b,Gb4c];refine take_T 7 36 (.string xx) rfl (by rfl) (by kernel_rfl) (by decide) (by kernel_rfl) (by kernel_rfl) (by kernel_rfl) (fun _ _ _ h=>h) (Or.inl ⟨by rfl,fun w' hSw=>by have hx:=HXX.out;go_simp⟩) hS ?_;simp only [Gb4a,Gb4b,Gb4c];generalize w4.drew=v0 at *;refine two_T 3 10 rfl rfl (by kernel_rfl) (by decide) (by decide) (by rfl) (by rfl) (fun K hK=>?_) (fun K hK=>?_)
    ·go_wp2_with fail
     refine (HBY.out _).mono ?_;rintro e' v1 ⟨rfl,hb⟩;have HBD1:=hid (HBD.out.trans (hb.mono HBD.out.size));have hS2:v1.heap[g]?=some (.cells (enC c).toArray 237 (0,0)):=(hb.block _ (row_lt hS)).trans hS;clear hb;refine hK.out _ _ hS2 ?_;clear hK K;try simp only [Act.put,Gb4a,Gb4b,Gb4c]
     clear hS;have hS:=hS2;clear hS2;refine two_T 8 10 rfl rfl (by kernel_rfl) (by decide) (by decide) (by rfl) (by rfl) (fun K hK=>?_) (fun K hK=>?_)
     ·go_wp2_with fail
      refine (HLD.out _).mono ?_;rintro e' v2 ⟨rfl,hb⟩;have HBD2:=hid (HBD1.out.trans (hb.mono HBD1.out.size));have hS2:v2.heap[g]?=some (.cells (enC c).toArray 237 (0,0)):=(hb.block _ (row_lt hS)).trans hS;clear hb;refine hK.out _ _ hS2 ?_;clear hK K;try simp only [Act.put,Gb4a,Gb4b,Gb4c]
      clear hS;have hS:=hS2;clear hS2;refine two_T 9 10 rfl rfl (by kernel_rfl) (by decide) (by decide) (by rfl) (by rfl) (fun K hK=>?_) (fun K hK=>?_)
      ·go_wp2_with fail
       refine (HKP.out _).mono ?_;rintro e' v3 ⟨rfl,hb⟩;have HBD3:=hid (HBD2.out.trans (hb.mono HBD2.out.size));have hS2:v3.heap[g]?=some (.cells (enC c).toArray 237 (0,0)):=(hb.block _ (row_lt hS)).trans hS;clear hb;refine hK.out _ _ hS2 ?_;clear hK K;try simp only [Act.put,Gb4a,Gb4b,Gb4c]
       clear hS;have hS:=hS2;clear hS2;refine only_T 10 rfl (by kernel_rfl) (by decide) (by rfl) (fun K hK=>?_);have hb:Below v3.heap.size v3 (v3.alloc (.cells #[.string ⟨#[]⟩,.bool false,.string ⟨#[]⟩] 138)):=(Below.refl _ _).alloc (Nat.le_refl _) _;have HA4:=hid (heap_alloc_new v3 (.cells #[.string ⟨#[]⟩,.bool false,.string ⟨#[]⟩] 138));have HGA:=hid (show wr.heap.size≤v3.heap.size from HBD3.out.size);have HNE2:=hid (show g≠v3.heap.size from Nat.ne_of_lt (row_lt hS));have HBD4:=hid (HBD3.out.trans (hb.mono HBD3.out.size));have hS2:(v3.alloc (.cells #[.string ⟨#[]⟩,.bool false,.string ⟨#[]⟩] 138)).heap[g]?=some (.cells (enC c).toArray 237 (0,0)):=(hb.block _ (row_lt hS)).trans hS
       go_simp
       clear hb;generalize v3.alloc _=v4 at *;generalize v3.heap.size=ga at *;refine hK.out _ _ hS2 ?_;clear hK K;try simp only [Act.put,Gb4a,Gb4b,Gb4c]
       clear hS;have hS:=hS2;clear hS2;refine done_T (by kernel_rfl) ?_;simp only [List.drop_succ_cons,List.drop_zero];have HF:=hid (setRow_heap' (cs:=(Sc.enc nw).toArray) HA4.out);have HG:=hid (show (v4.setRow ga (Sc.enc nw).toArray).heap[g]?=some (.cells (enC c).toArray 237 (0,0)) from (setRow_other v4 ga g _ HNE2.out).trans hS);have HH:=hid (grown_row HBD4.out HGA.out (Sc.enc nw).toArray)
       go_wp2_with (refine wpList_store_row rfl 138 (.tmp 13) (.tmp 38) rfl ga (Sc.enc nw).toArray rfl rfl 138 #[.string ⟨#[]⟩,.bool false,.string ⟨#[]⟩] HA4.out (infoH3 nw) rfl (all_oneCell_toArray (Sc.enc_one nw)) ?_)
       go_meet
       exact⟨ga,rfl,HF.out,HG.out,HH.out⟩
      ·have hb:Below v2.heap.size v2 (v2.alloc (.cells #[.string ⟨#[]⟩,.bool false,.string ⟨#[]⟩] 138)):=(Below.refl _ _).alloc (Nat.le_refl _) _;have HA5:=hid (heap_alloc_new v2 (.cells #[.string ⟨#[]⟩,.bool false,.string ⟨#[]⟩] 138));have HGA:=hid (show wr.heap.size≤v2.heap.size from HBD2.out.size);have HNE2:=hid (show g≠v2.heap.size from Nat.ne_of_lt (row_lt hS));have HBD5:=hid (HBD2.out.trans (hb.mono HBD2.out.size));have hS2:(v2.alloc (.cells #[.string ⟨#[]⟩,.bool false,.string ⟨#[]⟩] 138)).heap[g]?=some (.cells (enC c).toArray 237 (0,0)):=(hb.block _ (row_lt hS)).trans hS
       go_simp
       clear hb;generalize v2.alloc _=v5 at *;generalize v2.heap.size=ga at *;refine hK.out _ _ hS2 ?_;clear hK K;try simp only [Act.put,Gb4a,Gb4b,Gb4c]
       clear hS;have hS:=hS2;clear hS2;refine only_T 9 rfl (by kernel_rfl) (by decide) (by rfl) (fun K hK=>?_)
       go_wp2_with fail
       refine (HKP.out _).mono ?_;rintro e' v6 ⟨rfl,hb⟩;have HBD6:=hid (HBD5.out.trans (hb.mono HBD5.out.size));have hS2:v6.heap[g]?=some (.cells (enC c).toArray 237 (0,0)):=(hb.block _ (row_lt hS)).trans hS;have HA6:=hid ((hb.block _ (row_lt HA5.out)).trans HA5.out);clear hb;refine hK.out _ _ hS2 ?_;clear hK K;try simp only [Act.put,Gb4a,Gb4b,Gb4c]
       clear hS;have hS:=hS2;clear hS2;refine done_T (by kernel_rfl) ?_;simp only [List.drop_succ_cons,List.drop_zero];have HF:=hid (setRow_heap' (cs:=(Sc.enc nw).toArray) HA6.out);have HG:=hid (show (v6.setRow ga (Sc.enc nw).toArray).heap[g]?=some (.cells (enC c).toArray 237 (0,0)) from (setRow_other v6 ga g _ HNE2.out).trans hS);have HH:=hid (grown_row HBD6.out HGA.out (Sc.enc nw).toArray)
       go_wp2_with (refine wpList_store_row rfl 138 (.tmp 13) (.tmp 38) rfl ga (Sc.enc nw).toArray rfl rfl 138 #[.string ⟨#[]⟩,.bool false,.string ⟨#[]⟩] HA6.out (infoH3 nw) rfl (all_oneCell_toArray (Sc.enc_one nw)) ?_)
       go_meet
       exact⟨ga,rfl,HF.out,HG.out,HH.out⟩
     ·have hb:Below v1.heap.size v1 (v1.alloc (.cells #[.string ⟨#[]⟩,.bool false,.string ⟨#[]⟩] 138)):=(Below.refl _ _).alloc (Nat.le_refl _) _;have HA7:=hid (heap_alloc_new v1 (.cells #[.string ⟨#[]⟩,.bool false,.string ⟨#[]⟩] 138));have HGA:=hid (show wr.heap.size≤v1.heap.size from HBD1.out.size);have HNE2:=hid (show g≠v1.heap.size from Nat.ne_of_lt (row_lt hS));have HBD7:=hid (HBD1.out.trans (hb.mono HBD1.out.size));have hS2:(v1.alloc (.cells #[.string ⟨#[]⟩,.bool false,.string ⟨#[]⟩] 138)).heap[g]?=some (.cells (enC c).toArray 237 (0,0)):=(hb.block _ (row_lt hS)).trans hS
      go_simp
      clear hb;generalize v1.alloc _=v7 at *;generalize v1.heap.size=ga at *;refine hK.out _ _ hS2 ?_;clear hK K;try simp only [Act.put,Gb4a,Gb4b,Gb4c]
      clear hS;have hS:=hS2;clear hS2;refine only_T 8 rfl (by kernel_rfl) (by decide) (by rfl) (fun K hK=>?_)
      go_wp2_with fail
      refine (HLD.out _).mono ?_;rintro e' v8 ⟨rfl,hb⟩;have HBD8:=hid (HBD7.out.trans (hb.mono HBD7.out.size));have hS2:v8.heap[g]?=some (.cells (enC c).toArray 237 (0,0)):=(hb.block _ (row_lt hS)).trans hS;have HA8:=hid ((hb.block _ (row_lt HA7.out)).trans HA7.out);clear hb;refine hK.out _ _ hS2 ?_;clear hK K;try simp only [Act.put,Gb4a,Gb4b,Gb4c]
      clear hS;have hS:=hS2;clear hS2;refine only_T 9 rfl (by kernel_rfl) (by decide) (by rfl) (fun K hK=>?_)
      go_wp2_with fail
      refine (HKP.out _).mono ?_;rintro e' v9 ⟨rfl,hb⟩;have HBD9:=hid (HBD8.out.trans (hb.mono HBD8.out.size));have hS2:v9.heap[g]?=some (.cells (enC c).toArray 237 (0,0)):=(hb.block _ (row_lt hS)).trans hS;have HA9:=hid ((hb.block _ (row_lt HA8.out)).trans HA8.out);clear hb;refine hK.out _ _ hS2 ?_;clear hK K;try simp only [Act.put,Gb4a,Gb4b,Gb4c]
      clear hS;have hS:=hS2;clear hS2;refine done_T (by kernel_rfl) ?_;simp only [List.drop_succ_cons,List.drop_zero];have HF:=hid (setRow_heap' (cs:=(Sc.enc nw).toArray) HA9.out);have HG:=hid (show (v9.setRow ga (Sc.enc nw).toArray).heap[g]?=some (.cells (enC c).toArray 237 (0,0)) from (setRow_other v9 ga g _ HNE2.out).trans hS);have HH:=hid (grown_row HBD9.out HGA.out (Sc.enc nw).toArray)
      go_wp2_with (refine wpList_store_row rfl 138 (.tmp 13) (.tmp 38) rfl ga (Sc.enc nw).toArray rfl rfl 138 #[.string ⟨#[]⟩,.bool false,.string ⟨#[]⟩] HA9.out (infoH3 nw) rfl (all_oneCell_toArray (Sc.enc_one nw)) ?_)
      go_meet
      exact⟨ga,rfl,HF.out,HG.out,HH.out⟩
    ·have hb:Below v0.heap.size v0 (v0.alloc (.cells #[.string ⟨#[]⟩,.bool false,.string ⟨#[]⟩] 138)):=(Below.refl _ _).alloc (Nat.le_refl _) _;have HA10:=hid (heap_alloc_new v0 (.cells #[.string ⟨#[]⟩,.bool false,.string ⟨#[]⟩] 138));have HGA:=hid (show wr.heap.size≤v0.heap.size from HBD.out.size);have HNE2:=hid (show g≠v0.heap.size from Nat.ne_of_lt (row_lt hS));have HBD10:=hid (HBD.out.trans (hb.mono HBD.out.size));have hS2:(v0.alloc (.cells #[.string ⟨#[]⟩,.bool false,.string ⟨#[]⟩] 138)).heap[g]?=some (.cells (enC c).toArray 237 (0,0)):=(hb.block _ (row_lt hS)).trans hS
     go_simp
     clear hb;generalize v0.alloc _=v10 at *;generalize v0.heap.size=ga at *;refine hK.out _ _ hS2 ?_;clear hK K;try simp only [Act.put,Gb4a,Gb4b,Gb4c]
     clear hS;have hS:=hS2;clear hS2;refine only_T 3 rfl (by kernel_rfl) (by decide) (by rfl) (fun K hK=>?_)
     go_wp2_with fail
     refine (HBY.out _).mono ?_;rintro e' v11 ⟨rfl,hb⟩;have HBD11:=hid (HBD10.out.trans (hb.mono HBD10.out.size));have hS2:v11.heap[g]?=some (.cells (enC c).toArray 237 (0,0)):=(hb.block _ (row_lt hS)).trans hS;have HA11:=hid ((hb.block _ (row_lt HA10.out)).trans HA10.out);clear hb;refine hK.out _ _ hS2 ?_;clear hK K;try simp only [Act.put,Gb4a,Gb4b,Gb4c]
     clear hS;have hS:=hS2;clear hS2;refine only_T 8 rfl (by kernel_rfl) (by decide) (by rfl) (fun K hK=>?_)
     go_wp2_with fail
     refine (HLD.out _).mono ?_;rintro e' v12 ⟨rfl,hb⟩;have HBD12:=hid (HBD11.out.trans (hb.mono HBD11.out.size));have hS2:v12.heap[g]?=some (.cells (enC c).toArray 237 (0,0)):=(hb.block _ (row_lt hS)).trans hS;have HA12:=hid ((hb.block _ (row_lt HA11.out)).trans HA11.out);clear hb;refine hK.out _ _ hS2 ?_;clear hK K;try simp only [Act.put,Gb4a,Gb4b,Gb4c]
     clear hS;have hS:=hS2;clear hS2;refine only_T 9 rfl (by kernel_rfl) (by decide) (by rfl) (fun K hK=>?_)
     go_wp2_with fail
     refine (HKP.out _).mono ?_;rintro e' v13 ⟨rfl,hb⟩;have HBD13:=hid (HBD12.out.trans (hb.mono HBD12.out.size));have hS2:v13.heap[g]?=some (.cells (enC c).toArray 237 (0,0)):=(hb.block _ (row_lt hS)).trans hS;have HA13:=hid ((hb.block _ (row_lt HA12.out)).trans HA12.out);clear hb;refine hK.out _ _ hS2 ?_;clear hK K;try simp only [Act.put,Gb4a,Gb4b,Gb4c]
     clear hS;have hS:=hS2;clear hS2;refine done_T (by kernel_rfl) ?_;simp only [List.drop_succ_cons,List.drop_zero];have HF:=hid (setRow_heap' (cs:=(Sc.enc nw).toArray) HA13.out);have HG:=hid (show (v13.setRow ga (Sc.enc nw).toArray).heap[g]?=some (.cells (enC c).toArray 237 (0,0)) from (setRow_other v13 ga g _ HNE2.out).trans hS);have HH:=hid (grown_row HBD13.out HGA.out (Sc.enc nw).toArray)
     go_wp2_with (refine wpList_store_row rfl 138 (.tmp 13) (.tmp 38) rfl ga (Sc.enc nw).toArray rfl rfl 138 #[.string ⟨#[]⟩,.bool false,.string ⟨#[]⟩] HA13.out (infoH3 nw) rfl (all_oneCell_toArray (Sc.enc_one nw)) ?_)
     go_meet
     exact⟨ga,rfl,HF.out,HG.out,HH.out⟩
   case rest =>
    obtain⟨ga,hs13,hra,hrc,hbw⟩:=Hid.out hcut;subst hs13;have HRA:=hid hra;have HRC:=hid hrc;have HM2:=hid (HM.out.go hbw);obtain⟨nk,nh,nv⟩:=nw;have hkk:nk=c.k:=HKE.out;subst hkk;have l1:=row_lt hra;have l2:=row_lt hrc;clear hcut hra hrc hbw HW4 HGW HM HKE HKP HLD HBY HFD2 HQ3;have HW2:Hid _:=HW;have hpnn:p+nn≤65536:=by omega
    have j5:(nn:Int)≤(t.size:Int):=by omega
    have HIR:=hid (infoH3 (⟨c.k,nh,nv⟩:Ch));by_cases hh:nh=c.h
    ·subst hh;by_cases hv:nv=c.v
     ·subst hv;have HQ:=hid (show (if eqH (⟨c.k,c.h,c.v⟩:Ch) (akC c) then ([]:List Ch) else [⟨c.k,c.h,c.v⟩])=[] by rw [show eqH (⟨c.k,c.h,c.v⟩:Ch) (akC c)=true from eqH_iff.2 rfl];rfl)
      go_wp2_with fail
      refine wp_region_G (fun w'=>Below wc.heap.size wc w') (by kernel_rfl) (by kernel_rfl) (Below.refl _ _).drew ?_;refine wpG_val (.agg (Sc.enc (⟨c.k,c.h,c.v⟩:Ch)).toArray) rfl (by rfl) (fun w' hSw=>by have r:=(hSw.block _ l1).trans HRA.out;exact row_runD 138 rfl ga rfl _ _ (0,0) _ r Tryz.underlying138 rfl HIR.out) ?_;simp only [Gb4a,Gb4b,Gb4c];refine wpG_val (.agg (enC c).toArray) rfl (by rfl) (fun w' hSw=>by have r:=(hSw.block _ l2).trans HRC.out;exact row_runD 237 rfl g rfl _ _ (0,0) _ r Tryz.underlying237 rfl (infoC4 c)) ?_;simp only [Gb4a,Gb4b,Gb4c];refine wpG_call (.agg (Sc.enc (akC c)).toArray) 172 #[.agg (enC c).toArray] rfl (by rfl) (fun w'=>by go_simp) (fun w' hSw=>(HAK.out w').mono fun e w2 h=>⟨h.1,hSw.trans (h.2.mono hSw.size)⟩) ?_;simp only [Gb4a,Gb4b,Gb4c];refine wpG_val (.bool false) rfl (by rfl) (fun w' hSw=>by simp only [Sc.enc,akC];go_simp) ?_;simp only [Gb4a,Gb4b,Gb4c];refine wpG_nil ?_;intro wS hSw;have HMS:=hid (HM2.out.go hSw);have HRS:=hid (show wS.heap[ga]?=some (.cells #[.string c.k,.bool c.h,.string c.v] 138 (0,0)) from (hSw.block _ l1).trans HRA.out);clear hSw;have HEN:=hid (show E++wrL D I (p+nn) (t.extract nn t.size).data.toList=wrL D I p0 s.data.toList by rw [HDR.out,← HE.out,HW.out,HQ.out]<;>rfl);have HLN:=hid (show E.length≤p+nn by have:=HEL.out;omega)
      go_wp2_with fail
      exact⟨⟨p+nn,_,_,(by rw [HDS.out];omega),by go_num,rfl,HEN.out,HLN.out,HMS.out⟩,by show (t.extract nn t.size).size<t.size;rw [HDS.out];omega⟩
     ·have HQ:=hid (show (if eqH (⟨c.k,c.h,nv⟩:Ch) (akC c) then ([]:List Ch) else [⟨c.k,c.h,nv⟩])=[⟨c.k,c.h,nv⟩] by rw [if_neg (fun e=>hv (by have:=eqH_iff.1 e;unfold akC at this;injection this))]);have sv:(nv.toList==c.v.toList)=false:=by
       rw [beq_eq_false_iff_ne,ByteArray.toList_eq,ByteArray.toList_eq];exact fun e=>hv (ByteArray.ext (Array.toList_inj.1 e))
      clear hv
      go_wp2_with fail
      refine wp_region_G (fun w'=>Below wc.heap.size wc w') (by kernel_rfl) (by kernel_rfl) (Below.refl _ _).drew ?_;refine wpG_val (.agg (Sc.enc (⟨c.k,c.h,nv⟩:Ch)).toArray) rfl (by rfl) (fun w' hSw=>by have r:=(hSw.block _ l1).trans HRA.out;exact row_runD 138 rfl ga rfl _ _ (0,0) _ r Tryz.underlying138 rfl HIR.out) ?_;simp only [Gb4a,Gb4b,Gb4c];refine wpG_val (.agg (enC c).toArray) rfl (by rfl) (fun w' hSw=>by have r:=(hSw.block _ l2).trans HRC.out;exact row_runD 237 rfl g rfl _ _ (0,0) _ r Tryz.underlying237 rfl (infoC4 c)) ?_;simp only [Gb4a,Gb4b,Gb4c];refine wpG_call (.agg (Sc.enc (akC c)).toArray) 172 #[.agg (enC c).toArray] rfl (by rfl) (fun w'=>by go_simp) (fun w' hSw=>(HAK.out w').mono fun e w2 h=>⟨h.1,hSw.trans (h.2.mono hSw.size)⟩) ?_;simp only [Gb4a,Gb4b,Gb4c];refine wpG_val (.bool true) rfl (by rfl) (fun w' hSw=>by simp only [Sc.enc,akC];go_simp) ?_;simp only [Gb4a,Gb4b,Gb4c];refine wpG_nil ?_;intro wS hSw;have HMS:=hid (HM2.out.go hSw);have HRS:=hid (show wS.heap[ga]?=some (.cells #[.string c.k,.bool c.h,.string nv] 138 (0,0)) from (hSw.block _ l1).trans HRA.out);clear hSw;have HEN:=hid (show (E++[(⟨c.k,c.h,nv⟩:Ch)])++wrL D I (p+nn) (t.extract nn t.size).data.toList=wrL D I p0 s.data.toList by rw [HDR.out,List.append_assoc,← HE.out,HW.out,HQ.out]<;>rfl);have HLN:=hid (show (E++[(⟨c.k,c.h,nv⟩:Ch)]).length≤p+nn by rw [List.length_append];exact HEL.out);have HDL:=hid (show E.length+1≤3518437208883 by have:=HEL.out;omega)
      go_wp2_with (first|(refine wpList_load_row rfl 138 (.tmp 13) rfl ga rfl 138 #[.string c.k,.bool c.h,.string nv] (0,0) _ HRS.out Tryz.underlying138 rfl HIR.out ?_)|(at_builtin;refine catC (HMS.out.alloc _) [(⟨c.k,c.h,nv⟩:Ch)] _ 1 1 rfl (Ls.new _ (⟨c.k,c.h,nv⟩:Ch) _ _ (Nat.lt_succ_self _)) HDL.out rfl _ _ rfl rfl rfl ?_;intro v5 w5 hM5 hG5;have HM5:=hid hM5;clear hM5 hG5))
      exact⟨⟨p+nn,_,_,(by rw [HDS.out];omega),by go_num,rfl,HEN.out,HLN.out,HM5.out⟩,by show (t.extract nn t.size).size<t.size;rw [HDS.out];omega⟩
    ·have HQ:=hid (show (if eqH (⟨c.k,nh,nv⟩:Ch) (akC c) then ([]:List Ch) else [⟨c.k,nh,nv⟩])=[⟨c.k,nh,nv⟩] by rw [if_neg (fun e=>hh (by have:=eqH_iff.1 e;unfold akC at this;injection this))]);have sh:(nh==c.h)=false:=by rw [beq_eq_false_iff_ne];exact hh
     clear hh
     go_wp2_with fail
     refine wp_region_G (fun w'=>Below wc.heap.size wc w') (by kernel_rfl) (by kernel_rfl) (Below.refl _ _).drew ?_;refine wpG_val (.agg (Sc.enc (⟨c.k,nh,nv⟩:Ch)).toArray) rfl (by rfl) (fun w' hSw=>by have r:=(hSw.block _ l1).trans HRA.out;exact row_runD 138 rfl ga rfl _ _ (0,0) _ r Tryz.underlying138 rfl HIR.out) ?_;simp only [Gb4a,Gb4b,Gb4c];refine wpG_val (.agg (enC c).toArray) rfl (by rfl) (fun w' hSw=>by have r:=(hSw.block _ l2).trans HRC.out;exact row_runD 237 rfl g rfl _ _ (0,0) _ r Tryz.underlying237 rfl (infoC4 c)) ?_;simp only [Gb4a,Gb4b,Gb4c];refine wpG_call (.agg (Sc.enc (akC c)).toArray) 172 #[.agg (enC c).toArray] rfl (by rfl) (fun w'=>by go_simp) (fun w' hSw=>(HAK.out w').mono fun e w2 h=>⟨h.1,hSw.trans (h.2.mono hSw.size)⟩) ?_;simp only [Gb4a,Gb4b,Gb4c];refine wpG_val (.bool true) rfl (by rfl) (fun w' hSw=>by simp only [Sc.enc,akC];go_simp) ?_;simp only [Gb4a,Gb4b,Gb4c];refine wpG_nil ?_;intro wS hSw;have HMS:=hid (HM2.out.go hSw);have HRS:=hid (show wS.heap[ga]?=some (.cells #[.string c.k,.bool nh,.string nv] 138 (0,0)) from (hSw.block _ l1).trans HRA.out);clear hSw;have HEN:=hid (show (E++[(⟨c.k,nh,nv⟩:Ch)])++wrL D I (p+nn) (t.extract nn t.size).data.toList=wrL D I p0 s.data.toList by rw [HDR.out,List.append_assoc,← HE.out,HW.out,HQ.out]<;>rfl);have HLN:=hid (show (E++[(⟨c.k,nh,nv⟩:Ch)]).length≤p+nn by rw [List.length_append];exact HEL.out);have HDL:=hid (show E.length+1≤3518437208883 by have:=HEL.out;omega)
     go_wp2_with (first|(refine wpList_load_row rfl 138 (.tmp 13) rfl ga rfl 138 #[.string c.k,.bool nh,.string nv] (0,0) _ HRS.out Tryz.underlying138 rfl HIR.out ?_)|(at_builtin;refine catC (HMS.out.alloc _) [(⟨c.k,nh,nv⟩:Ch)] _ 1 1 rfl (Ls.new _ (⟨c.k,nh,nv⟩:Ch) _ _ (Nat.lt_succ_self _)) HDL.out rfl _ _ rfl rfl rfl ?_;intro v5 w5 hM5 hG5;have HM5:=hid hM5;clear hM5 hG5))
     exact⟨⟨p+nn,_,_,(by rw [HDS.out];omega),by go_num,rfl,HEN.out,HLN.out,HM5.out⟩,by show (t.extract nn t.size).size<t.size;rw [HDS.out];omega⟩
end Go.Proofs.YtopepebcnaikiaaGreatDoor.Da
