import Derived.Test.YtopepebcnaikiaaGreatDoorGb1
import Derived.Test.YtopepebcnaikiaaGreatDoorGb2
import Derived.Test.YtopepebcnaikiaaGreatDoorGb3
import Derived.Test.YtopepebcnaikiaaGreatDoorGb4
import Derived.Deep.Slices
import Derived.ChangeArms
import Derived.Lib.SmallJoins
import Derived.JoinedCond
import Derived.LaidLaws
import Derived.Handed
set_option maxRecDepth 100000
set_option maxHeartbeats 20000000
set_option linter.unusedVariables false
set_option linter.unusedSimpArgs false
set_option maxRecDepth 100000
namespace Go.Proofs.YtopepebcnaikiaaGreatDoor
theorem Gb5a {α:Type}(l:List α)(i:Nat)(x:α):l.toArray.setIfInBounds i x=(l.set i x).toArray:=List.setIfInBounds_toArray ..
theorem Gb5b {α:Type}{a b:α}{l:List α}:(a::l).set 0 b=b::l:=List.set_cons_zero
theorem Gb5c {α:Type}{a b:α}{l:List α}{n:Nat}:(a::l).set (n+1) b=a::l.set n b:=List.set_cons_succ
end Go.Proofs.YtopepebcnaikiaaGreatDoor
namespace Go.Proofs.YtopepebcnaikiaaGreatDoor.Da
open Lib (hid)
open Go.ChangeShapes Go.WideShapes Go.ChangeAt Go.RowKit
open Ar Rg
open Pk (u8s u8s_length)
open It (Itm Ch MkC catC)
def ctC (z:Nat) (c:Ck):List Ch:=if z-c.n*128=0∨z-c.n*128<c.v.size then [kpC c.k (c.v.extract 0 (z-c.n*128))] else []
def ctL (D:List Ck) (z:Nat):List Ch:=D.flatMap (ctC z)
theorem ct_sn {D:List Ck}{i:Nat}{c:Ck}(z:Nat) (h:D[i]?=some c):ctL (D.take (i+1)) z=ctL (D.take i) z++ctC z c:=by
 unfold ctL;rw [List.take_add_one,h,List.flatMap_append];simp
theorem ctC_len (z:Nat) (c:Ck):(ctC z c).length≤1:=by unfold ctC;split<;>simp
theorem cut_any (D:List Ck) (z:Nat) (hz9:z≤65536) (A:Option Addr) (n cap B:Nat) (hn:n=D.length) (hm:n≤1099511627776) (hz:∀ c∈D,c.n<512∧c.v.size≤160) (w:World) (hB:B≤w.heap.size) (hD:Ls enC 4 w B A D) :
  Calls Tryz.prog 141 #[.slice A n cap,.int .i64 z] w fun e' w'=>∃ v,e'=.returned v∧MkC w w' v (ctL D z):=by
 have HN:=hid hn;have HD:=hid hD;have HZ:=hid hz;clear hn hD hz
 go_enter Tryz.func141,Tryz.ntmps141
 go_wp2_with fail
 go_loopw [5,11] (fun av iv wr=>∃ (i:Nat) (E:List Ch),i≤n∧iv=.int .i64 i∧Hid (E=ctL (D.take i) z)∧Hid (E.length≤i)∧Hid (MkC w wr av E)) (fun _ iv _=>n-(intOf iv).toNat)
 case atStart=>exact⟨0,[],Nat.zero_le _,by go_num,rfl,Nat.le_refl _,Mk.nil (Below.refl _ _)⟩
 case round =>
  obtain⟨i,E,hi,rfl,hE,hEl,hmk⟩:=hrel;by_cases hlt:i<n
  ·obtain⟨c,hc⟩:∃ c,D[i]?=some c:=⟨_,List.getElem?_eq_getElem (by rw [← HN.out];exact hlt)⟩;obtain⟨hc512,hv160⟩:=HZ.out c (List.mem_of_getElem? hc);obtain⟨b,o,hAe,hb,hr⟩:=(HD.out.below ((Hid.out hmk).2.mono hB)) i c hc;have hbl:b<wr.heap.size:=Nat.lt_of_lt_of_le hb (Nat.le_trans hB (Hid.out hmk).2.size);have hc0:wr.cell? ⟨b,o+i*4,none⟩=some (.int .u32 c.n):=hr 0 _ rfl;have hc1:wr.cell? ⟨b,o+i*4+1,none⟩=some (.string c.k):=hr 1 _ rfl;have hc2:wr.cell? ⟨b,o+i*4+2,none⟩=some (.bool c.h):=hr 2 _ rfl;have hc3:wr.cell? ⟨b,o+i*4+3,none⟩=some (.string c.v):=hr 3 _ rfl;obtain⟨f,hf⟩:∃ f,c.n*128=f:=⟨_,rfl⟩;obtain⟨a,ha⟩:∃ a,z-f=a:=⟨_,rfl⟩;have hf9:f<65536:=by omega
   have ham:max ((z:Int)-(f:Int)) 0=(a:Int):=by omega
   have ha9:a≤65536:=by omega
   have HFR:=hid (fun w=>from_at c f hf (by omega) w);have HKP:=hid (fun w=>keep_any c.k (c.v.extract 0 a) (by simp;omega) w);have HCT:=hid (show ctC z c=if a=0∨a<c.v.size then [kpC c.k (c.v.extract 0 a)] else [] by unfold ctC;rw [hf,ha]);have HSN:=hid (ct_sn z hc);rw [← Hid.out hE] at HSN;have hal:Below wr.heap.size wr (wr.alloc (.cells (enC c).toArray 237)):=(Below.refl _ _).alloc (Nat.le_refl _) _;have HQ1:=hid (heap_alloc_new wr (.cells (enC c).toArray 237));have HM1:=hid ((Hid.out hmk).go hal);have HEL:=hid (Hid.out hEl);clear hr hc hal hmk hE hEl hf ha;subst hAe
   go_wp2_with (refine wpList_load_row rfl 237 (.tmp 7) rfl wr.heap.size rfl 237 (enC c).toArray (0,0) _ HQ1.out Tryz.underlying237 rfl (infoC4 c) ?_)
   clear hc0 hc1 hc2 hc3;change Calls _ _ _ (wr.alloc (.cells (enC c).toArray 237)) _;generalize wr.alloc _=w2 at *;generalize wr.heap.size=g at *;refine (HFR.out _).mono ?_;rintro e' w3 ⟨rfl,hb3⟩;have HQ3:=hid ((hb3.block _ (row_lt HQ1.out)).trans HQ1.out);have HM3:=hid (HM1.out.go hb3);have d3:w3.cell? ⟨g,3,none⟩=some (.string c.v):=cell_of_row _ _ 3 _ _ _ HQ3.out;clear hb3 HQ1 HM1 HFR;by_cases hch:a=0∨a<c.v.size
   ·have HC1:=hid (show ctC z c=[kpC c.k (c.v.extract 0 a)] by rw [HCT.out,if_pos hch]);obtain⟨x,hx⟩:∃ x,kpC c.k (c.v.extract 0 a)=x:=⟨_,rfl⟩;obtain⟨y,hy⟩:∃ y,c.v.extract 0 a=y:=⟨_,rfl⟩;rw [hx] at HC1 HKP;rw [hy] at HKP;have hle:(a:Int)≤(c.v.size:Int):=by omega
    have HY:=hid hy;have HEN:=hid (show E++[x]=ctL (D.take (i+1)) z by rw [HSN.out,HC1.out]);have HLN:=hid (show (E++[x]).length≤i+1 by rw [List.length_append];have:=HEL.out;simp;exact this);have HDL:=hid (show E.length+1≤3518437208883 by have:=HEL.out;omega);clear hx hy;by_cases ha0:a=0
    ·have q1:((a:Int)==0)=true:=by rw [ha0];rfl
     clear hch ha0
     go_wp2_with fail
     refine wp_region_T (fun w':World=>w'.heap[g]?=some (.cells (enC c).toArray 237 (0,0))) 9 (by kernel_rfl) (by kernel_rfl) ?_;have hS:w3.drew.heap[g]?=some (.cells (enC c).toArray 237 (0,0)):=HQ3.out;refine take_T 0 29 (u5) rfl (by rfl) (by kernel_rfl) (by decide) (by kernel_rfl) (by kernel_rfl) (by kernel_rfl) (fun _ _ _ h=>h) (Or.inl ⟨by rfl,fun w' hSw=>by go_simp⟩) hS ?_;simp only [Gb5a,Gb5b,Gb5c];refine take_T 1 30 (.pointer (some ⟨g,1,none⟩)) rfl (by rfl) (by kernel_rfl) (by decide) (by kernel_rfl) (by kernel_rfl) (by kernel_rfl) (fun _ _ _ h=>h) (Or.inl ⟨by rfl,fun w' hSw=>by go_simp⟩) hS ?_;simp only [Gb5a,Gb5b,Gb5c];refine take_T 2 31 (.string c.k) rfl (by rfl) (by kernel_rfl) (by decide) (by kernel_rfl) (by kernel_rfl) (by kernel_rfl) (fun _ _ _ h=>h) (Or.inl ⟨by rfl,fun w' hSw=>by have r:=cell_of_row _ _ 1 _ _ _ hSw;simp only [enC] at r;go_simp⟩) hS ?_;simp only [Gb5a,Gb5b,Gb5c];refine take_T 3 32 (.pointer (some ⟨g,3,none⟩)) rfl (by rfl) (by kernel_rfl) (by decide) (by kernel_rfl) (by kernel_rfl) (by kernel_rfl) (fun _ _ _ h=>h) (Or.inl ⟨by rfl,fun w' hSw=>by go_simp⟩) hS ?_;simp only [Gb5a,Gb5b,Gb5c];refine take_T 4 33 (.string c.v) rfl (by rfl) (by kernel_rfl) (by decide) (by kernel_rfl) (by kernel_rfl) (by kernel_rfl) (fun _ _ _ h=>h) (Or.inl ⟨by rfl,fun w' hSw=>by have r:=cell_of_row _ _ 3 _ _ _ hSw;simp only [enC] at r;go_simp⟩) hS ?_;simp only [Gb5a,Gb5b,Gb5c];refine take_T 5 34 (.int .i64 (a:Int)) rfl (by rfl) (by kernel_rfl) (by decide) (by kernel_rfl) (by kernel_rfl) (by kernel_rfl) (fun _ _ _ h=>h) (Or.inl ⟨by rfl,fun w' hSw=>by go_simp⟩) hS ?_;simp only [Gb5a,Gb5b,Gb5c];refine take_T 6 35 (.string y) rfl (by rfl) (by kernel_rfl) (by decide) (by kernel_rfl) (by kernel_rfl) (by kernel_rfl) (fun _ _ _ h=>h) (Or.inl ⟨by rfl,fun w' hSw=>by have hx:=HY.out;go_simp⟩) hS ?_;simp only [Gb5a,Gb5b,Gb5c];refine only_T 7 rfl (by kernel_rfl) (by decide) (by rfl) (fun K hK=>?_)
     go_wp2_with fail
     refine (HKP.out _).mono ?_;rintro e' w4 ⟨rfl,hb4⟩;have hb4':Below w3.heap.size w3 w4:=(Below.refl _ _).drew.trans hb4;have HM4:=hid (HM3.out.go hb4');have hS2:w4.heap[g]?=some (.cells (enC c).toArray 237 (0,0)):=(hb4'.block _ (row_lt HQ3.out)).trans HQ3.out;clear hb4 hb4';refine hK.out _ _ hS2 ?_;clear hK K;try simp only [Act.put,Gb5a,Gb5b,Gb5c]
     clear hS;have hS:=hS2;clear hS2;obtain⟨xk,xh,xv⟩:=x;refine only_T 8 rfl (by kernel_rfl) (by decide) (by rfl) (fun K hK=>?_);have hS2:(w4.alloc (.cells #[.string xk,.bool xh,.string xv] 138)).heap[g]?=some (.cells (enC c).toArray 237 (0,0)):=((((Below.refl w4.heap.size w4).alloc (Nat.le_refl _) (.cells #[.string xk,.bool xh,.string xv] 138))).block _ (row_lt hS)).trans hS;have hL:=Ls.new w4 (⟨xk,xh,xv⟩:Ch) 138 (w4.heap.size+1) (Nat.lt_succ_self _) (enc:=Sc.enc) (k:=3);have HL:=hid (show Ls Sc.enc 3 (w4.alloc (.cells #[.string xk,.bool xh,.string xv] 138)) (w4.heap.size+1) (some ⟨w4.heap.size,0,none⟩) [(⟨xk,xh,xv⟩:Ch)] from hL);have HM5:=hid (HM4.out.alloc (.cells #[.string xk,.bool xh,.string xv] 138));clear hL;simp only [Sc.enc]
     go_wp2_with fail
     generalize w4.alloc _=w5 at *;refine hK.out _ _ hS2 ?_;clear hK K;try simp only [Act.put,Gb5a,Gb5b,Gb5c]
     clear hS hS2;refine done_T (by kernel_rfl) ?_;simp only [List.drop_succ_cons,List.drop_zero]
     go_wp2_with (at_builtin;refine catC HM5.out [(⟨xk,xh,xv⟩:Ch)] _ 1 1 rfl HL.out HDL.out rfl _ _ rfl rfl rfl ?_;intro v5 w6 hM6 hG6;have HM6:=hid hM6;clear hM6 hG6)
     exact⟨⟨i+1,_,by omega,by go_num,HEN.out,HLN.out,HM6.out⟩,by simp [intOf]<;>omega⟩
    ·have q1:((a:Int)==0)=false:=by rw [beq_eq_false_iff_ne];omega
     have q2:decide (a<c.v.size)=true:=by rw [decide_eq_true_iff];omega
     clear hch ha0
     go_wp2_with fail
     refine wp_region_T (fun w':World=>w'.heap[g]?=some (.cells (enC c).toArray 237 (0,0))) 9 (by kernel_rfl) (by kernel_rfl) ?_;have hS:w3.drew.heap[g]?=some (.cells (enC c).toArray 237 (0,0)):=HQ3.out;refine take_T 0 29 (u5) rfl (by rfl) (by kernel_rfl) (by decide) (by kernel_rfl) (by kernel_rfl) (by kernel_rfl) (fun _ _ _ h=>h) (Or.inl ⟨by rfl,fun w' hSw=>by go_simp⟩) hS ?_;simp only [Gb5a,Gb5b,Gb5c];refine take_T 1 30 (.pointer (some ⟨g,1,none⟩)) rfl (by rfl) (by kernel_rfl) (by decide) (by kernel_rfl) (by kernel_rfl) (by kernel_rfl) (fun _ _ _ h=>h) (Or.inl ⟨by rfl,fun w' hSw=>by go_simp⟩) hS ?_;simp only [Gb5a,Gb5b,Gb5c];refine take_T 2 31 (.string c.k) rfl (by rfl) (by kernel_rfl) (by decide) (by kernel_rfl) (by kernel_rfl) (by kernel_rfl) (fun _ _ _ h=>h) (Or.inl ⟨by rfl,fun w' hSw=>by have r:=cell_of_row _ _ 1 _ _ _ hSw;simp only [enC] at r;go_simp⟩) hS ?_;simp only [Gb5a,Gb5b,Gb5c];refine take_T 3 32 (.pointer (some ⟨g,3,none⟩)) rfl (by rfl) (by kernel_rfl) (by decide) (by kernel_rfl) (by kernel_rfl) (by kernel_rfl) (fun _ _ _ h=>h) (Or.inl ⟨by rfl,fun w' hSw=>by go_simp⟩) hS ?_;simp only [Gb5a,Gb5b,Gb5c];refine take_T 4 33 (.string c.v) rfl (by rfl) (by kernel_rfl) (by decide) (by kernel_rfl) (by kernel_rfl) (by kernel_rfl) (fun _ _ _ h=>h) (Or.inl ⟨by rfl,fun w' hSw=>by have r:=cell_of_row _ _ 3 _ _ _ hSw;simp only [enC] at r;go_simp⟩) hS ?_;simp only [Gb5a,Gb5b,Gb5c];refine take_T 5 34 (.int .i64 (a:Int)) rfl (by rfl) (by kernel_rfl) (by decide) (by kernel_rfl) (by kernel_rfl) (by kernel_rfl) (fun _ _ _ h=>h) (Or.inl ⟨by rfl,fun w' hSw=>by go_simp⟩) hS ?_;simp only [Gb5a,Gb5b,Gb5c];refine take_T 6 35 (.string y) rfl (by rfl) (by kernel_rfl) (by decide) (by kernel_rfl) (by kernel_rfl) (by kernel_rfl) (fun _ _ _ h=>h) (Or.inl ⟨by rfl,fun w' hSw=>by have hx:=HY.out;go_simp⟩) hS ?_;simp only [Gb5a,Gb5b,Gb5c];refine only_T 7 rfl (by kernel_rfl) (by decide) (by rfl) (fun K hK=>?_)
     go_wp2_with fail
     refine (HKP.out _).mono ?_;rintro e' w4 ⟨rfl,hb4⟩;have hb4':Below w3.heap.size w3 w4:=(Below.refl _ _).drew.trans hb4;have HM4:=hid (HM3.out.go hb4');have hS2:w4.heap[g]?=some (.cells (enC c).toArray 237 (0,0)):=(hb4'.block _ (row_lt HQ3.out)).trans HQ3.out;clear hb4 hb4';refine hK.out _ _ hS2 ?_;clear hK K;try simp only [Act.put,Gb5a,Gb5b,Gb5c]
     clear hS;have hS:=hS2;clear hS2;obtain⟨xk,xh,xv⟩:=x;refine only_T 8 rfl (by kernel_rfl) (by decide) (by rfl) (fun K hK=>?_);have hS2:(w4.alloc (.cells #[.string xk,.bool xh,.string xv] 138)).heap[g]?=some (.cells (enC c).toArray 237 (0,0)):=((((Below.refl w4.heap.size w4).alloc (Nat.le_refl _) (.cells #[.string xk,.bool xh,.string xv] 138))).block _ (row_lt hS)).trans hS;have hL:=Ls.new w4 (⟨xk,xh,xv⟩:Ch) 138 (w4.heap.size+1) (Nat.lt_succ_self _) (enc:=Sc.enc) (k:=3);have HL:=hid (show Ls Sc.enc 3 (w4.alloc (.cells #[.string xk,.bool xh,.string xv] 138)) (w4.heap.size+1) (some ⟨w4.heap.size,0,none⟩) [(⟨xk,xh,xv⟩:Ch)] from hL);have HM5:=hid (HM4.out.alloc (.cells #[.string xk,.bool xh,.string xv] 138));clear hL;simp only [Sc.enc]
     go_wp2_with fail
     generalize w4.alloc _=w5 at *;refine hK.out _ _ hS2 ?_;clear hK K;try simp only [Act.put,Gb5a,Gb5b,Gb5c]
     clear hS hS2;refine done_T (by kernel_rfl) ?_;simp only [List.drop_succ_cons,List.drop_zero]
     go_wp2_with (at_builtin;refine catC HM5.out [(⟨xk,xh,xv⟩:Ch)] _ 1 1 rfl HL.out HDL.out rfl _ _ rfl rfl rfl ?_;intro v5 w6 hM6 hG6;have HM6:=hid hM6;clear hM6 hG6)
     exact⟨⟨i+1,_,by omega,by go_num,HEN.out,HLN.out,HM6.out⟩,by simp [intOf]<;>omega⟩
   ·have HC1:=hid (show ctC z c=[] by rw [HCT.out,if_neg hch]);have q1:((a:Int)==0)=false:=by rw [beq_eq_false_iff_ne];omega
    have q2:decide (a<c.v.size)=false:=by rw [decide_eq_false_iff_not];omega
    have HEN:=hid (show E=ctL (D.take (i+1)) z by rw [HSN.out,HC1.out,List.append_nil]);have HLN:=hid (show E.length≤i+1 by have:=HEL.out;omega);clear hch
    go_wp2_with fail
    exact⟨⟨i+1,E,by omega,by go_num,HEN.out,HLN.out,HM3.out⟩,by simp [intOf]<;>omega⟩
  ·have HEE:=hid (show E=ctL D z by have h:=Hid.out hE;rwa [List.take_of_length_le (by rw [← HN.out];omega)] at h);have HM:=hid (Hid.out hmk);obtain⟨A5,c5,hv5,_⟩:=(Hid.out hmk).ls Sc.enc_len;subst hv5;clear hE hEl hmk
   go_wp2
   go_ret
   exact⟨_,rfl,by rw [← HEE.out];exact HM.out⟩
end Go.Proofs.YtopepebcnaikiaaGreatDoor.Da
namespace Go.Proofs.YtopepebcnaikiaaGreatDoor.Da
open Lib (hid)
open Go.ChangeShapes Go.WideShapes Go.ChangeAt Go.RowKit
open Ar Rg
open Pk (u8s u8s_length be bytesLess_be)
open It (Itm Ch MkC catC rt und key pre UpK rt_iff okI okKey lt)
open Ino (wrK wrK_pfx pfx deK deKE)
theorem ec_zero {D:List Itm}{I:Nat}(h:ec D I=0):rt D=true∧1≤I:=by
 unfold ec at h;split at h
 ·rename_i hr;split at h
  ·cases h
  ·exact⟨hr,by omega⟩
 ·cases h
def rdE (D:List Itm) (I z:Nat):Int:=if ec D I=0 then (if 65536<z then 1 else 0) else ec D I
def rdV (D:List Itm) (I z o n:Nat):ByteArray:=if rdE D I z=0 then ⟨(rdC (chs D I) o (min (o+n) z)).toArray⟩ else ByteArray.empty
def ChPost (w:World) (E:Int) (R:List Ch) (e:Ending) (w':World):Prop:=∃ v,e=.returned (.tuple #[v,.int .i64 E])∧MkC w w' v (if E=0 then R else [])
def wrE (D:List Itm) (I o:Nat) (s:ByteArray):Int:=if ec D I=0 then (if 65536<o+s.size then 1 else 0) else ec D I
theorem bne0 {x:Int}(h:x≠0):(x != 0)=true:=by rw [bne_iff_ne];exact h
theorem Read_any (D:List Itm) (I z o nn:Nat) (hI:I<4294967296) (hz:z<4294967296) (ho:o<4294967296) (hnn:nn<4294967296) (A:Option Addr) (n c B:Nat) (hn:n=D.length) (hc:n≤c) (hcm:c≤maxLen) (hlen:n≤4398046511104) (w:World) (hB:B≤w.heap.size) (hD:Ls It.enc 2 w B A D) :
  Calls Tryz.prog 95 #[.slice A n c,.int .u32 I,.int .u32 z,.int .u32 o,.int .u32 nn] w fun e w'=>e=.returned (.tuple #[.string (rdV D I z o nn),.int .i64 (rdE D I z)])∧Below w.heap.size w w':=by
 have HCH:=hid (chunksOf_any D I hI A n c B hn hc hcm hlen w hB hD);clear hD hB hn;by_cases he:ec D I=0
 ·obtain⟨hr,hI1⟩:=ec_zero he;have HUP:=hid (chs_up hr hI1 hI);have HSZ:=hid (chs_sz hr hI1 hI);have HCL:=hid (show (chs D I).length≤512 from chs_few hr hI1 hI);rw [he] at HCH;by_cases hz9:65536<z
  ·have HE:=hid (show rdE D I z=1 by unfold rdE;rw [if_pos he,if_pos hz9]);have HV:=hid (show rdV D I z o nn=⟨#[]⟩ by unfold rdV;rw [HE.out];rfl);have d1:decide ((65536:Int)<(z:Int))=true:=by rw [decide_eq_true_iff];omega
   clear he hz9
   go_enter Tryz.func95,Tryz.ntmps95
   go_wp2_with fail
   (with_reducible refine HCH.out.mono ?_)
   rintro e w1 ⟨v,rfl,hm⟩;have HB:=hid hm.2;obtain⟨A5,c5,hv5,_⟩:=hm.ls enC_len;subst hv5;clear hm
   go_wp2
   go_ret2
   exact⟨by rw [HE.out,HV.out]<;>rfl,HB.out⟩
  ·have HE:=hid (show rdE D I z=0 by unfold rdE;rw [if_pos he,if_neg hz9]);obtain⟨e,hee⟩:∃ e,min (o+nn) z=e:=⟨_,rfl⟩;have HV:=hid (show rdV D I z o nn=⟨(rdC (chs D I) o e).toArray⟩ by unfold rdV;rw [HE.out,if_pos rfl,hee]);have d1:decide ((65536:Int)<(z:Int))=false:=by rw [decide_eq_false_iff_not];omega
   have e1:min ((o:Int)+(nn:Int)) (z:Int)=(e:Int):=by omega
   have he9:e≤65536:=by omega
   by_cases hoe:e≤o
   ·have HX:=hid (show rdC (chs D I) o e=[] from List.eq_nil_of_length_eq_zero (by rw [rdC_len];omega));have d2:decide (e≤o)=true:=decide_eq_true hoe;clear he hz9 hee hoe
    go_enter Tryz.func95,Tryz.ntmps95
    go_wp2_with fail
    (with_reducible refine HCH.out.mono ?_)
    rintro e' w1 ⟨v,rfl,hm⟩;have HB:=hid hm.2;obtain⟨A5,c5,hv5,_⟩:=hm.ls enC_len;subst hv5;clear hm
    go_wp2
    go_ret2
    exact⟨by rw [HE.out,HV.out,HX.out]<;>rfl,HB.out⟩
   ·have d2:decide (e≤o)=false:=decide_eq_false hoe;have ho9:o<e:=by omega
    clear he hz9 hee hoe
    go_enter Tryz.func95,Tryz.ntmps95
    go_wp2_with fail
    (with_reducible refine HCH.out.mono ?_)
    rintro e' w1 ⟨v,rfl,hm⟩;have HB:=hid hm.2;obtain⟨A5,c5,hv5,_,_,hl⟩:=hm.ls enC_len;simp only [if_true] at hv5 hl;obtain⟨m,hmm⟩:∃ m,(chs D I).length=m:=⟨_,rfl⟩;rw [hmm] at hv5;subst hv5;have HRD:=hid (read_any (chs D I) o e ho9 he9 A5 m c5 w1.heap.size hmm.symm (by have:=HCL.out;omega) HUP.out HSZ.out w1 (Nat.le_refl _) hl);clear hm hmm hl
    go_wp2_with fail
    (with_reducible refine HRD.out.mono ?_)
    rintro e' w2 ⟨rfl,hb⟩;have HB2:=hid (HB.out.trans (hb.mono HB.out.size));clear hb
    go_wp2
    go_ret2
    exact⟨by rw [HE.out,HV.out]<;>rfl,HB2.out⟩
 ·have HE:=hid (show rdE D I z=ec D I by unfold rdE;rw [if_neg he]);have HV:=hid (show rdV D I z o nn=⟨#[]⟩ by unfold rdV;rw [HE.out,if_neg he];rfl);have q0:=bne0 he;obtain⟨x,hx⟩:∃ x,ec D I=x:=⟨_,rfl⟩;rw [hx] at HCH HE q0 he;have HNE:=hid he;clear he hx
  go_enter Tryz.func95,Tryz.ntmps95
  go_wp2_with fail
  (with_reducible refine HCH.out.mono ?_)
  rintro e w1 ⟨v,rfl,hm⟩;rw [if_neg HNE.out] at hm;have HB:=hid hm.2;obtain⟨A5,c5,hv5,_⟩:=hm.ls enC_len;subst hv5;clear hm
  go_wp2
  go_ret2
  exact⟨by rw [HE.out,HV.out]<;>rfl,HB.out⟩
theorem Write_any (D:List Itm) (I o:Nat) (hI:I<4294967296) (ho:o<4294967296) (s:ByteArray) (hs:s.size≤9223372036854775807) (A:Option Addr) (n c B:Nat) (hn:n=D.length) (hc:n≤c) (hcm:c≤maxLen) (hlen:n≤4398046511104) (w:World) (hB:B≤w.heap.size) (hD:Ls It.enc 2 w B A D) :
  Calls Tryz.prog 104 #[.slice A n c,.int .u32 I,.int .u32 o,.string s] w (ChPost w (wrE D I o s) (wrL (chs D I) I o s.data.toList)):=by
 have HCH:=hid (chunksOf_any D I hI A n c B hn hc hcm hlen w hB hD);clear hD hB hn;by_cases he:ec D I=0
 ·obtain⟨hr,hI1⟩:=ec_zero he;have HUP:=hid (chs_up hr hI1 hI);have HSZ:=hid (chs_sz hr hI1 hI);have HCL:=hid (show (chs D I).length≤512 from chs_few hr hI1 hI);rw [he] at HCH;by_cases hz9:65536<o+s.size
  ·have HE:=hid (show wrE D I o s=1 by unfold wrE;rw [if_pos he,if_pos hz9]);have d1:decide ((65536:Int)<(o:Int)+(s.size:Int))=true:=by rw [decide_eq_true_iff];omega
   clear he hz9
   go_enter Tryz.func104,Tryz.ntmps104
   go_wp2_with fail
   (with_reducible refine HCH.out.mono ?_)
   rintro e w1 ⟨v,rfl,hm⟩;have HB:=hid hm.2;obtain⟨A5,c5,hv5,_⟩:=hm.ls enC_len;subst hv5;clear hm
   go_wp2
   go_ret2
   exact⟨_,by rw [HE.out]<;>rfl,by rw [HE.out];exact Mk.nil HB.out⟩
  ·have HE:=hid (show wrE D I o s=0 by unfold wrE;rw [if_pos he,if_neg hz9]);have d1:decide ((65536:Int)<(o:Int)+(s.size:Int))=false:=by rw [decide_eq_false_iff_not];omega
   have ho9:o≤65536:=by omega
   clear he
   go_enter Tryz.func104,Tryz.ntmps104
   go_wp2_with fail
   (with_reducible refine HCH.out.mono ?_)
   rintro e' w1 ⟨v,rfl,hm⟩;have HB:=hid hm.2;obtain⟨A5,c5,hv5,_,_,hl⟩:=hm.ls enC_len;simp only [if_true] at hv5 hl;obtain⟨m,hmm⟩:∃ m,(chs D I).length=m:=⟨_,rfl⟩;rw [hmm] at hv5;subst hv5;have HRD:=hid (written_any (chs D I) I hI1 hI o s (by omega) A5 m c5 w1.heap.size hmm.symm (by have:=HCL.out;omega) HUP.out HSZ.out w1 (Nat.le_refl _) hl);clear hm hmm hl hz9
   go_wp2_with fail
   (with_reducible refine HRD.out.mono ?_)
   rintro e' w2 ⟨v2,rfl,hm2⟩;have HM2:=hid (hm2.since HB.out);obtain⟨A6,c6,hv6,_⟩:=hm2.ls Sc.enc_len;subst hv6;clear hm2
   go_wp2
   go_ret2
   exact⟨_,by rw [HE.out]<;>rfl,by rw [HE.out,if_pos rfl];exact HM2.out⟩
 ·have HE:=hid (show wrE D I o s=ec D I by unfold wrE;rw [if_neg he]);have q0:=bne0 he;obtain⟨x,hx⟩:∃ x,ec D I=x:=⟨_,rfl⟩;rw [hx] at HCH HE q0 he;have HNE:=hid he;clear he hx
  go_enter Tryz.func104,Tryz.ntmps104
  go_wp2_with fail
  (with_reducible refine HCH.out.mono ?_)
  rintro e w1 ⟨v,rfl,hm⟩;rw [if_neg HNE.out] at hm;have HB:=hid hm.2;obtain⟨A5,c5,hv5,_⟩:=hm.ls enC_len;subst hv5;clear hm
  go_wp2
  go_ret2
  exact⟨_,by rw [HE.out]<;>rfl,by rw [HE.out,if_neg HNE.out];exact Mk.nil HB.out⟩
theorem Cut_any (D:List Itm) (I z:Nat) (hI:I<4294967296) (hz:z<4294967296) (A:Option Addr) (n c B:Nat) (hn:n=D.length) (hc:n≤c) (hcm:c≤maxLen) (hlen:n≤4398046511104) (w:World) (hB:B≤w.heap.size) (hD:Ls It.enc 2 w B A D) :
  Calls Tryz.prog 105 #[.slice A n c,.int .u32 I,.int .u32 z] w (ChPost w (rdE D I z) (ctL (chs D I) z)):=by
 have HCH:=hid (chunksOf_any D I hI A n c B hn hc hcm hlen w hB hD);clear hD hB hn;by_cases he:ec D I=0
 ·obtain⟨hr,hI1⟩:=ec_zero he;have HUP:=hid (chs_up hr hI1 hI);have HSZ:=hid (chs_sz hr hI1 hI);have HCL:=hid (show (chs D I).length≤512 from chs_few hr hI1 hI);rw [he] at HCH;by_cases hz9:65536<z
  ·have HE:=hid (show rdE D I z=1 by unfold rdE;rw [if_pos he,if_pos hz9]);have d1:decide ((65536:Int)<(z:Int))=true:=by rw [decide_eq_true_iff];omega
   clear he hz9
   go_enter Tryz.func105,Tryz.ntmps105
   go_wp2_with fail
   (with_reducible refine HCH.out.mono ?_)
   rintro e w1 ⟨v,rfl,hm⟩;have HB:=hid hm.2;obtain⟨A5,c5,hv5,_⟩:=hm.ls enC_len;subst hv5;clear hm
   go_wp2
   go_ret2
   exact⟨_,by rw [HE.out]<;>rfl,by rw [HE.out];exact Mk.nil HB.out⟩
  ·have HE:=hid (show rdE D I z=0 by unfold rdE;rw [if_pos he,if_neg hz9]);have d1:decide ((65536:Int)<(z:Int))=false:=by rw [decide_eq_false_iff_not];omega
   have ho9:z≤65536:=by omega
   clear he
   go_enter Tryz.func105,Tryz.ntmps105
   go_wp2_with fail
   (with_reducible refine HCH.out.mono ?_)
   rintro e' w1 ⟨v,rfl,hm⟩;have HB:=hid hm.2;obtain⟨A5,c5,hv5,_,_,hl⟩:=hm.ls enC_len;simp only [if_true] at hv5 hl;obtain⟨m,hmm⟩:∃ m,(chs D I).length=m:=⟨_,rfl⟩;rw [hmm] at hv5;subst hv5;have HRD:=hid (cut_any (chs D I) z ho9 A5 m c5 w1.heap.size hmm.symm (by have:=HCL.out;omega) HSZ.out w1 (Nat.le_refl _) hl);clear hm hmm hl hz9
   go_wp2_with fail
   (with_reducible refine HRD.out.mono ?_)
   rintro e' w2 ⟨v2,rfl,hm2⟩;have HM2:=hid (hm2.since HB.out);obtain⟨A6,c6,hv6,_⟩:=hm2.ls Sc.enc_len;subst hv6;clear hm2
   go_wp2
   go_ret2
   exact⟨_,by rw [HE.out]<;>rfl,by rw [HE.out,if_pos rfl];exact HM2.out⟩
 ·have HE:=hid (show rdE D I z=ec D I by unfold rdE;rw [if_neg he]);have q0:=bne0 he;obtain⟨x,hx⟩:∃ x,ec D I=x:=⟨_,rfl⟩;rw [hx] at HCH HE q0 he;have HNE:=hid he;clear he hx
  go_enter Tryz.func105,Tryz.ntmps105
  go_wp2_with fail
  (with_reducible refine HCH.out.mono ?_)
  rintro e w1 ⟨v,rfl,hm⟩;rw [if_neg HNE.out] at hm;have HB:=hid hm.2;obtain⟨A5,c5,hv5,_⟩:=hm.ls enC_len;subst hv5;clear hm
  go_wp2
  go_ret2
  exact⟨_,by rw [HE.out]<;>rfl,by rw [HE.out,if_neg HNE.out];exact Mk.nil HB.out⟩
end Go.Proofs.YtopepebcnaikiaaGreatDoor.Da
namespace Go.Proofs.YtopepebcnaikiaaGreatDoor.Ph
open Lib (hid)
open Go.ChangeShapes Go.WideShapes Go.ChangeAt Go.RowKit
open BigFrame
open Ar
theorem ba_ext {a b:ByteArray}(h:a.data.toList=b.data.toList):a=b:=ByteArray.ext (Array.toList_inj.1 h)
theorem extract_none (p:ByteArray) (k:Nat):p.extract k k=ByteArray.empty:=by
 apply ba_ext;rw [extract_list];simp
def AtP (p:ByteArray) (D:List ByteArray) (j i:Nat):Prop :=
 D.all nb=true∧((i≤p.size∧j≤i∧(p.extract j i).data.toList.contains 47=false∧cutB (p.extract 1 p.size)=D++cutB (p.extract j p.size))∨(i=p.size+1∧cutB (p.extract 1 p.size)=D))
theorem sub_get {p:ByteArray}{j i:Nat}(hj:j≤i) (hi:i<p.size):∃ h:i-j<(p.extract j p.size).size,(p.extract j p.size)[i-j]=p[i]:=by
 have h:i-j<(p.extract j p.size).size:=by rw [ByteArray.size_extract];omega
 refine⟨h,?_⟩;rw [ByteArray.getElem_extract]
 congr 1;omega
theorem sub_take {p:ByteArray}{j i:Nat}(hj:j≤i) (hi:i≤p.size):(p.extract j p.size).data.toList.take (i-j)=(p.extract j i).data.toList:=by
 rw [extract_list,extract_list,List.take_take]
 congr 1;omega
def sl (D:List ByteArray):ByteArray:=bsL (D.flatMap fun x=>47::x.data.toList)
theorem str_eq {x y:ByteArray}(h:x=y):(x.toList==y.toList)=true∧(x.toList != y.toList)=false:=by
 subst h;have:(x.toList==x.toList)=true:=beq_self_eq_true _;exact⟨this,by rw [bne,this];rfl⟩
def laX (p:ByteArray):Int:=if spX p=0 then (if spB p=[] then 10 else 0) else spX p
def laD (p:ByteArray):List ByteArray:=if laX p=0 then (spB p).dropLast else []
def laN (p:ByteArray):ByteArray:=if laX p=0 then (spB p).getLastD ByteArray.empty else ByteArray.empty
theorem la_err {p:ByteArray}(h:spX p≠0):laX p=spX p∧laD p=[]∧laN p=ByteArray.empty:=by
 have e:laX p=spX p:=by unfold laX;rw [if_neg h]
 refine⟨e,?_,?_⟩
 ·unfold laD;rw [e,if_neg h]
 ·unfold laN;rw [e,if_neg h]
theorem la_none {p:ByteArray}(h:spX p=0) (h2:spB p=[]):laX p=10∧laD p=[]∧laN p=ByteArray.empty:=by
 have e:laX p=10:=by unfold laX;rw [if_pos h,if_pos h2]
 refine⟨e,?_,?_⟩
 ·unfold laD;rw [e];rfl
 ·unfold laN;rw [e];rfl
theorem la_ok {p:ByteArray}(h:spX p=0) (h2:spB p≠[]):laX p=0∧laD p=(spB p).take ((spB p).length-1)∧(spB p)[(spB p).length-1]?=some (laN p):=by
 have e:laX p=0:=by unfold laX;rw [if_pos h,if_neg h2]
 have hl:0<(spB p).length:=by cases hh:spB p with | nil=>exact absurd hh h2 | cons a l=>simp
 refine⟨e,?_,?_⟩
 ·unfold laD;rw [if_pos e,List.dropLast_eq_take]
 ·unfold laN;rw [if_pos e,List.getLastD_eq_getLast?,List.getLast?_eq_getElem?,List.getElem?_eq_getElem (by omega)];rfl
def LastPost (w:World) (p:ByteArray) (e:Ending) (w':World):Prop :=
 ∃ A n c,e=.returned (.tuple #[.slice A n c,.string (laN p),.int .i64 (laX p)])∧n=(laD p).length∧n≤c∧c≤maxLen∧Ls en1 1 w' w'.heap.size A (laD p)∧Below w.heap.size w w'
theorem LastPost.no {w w':World}{p:ByteArray}{x:Int}(h:laX p=x∧laD p=[]∧laN p=ByteArray.empty) (hb:Below w.heap.size w w'):LastPost w p (.returned (.tuple #[.slice none 0 0,.string ByteArray.empty,.int .i64 x])) w':=by
 refine⟨none,0,0,by rw [h.1,h.2.2],by rw [h.2.1];rfl,Nat.le_refl _,Nat.zero_le _,?_,hb⟩;rw [h.2.1];exact Ls.nil
theorem below_q {w w1:World}{B:Nat}(q:Nat) (h:Below B w w1):Below B w (w1.drewN q):=⟨h.os,h.tape,h.output,h.size,h.block⟩
theorem ls_q {w:World}{B:Nat}{A:Option Addr}{D:List ByteArray}(q:Nat) (h:Ls en1 1 w B A D):Ls en1 1 (w.drewN q) B A D:=h.below ⟨rfl,rfl,rfl,Nat.le_refl _,fun _ _=>rfl⟩
theorem last_any (p:ByteArray) (hp:p.size≤maxLen) (w:World):Calls Tryz.prog 17 #[.string p] w (LastPost w p):=by
 have hx:∃ x,x=spX p:=⟨_,rfl⟩;obtain⟨x,hx⟩:=hx;have hd:∃ D,D=spB p:=⟨_,rfl⟩;obtain⟨D,hd⟩:=hd;have HX:=hid hx;have HD:=hid hd;have HC:=hid (split_any p hp w);unfold maxLen at hp;by_cases h0:x=0
 ·by_cases hnil:D=[]
  ·have HS:=hid (la_none (HX.out▸h0) (HD.out▸hnil));clear hx hd
   go_enter Tryz.func17,Tryz.ntmps17
   go_wp2_with fail
   go_at_call 26
   refine HC.out.mono ?_;rintro e w1 ⟨v,he,hM⟩;rw [← HX.out,h0] at he;rw [← HD.out,hnil] at hM;subst he;obtain⟨A,c,rfl,hc1,hc2,hL⟩:=hM.ls en1_len;have HM:=hid hM;clear hM hL HC h0 hnil
   go_wp2
   go_ret3
   exact LastPost.no HS.out HM.out.2
  ·have HS:=hid (la_ok (HX.out▸h0) (HD.out▸hnil));have hpos:0<D.length:=by cases D with | nil=>exact absurd rfl hnil | cons a l=>simp
   clear hx hd
   go_enter Tryz.func17,Tryz.ntmps17
   go_wp2_with fail
   go_at_call 26
   refine HC.out.mono ?_;rintro e w1 ⟨v,he,hM⟩;rw [← HX.out,h0] at he;rw [← HD.out] at hM;subst he;obtain⟨A,c,rfl,hc1,hc2,hL⟩:=hM.ls en1_len;have HM:=hid hM;have HL:=hid hL;rw [← HD.out] at HS;obtain⟨b,o,hAe,hb,hcx⟩:=one_cell hL HS.out.2.2;subst hAe;clear hM hL HC h0 hnil;obtain⟨m,hm⟩:∃ m,m=D.length:=⟨_,rfl⟩;rw [← hm] at hpos hc1 hcx HS HM;rw [← hm];have HMm:=hid hm;clear hm;unfold maxLen at hc2;have d0:((m:Int)==0)=false:=by rw [beq_eq_false_iff_ne];omega
   have e1:o+(m-1)=o+m-1:=by omega
   obtain⟨k,hk⟩:∃ k,m=k+1:=⟨m-1,by omega⟩;subst hk;have hcx':w1.cell? ⟨b,o+k,none⟩=some (.string (laN p)):=hcx;clear hcx e1;have f1:IntKind.i64.wrap (((k+1:Nat):Int)-1)=(k:Int):=by rw [show ((k+1:Nat):Int)-1=(k:Int) by omega];exact IntWalk.i64_in _ (by omega)
   go_wp2_with fail
   have f2:0≤(k:Int):=by omega
   have f3:(k:Int)≤(c:Int):=by omega
   go_quiet (fail)
   go_wp2
   go_ret3
   refine⟨_,_,_,by rw [HS.out.1];rfl,?_,?_,?_,?_,below_q _ HM.out.2⟩
   ·rw [HS.out.2.1,List.length_take,← HMm.out];simp
   ·omega
   ·unfold maxLen;omega
   ·rw [HS.out.2.1];exact ls_q _ ((HL.out).take _)
 ·have h0':(x==0)=false:=by rw [beq_eq_false_iff_ne];exact h0
  have h0'':(x != 0)=true:=by rw [bne,h0'];rfl
  have HS:=hid (la_err (HX.out▸h0));clear hx hd
  go_enter Tryz.func17,Tryz.ntmps17
  go_wp2_with fail
  go_at_call 26
  refine HC.out.mono ?_;rintro e w1 ⟨v,he,hM⟩;rw [← HX.out] at he;rw [← HX.out] at HS;subst he;obtain⟨A,c,rfl,hc1,hc2,hL⟩:=hM.ls en1_len;have HM:=hid hM;clear hM hL HC
  go_wp2
  go_ret3
  exact LastPost.no HS.out HM.out.2
def Nm (w:World) (A:Option Addr) (n c:Nat) (D:List ByteArray):Prop:=n=D.length∧n≤c∧c≤maxLen∧Ls en1 1 w w.heap.size A D
def SpPost (w:World) (x:Int) (D:List ByteArray) (e:Ending) (w':World):Prop:=∃ A n c,e=.returned (.tuple #[.slice A n c,.int .i64 x])∧Nm w' A n c D∧Below w.heap.size w w'
theorem SpPost.of {w:World}{p:ByteArray}{e:Ending}{w':World}(h:SplitPost w p e w'):SpPost w (spX p) (spB p) e w':=by
 obtain⟨v,rfl,hM⟩:=h;obtain⟨A,c,rfl,h1,h2,h3⟩:=hM.ls en1_len;exact⟨A,_,c,rfl,⟨rfl,h1,h2,h3⟩,hM.2⟩
theorem splitN (p:ByteArray) (hp:p.size≤maxLen) (x:Int) (D:List ByteArray) (hx:spX p=x) (hD:spB p=D) (w:World):Calls Tryz.prog 26 #[.string p] w (SpPost w x D):=by
 subst hx hD;exact (split_any p hp w).mono fun e w' h=>SpPost.of h
def LaPost (w:World) (x:Int) (s:ByteArray) (D:List ByteArray) (e:Ending) (w':World):Prop:=∃ A n c,e=.returned (.tuple #[.slice A n c,.string s,.int .i64 x])∧Nm w' A n c D∧Below w.heap.size w w'
theorem lastN (p:ByteArray) (hp:p.size≤maxLen) (x:Int) (s:ByteArray) (D:List ByteArray) (hx:laX p=x) (hs:laN p=s) (hD:laD p=D) (w:World):Calls Tryz.prog 17 #[.string p] w (LaPost w x s D):=by
 subst hx hD hs;exact (last_any p hp w).mono fun e w' ⟨A,n,c,h1,h2,h3,h4,h5,h6⟩=>⟨A,n,c,h1,⟨h2,h3,h4,h5⟩,h6⟩
theorem nameQ (s:ByteArray) (q:Bool) (hq:nb s=q) (w:World):Calls Tryz.prog 43 #[.string s] w fun e w'=>e=.returned (.bool q)∧w=w':=by
 subst hq;exact name_any s w (contains_any s)
def pAB:ByteArray:=⟨#[47,97,47,98]⟩
end Go.Proofs.YtopepebcnaikiaaGreatDoor.Ph
namespace Go.Proofs.YtopepebcnaikiaaGreatDoor.Fi
open Lib (hid)
open Ino
open It (Itm Ch get und app dif rt rc)
open Di (wlk rgt Nx numOf Vo vo pts lsX lsL up En)
open Ph (nb spX spB laX laD laN)
open Pk (nB)
open Da (wrE wrL rdE rdV ctL chs)
structure Op where
 K:Nat
 P:ByteArray
 T:ByteArray
 M:Nat
 O:Nat
 N:Nat
 D:ByteArray
def Op.lim (o:Op):Prop:=o.K<256∧o.M<65536∧o.O<4294967296∧o.N<4294967296∧o.P.size≤1048576∧o.T.size≤1048576∧o.D.size≤1048576
structure Pl where
 d:Nat
 k:ByteArray
 i:Nat
def zPl:Pl:=⟨0,ByteArray.empty,0⟩
def kI (i:Nat):ByteArray:=enK ⟨1,i,ByteArray.empty,0⟩
def kE (i:Nat) (n:ByteArray):ByteArray:=enK ⟨2,i,n,0⟩
def nd (L:List Itm) (i:Nat):In:=deI ((get L (kI i)).getD ByteArray.empty)
def enn (L:List Itm) (k:ByteArray):Nat:=match get L k with
 | some v=>numOf v
 | none=>0
noncomputable def ldX (L:List Itm) (p:ByteArray) (fo:Bool):Int:=if spX p=0 then (wlk L fo (spB p)).2 else spX p
noncomputable def ldI (L:List Itm) (p:ByteArray) (fo:Bool):Nat:=if ldX L p fo=0 then (wlk L fo (spB p)).1 else 0
noncomputable def ldN (L:List Itm) (p:ByteArray) (fo:Bool):In:=if ldX L p fo=0 then nd L (ldI L p fo) else zIn
noncomputable def fnX (L:List Itm) (p:ByteArray) (fo:Bool):Int:=if ldX L p fo=0∧(ldN L p fo).K=1 then 11 else ldX L p fo
noncomputable def fnI (L:List Itm) (p:ByteArray) (fo:Bool):Nat:=if fnX L p fo=0 then ldI L p fo else 0
noncomputable def fnN (L:List Itm) (p:ByteArray) (fo:Bool):In:=if fnX L p fo=0 then ldN L p fo else zIn
noncomputable def plX (L:List Itm) (p:ByteArray):Int:=if laX p≠0 then laX p else if (wlk L true (laD p)).2≠0 then (wlk L true (laD p)).2 else if (nd L (wlk L true (laD p)).1).K≠1 then 12 else 0
noncomputable def pl0 (L:List Itm) (p:ByteArray):Pl:=⟨(wlk L true (laD p)).1,kE (wlk L true (laD p)).1 (laN p),enn L (kE (wlk L true (laD p)).1 (laN p))⟩
noncomputable def pl (L:List Itm) (p:ByteArray):Pl:=if plX L p=0 then pl0 L p else zPl
noncomputable def nmX (L:List Itm) (p:ByteArray):Int:=if plX L p=0∧(pl L p).i=0 then 5 else plX L p
noncomputable def nm (L:List Itm) (p:ByteArray):Pl:=if nmX L p=0 then pl L p else zPl
noncomputable def frX (L:List Itm) (p:ByteArray):Int:=if plX L p=0∧(pl L p).i≠0 then 6 else plX L p
noncomputable def fr (L:List Itm) (p:ByteArray):Pl:=if frX L p=0 then pl L p else zPl
noncomputable def atX (L:List Itm) (o:Op):Int:=if ldX L o.P true≠0 then ldX L o.P true else if nb o.T=false then 10 else chK ⟨4,ldI L o.P true,o.T,0⟩
noncomputable def atK (L:List Itm) (o:Op):ByteArray:=if ldX L o.P true=0∧nb o.T=true then enK ⟨4,ldI L o.P true,o.T,0⟩ else ByteArray.empty
def kept (n:In) (i:Nat):Ch:=⟨kI i,true,enI n⟩
def names (p:Pl) (i:Nat):Ch:=⟨p.k,true,nB i 4⟩
def isFree (p:Pl):Ch:=⟨p.k,false,ByteArray.empty⟩
def less (n:Nat):Nat:=(n+4294967295)%4294967296
def gnK (L:List Itm) (i K:Nat):List Ch:=(und L (pfx K i)).map It.gone
def gn (L:List Itm) (i:Nat):List Ch:=gnK L i 1++(gnK L i 2++(gnK L i 3++gnK L i 4))
def letGo (L:List Itm) (p:Pl):List Ch:=if less (nd L p.i).L=0 then gn L p.i++[isFree p] else [isFree p,kept { nd L p.i with L:=less (nd L p.i).L } p.i]
noncomputable def nxt (L:List Itm):Nat:=@Classical.epsilon Nat ⟨0⟩ (Nx (vo (pts L)))
theorem nx_one {s:Vo}{i j:Nat}(h1:Nx s i) (h2:Nx s j):i=j:=by
 obtain⟨a1,a2,a3,a4⟩:=h1;obtain⟨b1,b2,b3,b4⟩:=h2;by_cases e:i<j
 ·have:=b4 i a1 e;rw [a3] at this;cases this
 ·by_cases e2:j<i
  ·have:=a4 j b1 e2;rw [b3] at this;cases this
  ·omega
theorem nxt_of {L:List Itm}{j:Nat}(h:Nx (vo (pts L)) j):nxt L=j:=nx_one (@Classical.epsilon_spec_aux Nat ⟨0⟩ (Nx (vo (pts L))) ⟨j,h⟩) h
def busy (L:List Itm) (i:Nat):Bool:=!(und L (pfx 2 i)).isEmpty
def Und (s:Vo) (d t:Nat):Prop:=∃ k,up s k d=t∧∀ j,j<k→up s j d≠1
noncomputable def undr (L:List Itm) (d t:Nat):Bool:=@decide (Und (vo (pts L)) d t) (Classical.propDecidable _)
def isD (L:List Itm) (i:Nat):Bool:=decide ((nd L i).K=1)
def rpX (L:List Itm) (i was:Nat):Int:=if isD L i&&!isD L was then 12 else if !isD L i&&isD L was then 11 else if isD L was&&busy L was then 13 else 0
noncomputable def crX (L:List Itm) (p:ByteArray) (n:In):Int:=if frX L p≠0 then frX L p else chI n
noncomputable def crC (L:List Itm) (p:ByteArray) (n:In):List Ch:=[kept n (nxt L),names (pl L p) (nxt L)]
noncomputable def hdX (L:List Itm) (o:Op):Int:=if fnX L o.P false≠0 then fnX L o.P false else if 1024≤(ldN L o.P false).L then 1 else frX L o.T
noncomputable def hdC (L:List Itm) (o:Op):List Ch:=[kept { ldN L o.P false with L:=(ldN L o.P false).L+1 } (ldI L o.P false),names (pl L o.T) (ldI L o.P false)]
noncomputable def wtX (L:List Itm) (o:Op):Int:=if fnX L o.P true≠0 then fnX L o.P true else wrE L (ldI L o.P true) o.O o.D
noncomputable def wtS (L:List Itm) (o:Op):Nat:=if o.D.size=0 then (ldN L o.P true).S else max (ldN L o.P true).S (o.O+o.D.size)
noncomputable def wtC (L:List Itm) (o:Op):List Ch:=wrL (chs L (ldI L o.P true)) (ldI L o.P true) o.O o.D.data.toList++[kept { ldN L o.P true with S:=wtS L o } (ldI L o.P true)]
noncomputable def cuX (L:List Itm) (o:Op):Int:=if fnX L o.P true≠0 then fnX L o.P true else rdE L (ldI L o.P true) o.N
noncomputable def cuC (L:List Itm) (o:Op):List Ch:=ctL (chs L (ldI L o.P true)) o.N++[kept { ldN L o.P true with S:=o.N } (ldI L o.P true)]
noncomputable def rnX (L:List Itm) (o:Op):Int:=if nmX L o.P≠0 then nmX L o.P else if plX L o.T≠0 then plX L o.T else if undr L (pl L o.T).d (pl L o.P).i then 7 else if (pl L o.T).i=(pl L o.P).i then 0 else if (pl L o.T).i=0 then 0 else rpX L (pl L o.P).i (pl L o.T).i
noncomputable def rnC (L:List Itm) (o:Op):List Ch:=if (pl L o.T).i=(pl L o.P).i then [] else (if (pl L o.T).i=0 then [] else letGo L (pl L o.T))++[isFree (pl L o.P),names (pl L o.T) (pl L o.P).i]
noncomputable def ulX (L:List Itm) (o:Op):Int:=if nmX L o.P≠0 then nmX L o.P else if isD L (pl L o.P).i then 11 else 0
noncomputable def rmX (L:List Itm) (o:Op):Int:=if nmX L o.P≠0 then nmX L o.P else if isD L (pl L o.P).i then (if busy L (pl L o.P).i then 13 else 0) else 12
noncomputable def moC (L:List Itm) (o:Op):List Ch:=[kept { ldN L o.P true with M:=o.M } (ldI L o.P true)]
noncomputable def saX (L:List Itm) (o:Op):Int:=if atX L o≠0 then atX L o else if 64<o.D.size then 2 else 0
noncomputable def daX (L:List Itm) (o:Op):Int:=if atX L o≠0 then atX L o else if (get L (atK L o)).isSome then 0 else 5
def apC (L:List Itm) (C:List Ch):List Ch:=dif L (if rc C then app L C else [])
structure Td where
 s:ByteArray
 i:Nat
 n:In
 e:List En
def zTd:Td:=⟨ByteArray.empty,0,zIn,[]⟩
noncomputable def reX (L:List Itm) (o:Op):Int:=if fnX L o.P true≠0 then fnX L o.P true else rdE L (ldI L o.P true) (ldN L o.P true).S
noncomputable def reT (L:List Itm) (o:Op):Td:={ zTd with s:=rdV L (ldI L o.P true) (ldN L o.P true).S o.O o.N }
noncomputable def stT (L:List Itm) (o:Op):Td:={ zTd with i:=ldI L o.P (decide (o.N=0)),n:=ldN L o.P (decide (o.N=0)) }
noncomputable def liX (L:List Itm) (o:Op):Int:=if ldX L o.P true≠0 then ldX L o.P true else lsX L (ldI L o.P true)
noncomputable def liT (L:List Itm) (o:Op):Td:={ zTd with e:=lsL L (ldI L o.P true) }
noncomputable def gaT (L:List Itm) (o:Op):Td:={ zTd with s:=(get L (atK L o)).getD ByteArray.empty }
noncomputable def chX (L:List Itm) (o:Op):Int :=
 if o.K=1 then crX L o.P ⟨2,o.M,1,0,ByteArray.empty⟩ else if o.K=2 then crX L o.P ⟨1,o.M,1,0,ByteArray.empty⟩ else if o.K=3 then crX L o.P ⟨3,o.M,1,o.T.size,o.T⟩
 else if o.K=4 then hdX L o else if o.K=6 then wtX L o else if o.K=7 then cuX L o else if o.K=8 then rnX L o else if o.K=9 then ulX L o else if o.K=10 then rmX L o
 else if o.K=13 then ldX L o.P true else if o.K=14 then saX L o else if o.K=16 then daX L o else 4
noncomputable def chC (L:List Itm) (o:Op):List Ch :=
 if o.K=1 then crC L o.P ⟨2,o.M,1,0,ByteArray.empty⟩ else if o.K=2 then crC L o.P ⟨1,o.M,1,0,ByteArray.empty⟩ else if o.K=3 then crC L o.P ⟨3,o.M,1,o.T.size,o.T⟩
 else if o.K=4 then hdC L o else if o.K=6 then wtC L o else if o.K=7 then cuC L o else if o.K=8 then rnC L o else if o.K=9 then letGo L (pl L o.P) else if o.K=10 then letGo L (pl L o.P)
 else if o.K=13 then moC L o else if o.K=14 then [⟨atK L o,true,o.D⟩] else if o.K=16 then [⟨atK L o,false,ByteArray.empty⟩] else []
noncomputable def tdX (L:List Itm) (o:Op):Int:=if o.K=5 then reX L o else if o.K=11 then ldX L o.P (decide (o.N=0)) else if o.K=12 then liX L o else daX L o
noncomputable def tdT (L:List Itm) (o:Op):Td:=if o.K=5 then reT L o else if o.K=11 then stT L o else if o.K=12 then liT L o else gaT L o
def tells (o:Op):Prop:=o.K=5∨o.K=11∨o.K=12∨o.K=15
instance (o:Op):Decidable (tells o):=by unfold tells;infer_instance
noncomputable def dX (L:List Itm) (o:Op):Int:=if rgt L then (if tells o then tdX L o else chX L o) else 9
noncomputable def dC (L:List Itm) (o:Op):List Ch:=if dX L o=0 then (if tells o then apC L [] else apC L (chC L o)) else []
noncomputable def dT (L:List Itm) (o:Op):Td:=if dX L o=0 then (if tells o then tdT L o else zTd) else zTd
noncomputable def aft (L:List Itm) (o:Op):List Itm:=if dX L o=0 then app L (dC L o) else L
end Go.Proofs.YtopepebcnaikiaaGreatDoor.Fi
namespace Go.Proofs.YtopepebcnaikiaaGreatDoor.Di
open Lib (hid)
open Ino
open It (Itm)
open Ph (nb)
variable {L:List Itm}
def kI (i:Nat):Ky:=⟨1,i,⟨#[]⟩,0⟩
theorem kI_lim {i:Nat}(hi:i<4294967296):(kI i).lim:=⟨show (1:Nat)<256 by decide,hi,show (0:Nat)<4294967296 by decide⟩
theorem kI_ok {i:Nat}(hi:1≤i):okK (kI i)=true:=okK_iff.2 ⟨hi,.inl ⟨rfl,rfl,rfl⟩⟩
theorem kI_of {k:Ky}(h:okK k=true) (h1:k.K=1):k=kI k.I∧1≤k.I:=by
 obtain⟨h2,h3⟩:=okK_iff.1 h;rcases h3 with h3 | h3 | h3
 ·refine⟨?_,h2⟩;obtain⟨K,I,⟨⟨N⟩⟩,C⟩:=k;obtain⟨h4,h5,h6⟩:=h3;dsimp only at h4 h6;subst h4 h6;have h7:N=[]:=List.eq_nil_of_length_eq_zero h5;subst h7;rfl
 ·rcases h3.1 with h | h<;>omega
 ·omega
theorem key_once (h:It.rt L=true){x y:Itm}(hx:x∈L) (hy:y∈L) (e:x.k=y.k):x=y:=by
 have hp:=List.pairwise_iff_getElem.1 (rt_all h).2;obtain⟨i,hi,rfl⟩:=List.mem_iff_getElem.1 hx;obtain⟨j,hj,rfl⟩:=List.mem_iff_getElem.1 hy;have hir:∀ a:List UInt8,By.bl a a≠true:=fun a h1=>by rw [By.bl_asymm a a h1] at h1;cases h1
 rcases Nat.lt_trichotomy i j with h1 | h1 | h1
 ·have h2:=hp i j hi hj h1;unfold It.key at h2;rw [e] at h2;exact absurd h2 (hir _)
 ·subst h1;rfl
 ·have h2:=hp j i hj hi h1;unfold It.key at h2;rw [e] at h2;exact absurd h2 (hir _)
end Go.Proofs.YtopepebcnaikiaaGreatDoor.Di
namespace Go.Proofs.YtopepebcnaikiaaGreatDoor.Fi
open Lib (hid)
open Ino
open It (Itm Ch get und app dif rt rc key UpK get_iff rt_iff rt_up)
open Di
open Ph (nb spX spB laX laD laN)
variable {L:List Itm}
theorem kI_wr {i:Nat}(hi:1≤i):Fi.kI i=wrK (Di.kI i):=(chK_yes (kI_ok hi)).2
theorem get_none {k:ByteArray}(h:rt L=true):get L k=none↔∀ x∈L,x.k≠k:=by
 constructor
 ·intro hg x hx e;obtain⟨a,b⟩:=x;have:get L a=some b:=(get_iff (rt_up h).1 a b).2 hx;rw [show a=k from e,hg] at this;cases this
 ·intro hn;cases e:get L k with
  | none=>rfl
  | some v=>exact absurd rfl (hn _ ((get_iff (rt_up h).1 k v).1 e))
theorem get_some {k v:ByteArray}(h:rt L=true):get L k=some v↔(⟨k,v⟩:Itm)∈L:=get_iff (rt_up h).1 k v
theorem ino_get (h:rt L=true) (hok:∀ x∈L,okX x=true){i:Nat}(h1:1≤i) (hi:i<4294967296):(vo (pts L)).ino i=(get L (Fi.kI i)).map deI:=by
 rw [kI_wr h1];have hk:=deK_back (kI_lim hi) (kI_ok h1);cases e:(vo (pts L)).ino i with
 | none =>
  cases g:get L (wrK (Di.kI i)) with
  | none=>rfl
  | some v =>
   have hx:=(get_some h).1 g;have h5:=ino_is (L:=pts L) (p:=ptOf ⟨wrK (Di.kI i),v⟩) (List.mem_map.2 ⟨_,hx,rfl⟩) (by show (deK (wrK (Di.kI i))).K=1;rw [hk.1];rfl);rw [show (ptOf ⟨wrK (Di.kI i),v⟩).k.I=i by show (deK (wrK (Di.kI i))).I=i;rw [hk.1];rfl,e] at h5;cases h5
 | some n =>
  obtain⟨p,hp,h2,h3,h4⟩:=ino_of _ e;obtain⟨x,hx,rfl⟩:=pts_mem hp;obtain⟨ho,hop⟩:=okX_1 (hok x hx);obtain⟨hk1,hk2,hk3⟩:=deK_ok ho;obtain⟨hk4,hk5⟩:=kI_of hk1 h2;have h3':(deK x.k).I=i:=h3;rw [h3'] at hk4;have hx':x=⟨wrK (Di.kI i),x.v⟩:=by
   rw [← hk4,hk2]
  have g:get L (wrK (Di.kI i))=some x.v:=(get_some h).2 (by rw [← hx'];exact hx);rw [g,h4];rfl
theorem ent_get (h:rt L=true) (hok:∀ x∈L,okX x=true){k:Ky}(hk:okK k=true) (hl:k.lim) (h2:k.K=2):(vo (pts L)).ent k=(get L (wrK k)).map numOf:=by
 have hb:=deK_back hl hk;cases e:(vo (pts L)).ent k with
 | none =>
  cases g:get L (wrK k) with
  | none=>rfl
  | some v =>
   have hx:=(get_some h).1 g;have h5:=ent_is (L:=pts L) (p:=ptOf ⟨wrK k,v⟩) (List.mem_map.2 ⟨_,hx,rfl⟩) (by show (deK (wrK k)).K=2;rw [hb.1];exact h2);rw [show (ptOf ⟨wrK k,v⟩).k=k from hb.1,e] at h5;cases h5
 | some n =>
  obtain⟨p,hp,h3,h4,h5⟩:=ent_of _ e;obtain⟨x,hx,rfl⟩:=pts_mem hp;obtain⟨ho,hop⟩:=okX_1 (hok x hx);obtain⟨hk1,hk2,hk3⟩:=deK_ok ho;have h4':deK x.k=k:=h4;have hx':x=⟨wrK k,x.v⟩:=by rw [← h4',hk2]
  have g:get L (wrK k)=some x.v:=(get_some h).2 (by rw [← hx'];exact hx);rw [g,h5];rfl
theorem enn_ent (h:rgt L=true){k:Ky}(hk:okK k=true) (hl:k.lim) (h2:k.K=2):enn L (enK k)=((vo (pts L)).ent k).getD 0:=by
 have hr:=rgt_iff.1 h;rw [ent_get hr.rt hr.ok hk hl h2];unfold enn;rw [(chK_yes hk).2];cases get L (wrK k)<;>rfl
theorem nd_ino (h:rgt L=true){i:Nat}(h1:1≤i) (hi:i<4294967296):nd L i=((vo (pts L)).ino i).getD zIn:=by
 have hr:=rgt_iff.1 h;rw [ino_get hr.rt hr.ok h1 hi];unfold nd;cases get L (Fi.kI i) with
 | none=>rfl
 | some v=>rfl
theorem ent_ino (h:rgt L=true) (k:Ky) (j:Nat) (he:(vo (pts L)).ent k=some j):((vo (pts L)).ino j).isSome=true:=by
 obtain⟨p,hp,h2,rfl,rfl⟩:=ent_of _ he;obtain⟨n,hn⟩:=(stray_2 ((rgt_iff.1 h).str p hp) h2).2;rw [he] at hn;have hn':(vo (pts L)).ino (numOf p.v)=some n:=hn;rw [hn'];rfl
theorem wlk_some (h:rgt L=true){fo:Bool}{D:List ByteArray}(h0:(wlk L fo D).2=0):∃ n,(vo (pts L)).ino (wlk L fo D).1=some n∧(fo=true→n.K≠3):=by
 have hr:=rgt_iff.1 h;have hE:∀ k j,(vo (pts L)).ent k=some j→((vo (pts L)).ino j).isSome=true:=fun k j hk=>ent_ino h _ _ hk
 have hroot:((vo (pts L)).ino 1).isSome=true:=by
  obtain⟨n,hn,_⟩:=kind_some (s:=vo (pts L)) (i:=1) (by rw [hr.root];decide);rw [hn];rfl
 have hw:=wkL_lnk (vo (pts L)) hE hr.root 8 D 1 (by rw [hr.root];decide) hroot;unfold wlk at h0 ⊢;rw [h] at h0 ⊢;simp only [if_true] at h0 ⊢;cases fo
 ·obtain⟨n,hn⟩:=Option.isSome_iff_exists.1 (hw.2.2 h0).1;exact⟨n,hn,fun h=>by cases h⟩
 ·obtain⟨a,b,c⟩:=hw.1 h0;obtain⟨n,hn⟩:=Option.isSome_iff_exists.1 b;refine⟨n,hn,fun _ e=>a ?_⟩;unfold kind;rw [hn];exact e
theorem ino_num (h:rgt L=true){i:Nat}{n:In}(hn:(vo (pts L)).ino i=some n):1≤i∧i<4294967296∧okI n=true∧n.lim:=by
 have hr:=rgt_iff.1 h;obtain⟨p,hp,h2,h3,h4⟩:=ino_of _ hn;have hq:=rgt_parts h p hp;have h5:=okP_1 hq.2.1 h2;refine⟨?_,?_,?_,?_⟩
 ·have:=(okK_iff.1 hq.2.2).1;omega
 ·exact key_lt (fun p hp=>(rgt_parts h p hp).1) i (by rw [hn];rfl)
 ·rw [h4];exact deI_ok h5
 ·rw [h4];exact (Ino.deI_ok h5).2.2
end Go.Proofs.YtopepebcnaikiaaGreatDoor.Fi
namespace Go.Proofs.YtopepebcnaikiaaGreatDoor.Fi
open Lib (hid)
open Ino
open It (Itm Ch get und app dif rt rc key ckey UpK get_iff rt_iff rt_up don mem_app mem_don up_app itm)
open Di
open Ph (nb spX spB laX laD laN)
variable {L L':List Itm}{s s':Vo}{C:List Ch}
theorem vo_ents (ps:List Pt):(vo ps).nmd=(vo (ps.filter fun p=>decide (p.k.K=2))).nmd∧(vo ps).abv=(vo (ps.filter fun p=>decide (p.k.K=2))).abv∧(vo ps).ent=(vo (ps.filter fun p=>decide (p.k.K=2))).ent:=by
 induction ps using snocRec with
 | h0=>exact⟨rfl,rfl,rfl⟩
 | h1 ps p ih =>
  obtain⟨i1,i2,i3⟩:=ih;rw [List.filter_append,vo_snoc];by_cases h:p.k.K=2
  ·have e:[p].filter (fun p=>decide (p.k.K=2))=[p]:=by simp [h]
   rw [e,vo_snoc];unfold takeP;rw [if_neg (by omega),if_pos h,if_neg (by omega),if_pos h];unfold takeE;dsimp only;rw [i1,i2,i3];exact⟨rfl,rfl,rfl⟩
  ·have e:[p].filter (fun p=>decide (p.k.K=2))=[]:=by simp [h]
   rw [e,List.append_nil];unfold takeP;by_cases h1:p.k.K=1
   ·rw [if_pos h1];exact⟨i1,i2,i3⟩
   ·rw [if_neg h1,if_neg h];exact⟨i1,i2,i3⟩
def isEn (x:Itm):Bool:=decide ((deK x.k).K=2)
theorem pts_ents (L:List Itm):(pts L).filter (fun p=>decide (p.k.K=2))=pts (L.filter isEn):=by
 unfold pts;rw [List.filter_map];rfl
theorem ents_app (h:rt L=true) (hC:∀ c∈C,(deK c.k).K≠2):(app L C).filter isEn=L.filter isEn:=by
 have hu:=(rt_up h).1;refine It.up_ext (UpK.sub (up_app C hu) List.filter_sublist) (UpK.sub hu List.filter_sublist) fun x=>?_
 rw [List.mem_filter,List.mem_filter,mem_app];have hne:isEn x=true→∀ c∈C,ckey c≠key x:=fun hx c hc e=>by
  have e2:c.k=x.k:=ByteArray.ext (Array.toList_inj.1 e);have h3:=hC c hc;rw [e2] at h3;exact h3 (of_decide_eq_true hx)
 constructor
 ·rintro ⟨h1 | ⟨c,hl,hh,rfl⟩,h2⟩
  ·exact⟨h1.1,h2⟩
  ·exact absurd rfl (hne h2 c hl.mem)
 ·rintro ⟨h1,h2⟩;exact⟨.inl ⟨h1,hne h2⟩,h2⟩
theorem nmd_app (h:rt L=true) (hC:∀ c∈C,(deK c.k).K≠2):(vo (pts (app L C))).nmd=(vo (pts L)).nmd∧(vo (pts (app L C))).abv=(vo (pts L)).abv∧(vo (pts (app L C))).ent=(vo (pts L)).ent:=by
 obtain⟨a1,a2,a3⟩:=vo_ents (pts (app L C));obtain⟨b1,b2,b3⟩:=vo_ents (pts L);rw [pts_ents,ents_app h hC,← pts_ents] at a1 a2 a3;exact⟨a1.trans b1.symm,a2.trans b2.symm,a3.trans b3.symm⟩
structure Sim (s s':Vo):Prop where
 ent:s'.ent=s.ent
 nmd:s'.nmd=s.nmd
 abv:s'.abv=s.abv
 ino:∀ i,(s'.ino i).map (fun n=>(n.K,n.L,n.S,n.T))=(s.ino i).map (fun n=>(n.K,n.L,n.S,n.T))
theorem Sim.some (h:Sim s s'){i:Nat}{n:In}(hn:s.ino i=some n):∃ m,s'.ino i=some m∧m.K=n.K∧m.L=n.L∧m.S=n.S∧m.T=n.T:=by
 have:=h.ino i;rw [hn] at this;cases e:s'.ino i with
 | none=>rw [e] at this;cases this
 | some m =>
  rw [e] at this;simp only [Option.map_some,Option.some.injEq,Prod.mk.injEq] at this;exact⟨m,rfl,this⟩
theorem Sim.none (h:Sim s s'){i:Nat}(hn:s.ino i=none):s'.ino i=none:=by
 have:=h.ino i;rw [hn] at this;cases e:s'.ino i with
 | none=>rfl
 | some m=>rw [e] at this;cases this
theorem Sim.kind (h:Sim s s') (i:Nat):kind s' i=kind s i:=by
 unfold Di.kind;cases e:s.ino i with
 | none=>rw [h.none e]
 | some n=>obtain⟨m,hm,h1,_⟩:=h.some e;rw [hm];exact h1
theorem Sim.up (h:Sim s s'):∀ k i,up s' k i=up s k i
 | 0,_=>rfl
 | k+1,i=>by
  show Di.up s' k (s'.abv i)=Di.up s k (s.abv i)
  rw [h.abv,h.up k]
theorem Sim.stray (h:Sim s s') (p:Pt):stray s' p=stray s p:=by
 unfold Di.stray;rw [h.nmd,h.ent];cases e:s.ino p.k.I with
 | none=>rw [h.none e]
 | some n =>
  obtain⟨m,hm,h1,h2,h3,_⟩:=h.some e;rw [hm];dsimp only;rw [h1,h2,h3];have:(s'.ino ((s.ent p.k).getD 0)).isNone=(s.ino ((s.ent p.k).getD 0)).isNone:=by
   cases e2:s.ino ((s.ent p.k).getD 0) with
   | none=>rw [h.none e2]
   | some n=>obtain⟨m,hm,_⟩:=h.some e2;rw [hm];rfl
  rw [this]
theorem Sim.allUp (h:Sim s s') (hu:AllUp s):AllUp s':=by
 intro i n hn hk;cases e:s.ino i with
 | none=>rw [h.none e] at hn;cases hn
 | some m =>
  obtain⟨q,hq,h1,_⟩:=h.some e;rw [hn] at hq;cases hq;obtain⟨k,hk2⟩:=hu i m e (by rw [← h1];exact hk);exact⟨k,by rw [h.up];exact hk2⟩
theorem right_sim (h:Right L) (hrc:rc C=true) (hS:Sim (vo (pts L)) (vo (pts (app L C)))) (hok:∀ c∈C,c.h=true→okX (itm c)=true∧stray (vo (pts L)) (ptOf (itm c))=false):Right (app L C):=by
 refine⟨It.rt_app h.rt hrc,?_,by rw [hS.kind];exact h.root,?_,hS.allUp h.ups⟩
 ·intro x hx;rcases (mem_app L x C).1 hx with h1 | ⟨c,hl,hh,rfl⟩
  ·exact h.ok x h1.1
  ·exact (hok c hl.mem hh).1
 ·intro p hp;obtain⟨x,hx,rfl⟩:=pts_mem hp;rw [hS.stray];rcases (mem_app L x C).1 hx with h1 | ⟨c,hl,hh,rfl⟩
  ·exact h.str _ (List.mem_map.2 ⟨x,h1.1,rfl⟩)
  ·exact (hok c hl.mem hh).2
end Go.Proofs.YtopepebcnaikiaaGreatDoor.Fi
namespace Go.Proofs.YtopepebcnaikiaaGreatDoor.Fi
open Lib (hid)
open Ino
open It (Itm Ch get und app dif rt rc key ckey UpK get_iff rt_iff rt_up don mem_app mem_don up_app itm get_don app_cons app_nil okC okKey)
open Di
open Ph (nb spX spB laX laD laN)
variable {L L':List Itm}{s s':Vo}{C:List Ch}
theorem ino_all (h:rt L=true) (hok:∀ x∈L,okX x=true) (i:Nat):(vo (pts L)).ino i=if 1≤i∧i<4294967296 then (get L (Fi.kI i)).map deI else none:=by
 by_cases hi:1≤i∧i<4294967296
 ·rw [if_pos hi,ino_get h hok hi.1 hi.2]
 ·rw [if_neg hi];cases e:(vo (pts L)).ino i with
  | none=>rfl
  | some n =>
   obtain⟨p,hp,h2,h3,h4⟩:=ino_of _ e;obtain⟨x,hx,rfl⟩:=pts_mem hp;obtain⟨ho,hop⟩:=okX_1 (hok x hx);obtain⟨hk1,hk2,hk3⟩:=deK_ok ho;have h6:=(okK_iff.1 hk1).1;have h7:=hk3.2.1;have h3':(deK x.k).I=i:=h3;rw [h3'] at h6 h7;exact absurd ⟨h6,h7⟩ hi
theorem wrK_list {a b:Ky}(la:a.lim) (lb:b.lim) (ha:okK a=true) (hb:okK b=true):(wrK a).data.toList=(wrK b).data.toList↔a=b :=
 ⟨fun h=>wrK_inj la lb ha hb (ByteArray.ext (Array.toList_inj.1 h)),fun h=>by rw [h]⟩
theorem okKey_wr {q:Ky}(h:okK q=true):okKey (wrK q)=true:=by
 obtain⟨_,_,h1,h2⟩:=wrK_pfx h;unfold okKey;rw [Bool.and_eq_true,decide_eq_true_iff,decide_eq_true_iff];omega
theorem rc_one {q:Ky}(h:okK q=true) (b:Bool) (v:ByteArray) (hv:v.size≤160) (hb:b=false→v=ByteArray.empty):rc [⟨wrK q,b,v⟩]=true:=by
 unfold rc;rw [List.all_cons,List.all_nil,Bool.and_true];unfold okC;dsimp only;rw [okKey_wr h,decide_eq_true hv];cases b
 ·rw [hb rfl,ByteArray.toList_eq];rfl
 ·rfl
theorem rgt_up (h:rgt L=true):UpK key L:=(rt_up (rgt_iff.1 h).rt).1
theorem attr_right (h:rgt L=true){i:Nat}{n:In}(hn:(vo (pts L)).ino i=some n){m:ByteArray}(hm:nb m=true) (b:Bool) (v:ByteArray) (hv:v.size≤64) (hb:b=false→v=ByteArray.empty) :
  rgt (app L [⟨wrK ⟨4,i,m,0⟩,b,v⟩])=true∧vo (pts (app L [⟨wrK ⟨4,i,m,0⟩,b,v⟩]))=vo (pts L)∧rc [(⟨wrK ⟨4,i,m,0⟩,b,v⟩:Ch)]=true:=by
 have hr:=rgt_iff.1 h;obtain⟨h1,h2,_,_⟩:=ino_num h hn;have hq:okK ⟨4,i,m,0⟩=true:=okK_iff.2 ⟨h1,.inr (.inl ⟨.inr rfl,hm,rfl⟩)⟩;have hl:Ky.lim ⟨4,i,m,0⟩:=⟨show (4:Nat)<256 by decide,h2,show (0:Nat)<4294967296 by decide⟩;have hd:=deK_back hl hq;have hrc:=rc_one hq b v (by omega) hb;have hne:∀ c∈[(⟨wrK ⟨4,i,m,0⟩,b,v⟩:Ch)],(deK c.k).K≠2:=fun c hc=>by
  obtain rfl:c=⟨wrK ⟨4,i,m,0⟩,b,v⟩:=by simpa using hc
  show (deK (wrK ⟨4,i,m,0⟩)).K≠2
  rw [hd.1];show (4:Nat)≠2;decide
 obtain⟨a1,a2,a3⟩:=nmd_app hr.rt hne;have hok:okX (itm (⟨wrK ⟨4,i,m,0⟩,b,v⟩:Ch))=true:=by
  unfold okX;rw [show (itm (⟨wrK ⟨4,i,m,0⟩,b,v⟩:Ch)).k=wrK ⟨4,i,m,0⟩ from rfl,hd.2];unfold okP ptOf itm;dsimp only;rw [hd.1];dsimp only;rw [if_neg (by decide),if_neg (by decide),if_neg (by decide),decide_eq_true hv];rfl
 have hokL:∀ x∈app L [⟨wrK ⟨4,i,m,0⟩,b,v⟩],okX x=true:=fun x hx=>by
  rcases (mem_app L x _).1 hx with h5 | ⟨c,hc,hh,rfl⟩
  ·exact hr.ok x h5.1
  ·obtain rfl:c=⟨wrK ⟨4,i,m,0⟩,b,v⟩:=by simpa using hc.mem
   exact hok
 have hrt:=It.rt_app hr.rt hrc;have hino:(vo (pts (app L [⟨wrK ⟨4,i,m,0⟩,b,v⟩]))).ino=(vo (pts L)).ino:=by
  funext j
  rw [ino_all hrt hokL,ino_all hr.rt hr.ok];by_cases hj:1≤j∧j<4294967296
  ·rw [if_pos hj,if_pos hj,app_cons,app_nil,get_don (rt_up hr.rt).1,kI_wr hj.1,if_neg];intro e;have:=(wrK_list hl (kI_lim hj.2) hq (kI_ok hj.1)).1 e;exact absurd (show (4:Nat)=1 from congrArg Ky.K this) (by decide)
  ·rw [if_neg hj,if_neg hj]
 have hvo:vo (pts (app L [⟨wrK ⟨4,i,m,0⟩,b,v⟩]))=vo (pts L):=by
  generalize vo (pts (app L [⟨wrK ⟨4,i,m,0⟩,b,v⟩]))=s' at *;generalize vo (pts L)=s at *;obtain⟨x1,x2,x3,x4⟩:=s;obtain⟨y1,y2,y3,y4⟩:=s';dsimp only at hino a1 a2 a3;rw [hino,a1,a2,a3]
 refine⟨rgt_iff.2 (right_sim hr hrc ⟨a3,a1,a2,fun j=>by rw [hino]⟩ fun c hc hh=>?_),hvo,hrc⟩;obtain rfl:c=⟨wrK ⟨4,i,m,0⟩,b,v⟩:=by simpa using hc
 refine⟨hok,?_⟩;unfold stray ptOf itm;dsimp only;rw [hd.1];dsimp only;rw [hn];rfl
theorem stray_of_1 {p:Pt}{n:In}(h1:p.k.K=1) (hn:s.ino p.k.I=some n) (h:p.k.I=1∨s.nmd p.k.I=n.L):stray s p=false:=by
 unfold stray;rw [hn];dsimp only;rw [if_pos h1];rcases h with h | h<;>simp [h]
theorem okI_like {n m:In}(h:okI n=true) (hK:m.K=n.K) (hL:m.L=n.L) (hS:m.S=n.S) (hT:m.T=n.T):okI m=true:=by
 rw [okI_iff] at h ⊢;rw [hK,hL,hS,hT];exact h
theorem like_right (h:rgt L=true){i:Nat}{n m:In}(hn:(vo (pts L)).ino i=some n) (hK:m.K=n.K) (hL:m.L=n.L) (hS:m.S=n.S) (hT:m.T=n.T) (hlim:m.lim) :
  rgt (app L [kept m i])=true∧Sim (vo (pts L)) (vo (pts (app L [kept m i])))∧rc [kept m i]=true∧(vo (pts (app L [kept m i]))).ino i=some m:=by
 have hr:=rgt_iff.1 h;obtain⟨h1,h2,h3,h4⟩:=ino_num h hn;have hq:=kI_ok h1;have hl:=kI_lim h2;have hd:=deK_back hl hq;have ho:=okI_like h3 hK hL hS hT;have hde:=deI_back hlim ho;have hsz:(wrI m).size≤160:=by
  have h5:=(okI_size ho).1;rw [wrI_size _ (by omega)];omega
 have hkc:kept m i=⟨wrK (Di.kI i),true,wrI m⟩:=by
  unfold kept;rw [kI_wr h1,(chI_yes ho).2]
 rw [hkc];have hsm:(some m).map (fun n=>(n.K,n.L,n.S,n.T))=(some n).map (fun n=>(n.K,n.L,n.S,n.T)):=by rw [Option.map_some,Option.map_some,hK,hL,hS,hT]
 generalize wrI m=v at *;have hrc:=rc_one hq true v hsz (fun h=>by cases h);have hkk:(⟨wrK (Di.kI i),true,v⟩:Ch).k=wrK (Di.kI i):=rfl;have hkv:itm (⟨wrK (Di.kI i),true,v⟩:Ch)=⟨wrK (Di.kI i),v⟩:=rfl;have hck:ckey (⟨wrK (Di.kI i),true,v⟩:Ch)=(wrK (Di.kI i)).data.toList:=rfl;have hch:(⟨wrK (Di.kI i),true,v⟩:Ch).h=true:=rfl;have hcv:(⟨wrK (Di.kI i),true,v⟩:Ch).v=v:=rfl;generalize (⟨wrK (Di.kI i),true,v⟩:Ch)=c at *;have hne:∀ c'∈[c],(deK c'.k).K≠2:=fun c' hc=>by
  obtain rfl:c'=c:=by simpa using hc
  rw [hkk,hd.1];show (1:Nat)≠2
  decide
 obtain⟨a1,a2,a3⟩:=nmd_app hr.rt hne;have hok:okX (itm c)=true:=by
  unfold okX;rw [hkv];dsimp only;rw [hd.2];unfold okP ptOf;dsimp only;rw [hd.1,if_pos (show (Di.kI i).K=1 from rfl),hde.2];rfl
 have hokL:∀ x∈app L [c],okX x=true:=fun x hx=>by
  rcases (mem_app L x _).1 hx with h5 | ⟨c',hc,hh,rfl⟩
  ·exact hr.ok x h5.1
  ·obtain rfl:c'=c:=by simpa using hc.mem
   exact hok
 have hrt:=It.rt_app hr.rt hrc;have hino:∀ j,(vo (pts (app L [c]))).ino j=if j=i then some m else (vo (pts L)).ino j:=by
  intro j;rw [ino_all hrt hokL,ino_all hr.rt hr.ok];by_cases hj:1≤j∧j<4294967296
  ·rw [if_pos hj,if_pos hj,app_cons,app_nil,get_don (rt_up hr.rt).1,kI_wr hj.1,hck,hch,hcv];by_cases e:j=i
   ·subst e;rw [if_pos rfl,if_pos rfl,if_pos rfl,Option.map_some,hde.1]
   ·rw [if_neg e,if_neg];intro e2;have:=(wrK_list hl (kI_lim hj.2) hq (kI_ok hj.1)).1 e2;exact e (congrArg Ky.I this).symm
  ·rw [if_neg hj,if_neg hj,if_neg (fun e=>hj (by rw [e];exact⟨h1,h2⟩))]
 have hS:Sim (vo (pts L)) (vo (pts (app L [c]))):=⟨a3,a1,a2,fun j=>by
  rw [hino];by_cases e:j=i
  ·rw [if_pos e,e,hn];exact hsm
  ·rw [if_neg e]⟩
 refine⟨rgt_iff.2 (right_sim hr hrc hS fun c' hc hh=>?_),hS,hrc,by rw [hino,if_pos rfl]⟩;obtain rfl:c'=c:=by simpa using hc
 refine⟨hok,?_⟩;have hi:(ptOf (itm c')).k=Di.kI i:=by rw [hkv];unfold ptOf;dsimp only;rw [hd.1]
 have hi1:(ptOf (itm c')).k.I=i:=by rw [hi];rfl
 have hi2:(ptOf (itm c')).k.K=1:=by rw [hi];rfl
 refine stray_of_1 hi2 (by rw [hi1];exact hn) ?_;rw [hi1];cases hg:(get L (wrK (Di.kI i))) with
 | none =>
  have:=ino_get hr.rt hr.ok h1 h2;rw [hn,kI_wr h1,hg] at this;cases this
 | some u =>
  have hx:=(get_some hr.rt).1 hg;have h5:=hr.str (ptOf ⟨wrK (Di.kI i),u⟩) (List.mem_map.2 ⟨_,hx,rfl⟩);have hj:(ptOf (⟨wrK (Di.kI i),u⟩:Itm)).k=Di.kI i:=by unfold ptOf;dsimp only;rw [hd.1]
  generalize ptOf (⟨wrK (Di.kI i),u⟩:Itm)=p at *;have hj1:p.k.I=i:=by rw [hj];rfl
  have hj2:p.k.K=1:=by rw [hj];rfl
  have h6:=stray_1 h5 hj2 (by rw [hj1];exact hn);rw [hj1] at h6;exact h6
end Go.Proofs.YtopepebcnaikiaaGreatDoor.Fi
namespace Go.Proofs.YtopepebcnaikiaaGreatDoor.Fr
open Lib (hid)
open Go.ChangeShapes Go.WideShapes Go.RowKit Go.Deep
open Ar
theorem list_of {α:Type}{p:Nat→α→Prop}:∀ n:Nat,(∀ i,i<n→∃ x,p i x)→∃ D:List α,D.length=n∧∀ i x,D[i]?=some x→p i x
 | 0,_=>⟨[],rfl,fun i x h=>by simp at h⟩
 | n+1,h=>by
  obtain⟨D,h1,h2⟩:=list_of n fun i hi=>h i (by omega)
  obtain⟨y,hy⟩:=h n (by omega);refine⟨D++[y],by simp [h1],fun i x hx=>?_⟩;rcases Nat.lt_or_ge i n with hlt | hge
  ·rw [List.getElem?_append_left (by omega)] at hx;exact h2 i x hx
  ·rw [List.getElem?_append_right (by omega),h1] at hx;have:i=n:=by
    rcases Nat.lt_or_ge n i with h3 | h3
    ·rw [List.getElem?_eq_none (by simp;omega)] at hx;cases hx
    ·omega
   subst this;simp at hx;subst hx;exact hy
section
variable {H:Type}{enc:TypeId×Value→H}{P:Program}{w:World}{base:Nat}{spare:Nat→Bool}{held:Bool}
theorem open_ls {α:Type}(en:α→List Value) (k:Nat){t e:TypeId}{fuel:Nat}{v:Value}{x:DataW H×List MemPlace}(ht:P.underlying t=some (.slice e)) (hk:P.cellsOf e=k) (hk0:0<k)
  (hr:∀ n cs y,cs.length=k→DataW.trod enc P w base spare held n e cs=some y→∃ x:α,cs=en x) (hv:v.cells=#[v]) (h:DataW.trod enc P w base spare held fuel t v.cells.toList=some x) :
  (v=.slice none 0 0∧x.1=.nil)∨∃ A n c m D,v=.slice A n c∧n=List.length D∧n≤c∧c≤maxLen∧Ls en k w w.heap.size A D∧∃ E F,x.1=.slice E F∧E.length=n∧E.length+F.length=m:=by
 rw [hv] at h;rcases open_slice ht h with ⟨h1,h2⟩ | ⟨a,len,cap,m,n,D,Pl,hcs,hb,hl,hm,hmm,hx,hi⟩
 ·left;simp at h1;exact⟨h1,by rw [h2]⟩
 ·right;have hlm:len≤m:=by rw [hmm];split<;>omega
  simp at hcs;rw [hk] at hi;obtain⟨L,hL1,hL2⟩:=list_of (α:=α) (p:=fun i x=>∃ b o,(some a:Option Addr)=some ⟨b,o,none⟩∧b<w.heap.size∧w.rangeAt b (o+i*k) (en x)) len fun i hil=>by
   have hspot:a.spot=none:=by
    obtain⟨cs',h1,h2⟩:=hi 0 (by omega);obtain⟨_,hlen,hcell⟩:=World.cells?_some h1;have hc0:=(hcell 0 hk0).trans (List.getElem?_eq_getElem (by omega));rw [add_add,Nat.zero_mul] at hc0;have:=World.cell?_spot hc0;simpa [Addr.add] using this
   obtain⟨cs',h1,h2⟩:=hi i (by omega);obtain⟨_,hlen,hcell⟩:=World.cells?_some h1;obtain⟨x,rfl⟩:=hr _ _ _ hlen h2;have hc0:=(hcell 0 hk0).trans (List.getElem?_eq_getElem (by omega));rw [add_add] at hc0;obtain⟨b,o,spot⟩:=a;simp only at hspot;subst hspot;refine⟨x,b,o,rfl,?_,fun j u hu=>?_⟩
   ·have:=World.block_lt_of_cell? w _ hc0;rw [Ar.add_plain] at this;exact this
   ·have hj:j<k:=by rw [← hlen];exact (List.getElem?_eq_some_iff.1 hu).1
    have:=hcell j hj;rw [add_add,Ar.add_plain,← Nat.add_assoc,hu] at this;exact this
  refine⟨some a,len,cap,m,L,hcs,hL1.symm,hl,hm,hL2,(List.range len).map D,(List.range (m-len)).map fun j=>D (len+j),by rw [hx],by simp,?_⟩;simp;omega
end
open Go.Joins Go.ChangeShapes Go.WideShapes Go.RowKit Go.Deep
open Ar
theorem bulk_one {H:Type}(d:DataW H):1≤Rows.uptoBulk d:=by
 cases d with
 | lit l=>cases l<;>simp [Rows.uptoBulk]
 | _=>simp [Rows.uptoBulk]
theorem bulk_len {H:Type}:∀ l:List (DataW H),l.length≤Rows.uptoBulkAll l
 | []=>Nat.zero_le _
 | d::r=>by
  have h1:=bulk_one d;have h2:=bulk_len r;simp only [Rows.uptoBulkAll,List.length_cons];omega
theorem bulk_in {H:Type}{d:DataW H}:∀ {l:List (DataW H)},d∈l→Rows.uptoBulk d≤Rows.uptoBulkAll l
 | x::r,h=>by
  simp only [Rows.uptoBulkAll];rcases List.mem_cons.1 h with rfl | h
  ·omega
  ·have:=bulk_in h;omega
theorem bulk_slice {H:Type}{l:List (DataW H)}(hk:Rows.uptoSmall H l=true){d:DataW H}(hd:d∈l){E F:List (DataW H)}(he:d=.slice E F):E.length≤1048576:=by
 have h1:Rows.uptoBulkAll l≤1048576:=of_decide_eq_true hk;have h2:=bulk_in hd;subst he;have h3:=bulk_len E;simp only [Rows.uptoBulk] at h2;omega
section
variable {H:Type}{enc:TypeId×Value→H}{w:World}{base:Nat}{spare:Nat→Bool}{held:Bool}
theorem c9:Tryz.prog.cellsOf 9=1:=by kernel_rfl
theorem c4:Tryz.prog.cellsOf 4=1:=by kernel_rfl
theorem readI {n:Nat}{cs:List Value}{y:DataW H×List MemPlace}(hl:cs.length=2) (h:DataW.trod enc Tryz.prog w base spare held n 90 cs=some y):∃ x:It.Itm,cs=It.enc x:=by
 obtain⟨xs,m,_,_,_,hxl,hf⟩:=DataW.trod_struct Tryz.underlying90 h;have g0:DataW.trod enc Tryz.prog w base spare held m 9 ((cs.drop 0).take (Tryz.prog.cellsOf 9))=xs[0]?:=hf 0 _ rfl;have g1:DataW.trod enc Tryz.prog w base spare held m 9 ((cs.drop 1).take (Tryz.prog.cellsOf 9))=xs[1]?:=hf 1 _ rfl;rw [c9] at g0 g1
 match cs,hl with
 | [v0,v1],_ =>
  match xs,hxl with
  | [x0,x1],_ =>
   obtain⟨s0,e0,_⟩:=DataW.trod_string Tryz.underlying9 (g0.trans rfl:_=some x0);obtain⟨s1,e1,_⟩:=DataW.trod_string Tryz.underlying9 (g1.trans rfl:_=some x1);simp at e0 e1;exact⟨⟨s0,s1⟩,by rw [e0,e1];rfl⟩
theorem cI:Tryz.prog.cellsOf 90=2:=by kernel_rfl
theorem argI {v:Value}{d:DataW H}{p:List MemPlace}(h:DataW.Trod enc Tryz.prog w base spare held 22 v d p) (hv:v.cells=#[v]) :
  ∃ A n c D,v=.slice A n c∧n=List.length D∧n≤c∧c≤maxLen∧Ls It.enc 2 w w.heap.size A D∧(n=0∨∃ E F,d=.slice E F∧E.length=n):=by
 obtain⟨fuel,hf⟩:=h;rcases open_ls It.enc 2 Tryz.underlying22 cI (by decide) (fun n cs y hl h=>readI hl h) hv hf with ⟨h1,h2⟩ | ⟨A,n,c,m,D,h1,h2,h3,h4,h5,E,F,h6,h7,_⟩
 ·exact⟨none,0,0,[],h1,rfl,Nat.le_refl _,Nat.zero_le _,Ls.nil,.inl rfl⟩
 ·exact⟨A,n,c,D,h1,h2,h3,h4,h5,.inr ⟨E,F,h6,h7⟩⟩
end
open Go.Joins Go.ChangeShapes
section
variable {H:Type}{enc:TypeId×Value→H}
theorem cond_and {a:Assume}{C:Checked}{os:Os}{f:FuncId}{fn:Func}{s:OpenSpec}{k:(H:Type)→List (DataW H)→Bool}(hk:s.cond=some k){F:Stop.Interp}{conds:List PathCond}{apart fresh handsOn again:Bool}{X:World→Array Value→Prop}
  (hX:∀ (w w':World) (args:Array Value),w.heap=w'.heap→X w args→X w' args)
  (own:ownKnob C.prog.godebug=none) (started:os.Started) (noInit:C.prog.inits.idxOf? f=none) (hfn:C.prog.funcs[f]?=some fn)
  (witness:∃ (w:World) (tape:Tape) (i:Input),w.os=os∧(w.forCall tape i).Shaped C.prog∧i.vars=[]∧Input.okWide C.prog (w.forCall tape i) .any w.heap.size f i ∧
   ((s.pre enc C.prog fn conds apart (w.forCall tape i).memory i.args∧X (w.forCall tape i).memory i.args)∧sizedMet enc C.prog fn s apart (w.forCall tape i).memory i.args)∧a.holds C.prog (lone (Frame.enter C.prog f i.args .normal) [] (w.forCall tape i)))
  (contract:∀ (W:World) (base:Nat) (args:Array Value) (ds gs:List (DataW H)) (before:List MemPlace),
   (∀ (j:Nat) t v,fn.params[j]?=some t→args[j]?=some v→Value.okWide C.prog W .any base t v) →
   DataW.Whole enc C.prog fn.params.toList s.vars apart W args.toList ds gs before →
   conds.all (PathCond.test C.prog ⟨fn.params.toList,ds,s.bare.plain.varTypes C.prog,gs⟩)=true→k H (ds++gs)=true→X W args →
   a.holds C.prog (lone (Frame.enter C.prog f args .normal) [] W) →
   Calls C.prog f args W fun e W'=>∃ v,e=.returned v∧(s.at F).post enc C.prog fn apart fresh handsOn again W args v W') :
  ReturnsInHanded a C os f .any (fun w args=>(s.pre enc C.prog fn conds apart w args∧X w args)∧sizedMet enc C.prog fn s apart w args) ((s.at F).post enc C.prog fn apart fresh handsOn again):=by
 refine returnsInHanded_of_calls own started noInit witness ?_;intro w tape i _ _ _ hok hpre hholds;obtain⟨_,_,_,fn',hfn',_,_,_,_,hval⟩:=hok;have e:fn'=fn:=Option.some.inj (hfn'.symm.trans hfn);subst e;obtain⟨⟨hp,hx⟩,hz⟩:=hpre;obtain⟨ds,gs,before,hw,hc,hkk⟩:=(OpenSpec.pre_some hk conds apart _ _).1 hp;have hw':=DataW.Whole.of_heap (w':=w.forCall tape i) (by rfl) hw;refine (contract (w.forCall tape i) w.heap.size i.args ds gs before hval hw' hc hkk (hX _ _ _ (by rfl) hx) hholds).mono fun e W' ⟨v,he,hp⟩=>?_
 subst he;exact ChangeSpec.post_blind hp
theorem cond_witness {C:Checked}{os:Os}{f:FuncId}{fn:Func}{s:OpenSpec}{k:(H:Type)→List (DataW H)→Bool}(hk:s.cond=some k){conds:List PathCond}{apart:Bool}{X:World→Array Value→Prop}(modest:Bool) (w0:World) (args:Array Value) (fuel:Nat) (hos:w0.os=os)
  (hsh:(w0.forCall (fun _ _=>0) ⟨#[],args,[]⟩).Shaped C.prog)
  (hok:Input.okWideB C.prog (w0.forCall (fun _ _=>0) ⟨#[],args,[]⟩) f ⟨#[],args,[]⟩=true)
  {x:List (DataW H)×List (DataW H)×List MemPlace}(hx:DataW.whole enc C.prog (w0.forCall (fun _ _=>0) ⟨#[],args,[]⟩).memory fn.params.toList s.vars apart args.toList fuel=some x)
  (hconds:conds.all (PathCond.test C.prog ⟨fn.params.toList,x.1,s.bare.plain.varTypes C.prog,x.2.1⟩)=true) (hkk:k H (x.1++x.2.1)=true)
  (hsz:s.bare.sizedB enc C.prog fn apart (w0.forCall (fun _ _=>0) ⟨#[],args,[]⟩).memory args fuel=true)
  (hX:X (w0.forCall (fun _ _=>0) ⟨#[],args,[]⟩).memory args) :
  ∃ (w:World) (tape:Tape) (i:Input),w.os=os∧(w.forCall tape i).Shaped C.prog∧i.vars=[]∧Input.okWide C.prog (w.forCall tape i) .any w.heap.size f i ∧
   ((s.pre enc C.prog fn conds apart (w.forCall tape i).memory i.args∧X (w.forCall tape i).memory i.args)∧sizedMet enc C.prog fn s apart (w.forCall tape i).memory i.args)∧({ modest:=modest }:Assume).holds C.prog (lone (Frame.enter C.prog f i.args .normal) [] (w.forCall tape i)) :=
 ⟨w0,fun _ _=>0,⟨#[],args,[]⟩,hos,hsh,(Input.okWide_of_okWideB (base:=0) hok).1,(Input.okWide_of_okWideB hok).2,
  ⟨⟨(OpenSpec.pre_some hk conds apart _ _).2 ⟨x.1,x.2.1,x.2.2,DataW.Whole_of_whole hx,hconds,hkk⟩,hX⟩,sizedMet_of_sizedB hsz⟩,by
  simp only [Assume.holds];exact⟨by simp,by simp,fun _=>Modest.zero,by simp,by simp⟩⟩
end
end Go.Proofs.YtopepebcnaikiaaGreatDoor.Fr
