import Derived.Test.YtlpejbbmemhloaaGreatDoorShaE
import Derived.Test.YtlpejbbmemhloaaGreatDoorShaF
import Derived.StillTailTactics
set_option maxRecDepth 100000
namespace Go.Proofs.YtlpejbbmemhloaaGreatDoor.Hk
open Lib (hid)
set_option linter.unusedVariables false
open Go.ChangeShapes Go.WideShapes Go.ChangeAt Go.RowKit
theorem rturned_any (x:BitVec 32) (k:Nat) (hk:1≤k) (hk2:k≤31) (w:World) :
  Calls Tryz.prog 134 #[.int .u32 (vN x),.int .u64 k] w fun e w'=>e=.returned (.int .u32 (vN (rr x k)))∧w=w':=by
 have h0:=vN_lo x
 have h1:=vN_hi x
 go_enter Tryz.func134,Tryz.ntmps134
 go_wp2
 go_ret
 refine⟨ret_u32 ?_,rfl⟩
 rw [vN_shl,vN_shr,vN_or,rr]
theorem infoKc:(Tryz.prog.info? 150).map (·.size)=some (arr kc).size:=by kernel_rfl
theorem sizeKc:(arr (List.replicate 64 0#32)).size=(arr kc).size:=by rw [arr_size,arr_size,kc_length,List.length_replicate]
theorem word_any (s:ByteArray) (h:4≤s.size) (w:World) :
  Calls Tryz.prog 133 #[.string s] w fun e w'=>e=.returned (.int .u32 (vN (word4 (s[0]'(by omega)) (s[1]'(by omega)) (s[2]'(by omega)) (s[3]'(by omega)))))∧∃ q,w'=w.drewN q:=by
 have j0:0<s.size:=by omega
 have j1:1<s.size:=by omega
 have j2:2<s.size:=by omega
 have j3:3<s.size:=by omega
 have HW:=hid (word4_n (s[0]'j0) (s[1]'j1) (s[2]'j2) (s[3]'j3))
 have i0:(0:Int)<s.size:=by omega
 have i1:(1:Int)<s.size:=by omega
 have i2:(2:Int)<s.size:=by omega
 have i3:(3:Int)<s.size:=by omega
 have b0:=wrap_b
 have b1:=wrap_b8
 have b2:=wrap_b16
 have b3:=wrap_b24
 go_enter Tryz.func133,Tryz.ntmps133
 go_wp2
 go_quiet (fail)
 go_wp2
 go_ret
 exact⟨ret_u32 HW.out,_,rfl⟩
set_option maxRecDepth 100000 in
set_option maxHeartbeats 1000000 in
theorem constants_any (w:World) :
  Calls Tryz.prog 132 #[] w fun e w'=>e=.returned (.agg (arr kc))∧Below w.heap.size w w':=by
 go_enter Tryz.func132,Tryz.ntmps132
 go_wp2_with (first
  | (refine wpList_build rfl _ _ rfl (by kernel_rfl) ?_)
  | (refine wpList_store_row rfl 150 (.tmp 0) (.tmp 1) rfl w.heap.size (arr kc) rfl (by kernel_rfl) 150 (arr (List.replicate 64 0#32)) (heap_alloc_new w _) infoKc sizeKc (arr_one kc) ?_))
 have hg2:=setRow_heap (w.alloc (.cells (arr (List.replicate 64 0#32)) 150)) w.heap.size _ (arr kc) 150 (0,0) (heap_alloc_new w _)
 exact bodyPost_ret (v:=.agg (arr kc)) (results_cell_row rfl _ _ w.heap.size 150 (arr kc) (0,0) _ rfl hg2 Tryz.underlying150 rfl infoKc) rfl ⟨rfl,below_setRow ((Below.refl _ _).alloc (Nat.le_refl _) _) (Nat.le_refl _) _⟩
theorem word_lit (s:ByteArray) (t:Nat) (h:4*t+4≤s.size) (w:World) :
  Calls Tryz.prog 133 #[.string (s.extract (4*t) s.size)] w fun e w'=>e=.returned (.int .u32 (vN (wd s.data.toList t)))∧∃ q,w'=w.drewN q:=by
 have hz:(s.extract (4*t) s.size).size=s.size-4*t:=by rw [ByteArray.size_extract];omega
 refine (word_any (s.extract (4*t) s.size) (by omega) w).mono fun e w' h'=>⟨h'.1.trans (ret_u32 ?_),h'.2⟩
 have key:∀ j (hj:j<4),((s.extract (4*t) s.size)[j]'(by omega))=s.data.toList.getD (4*t+j) 0:=by
  intro j hj
  rw [byte_get,Lib.extract_data,List.getD_eq_getElem?_getD,List.getD_eq_getElem?_getD,List.getElem?_take_of_lt (by omega),List.getElem?_drop]
 rw [key 0 (by omega),key 1 (by omega),key 2 (by omega),key 3 (by omega)]
 rfl
theorem rturned_still (x:BitVec 32) (k:Nat) (hk:1≤k) (hk2:k≤31) (w:World):Calls Tryz.prog 134 #[.int .u32 (vN x),.int .u64 k] w fun e w'=>e=.returned (.int .u32 (vN (rr x k)))∧w'=w:=(rturned_any x k hk hk2 w).mono fun _ _ h=>⟨h.1,h.2.symm⟩
theorem rt7 (x:BitVec 32) (w:World):Calls Tryz.prog 134 #[.int .u32 (vN x),.int .u64 7] w fun e w'=>e=.returned (.int .u32 (vN (rr x 7)))∧w=w':=rturned_any x 7 (by omega) (by omega) w
theorem rt18 (x:BitVec 32) (w:World):Calls Tryz.prog 134 #[.int .u32 (vN x),.int .u64 18] w fun e w'=>e=.returned (.int .u32 (vN (rr x 18)))∧w=w':=rturned_any x 18 (by omega) (by omega) w
theorem rt17 (x:BitVec 32) (w:World):Calls Tryz.prog 134 #[.int .u32 (vN x),.int .u64 17] w fun e w'=>e=.returned (.int .u32 (vN (rr x 17)))∧w=w':=rturned_any x 17 (by omega) (by omega) w
theorem rt19 (x:BitVec 32) (w:World):Calls Tryz.prog 134 #[.int .u32 (vN x),.int .u64 19] w fun e w'=>e=.returned (.int .u32 (vN (rr x 19)))∧w=w':=rturned_any x 19 (by omega) (by omega) w
theorem rt2 (x:BitVec 32) (w:World):Calls Tryz.prog 134 #[.int .u32 (vN x),.int .u64 2] w fun e w'=>e=.returned (.int .u32 (vN (rr x 2)))∧w=w':=rturned_any x 2 (by omega) (by omega) w
theorem rt13 (x:BitVec 32) (w:World):Calls Tryz.prog 134 #[.int .u32 (vN x),.int .u64 13] w fun e w'=>e=.returned (.int .u32 (vN (rr x 13)))∧w=w':=rturned_any x 13 (by omega) (by omega) w
theorem rt22 (x:BitVec 32) (w:World):Calls Tryz.prog 134 #[.int .u32 (vN x),.int .u64 22] w fun e w'=>e=.returned (.int .u32 (vN (rr x 22)))∧w=w':=rturned_any x 22 (by omega) (by omega) w
theorem rt_int (x:BitVec 32) (z:Int) (h1:1≤z) (h2:z≤31) (w:World):Calls Tryz.prog 134 #[.int .u32 (vN x),.int .u64 z] w fun e w'=>e=.returned (.int .u32 (vN (rr x z.toNat)))∧w'=w:=by
 obtain⟨k,rfl⟩:∃ k:Nat,z=(k:Int):=⟨z.toNat,by omega⟩
 exact rturned_still x k (by omega) (by omega) w
theorem shr3 (x:BitVec 32):vN x / (8:Int)=vN (x >>> 3):=by have:=vN_shr x 3;simpa using this
theorem shr10 (x:BitVec 32):vN x / (1024:Int)=vN (x >>> 10):=by have:=vN_shr x 10;simpa using this
def refround (s:St) (k w:BitVec 32):St:=⟨s.h+(rr s.e 6 ^^^ rr s.e 11 ^^^ rr s.e 25)+((s.e &&& s.f) ^^^ (~~~s.e &&& s.g))+k+w+((rr s.a 2 ^^^ rr s.a 13 ^^^ rr s.a 22)+((s.a &&& s.b) ||| (s.a &&& s.c) ||| (s.b &&& s.c))),s.a,s.b,s.c,s.d+(s.h+(rr s.e 6 ^^^ rr s.e 11 ^^^ rr s.e 25)+((s.e &&& s.f) ^^^ (~~~s.e &&& s.g))+k+w),s.e,s.f,s.g⟩
theorem refround_eq (s:St) (k w:BitVec 32):refround s k w=s.round k w:=by unfold refround;rw [cho_xor];rfl
theorem info8 {s:St}:(Tryz.prog.info? 106).map (·.size)=some (stV s).size:=by kernel_rfl
theorem row_lt {w:World}{b T:Nat}{l:List (BitVec 32)}(h:Row w b T l):b<w.heap.size:=by
 have h':w.heap[b]?=some (.cells (arr l) T (0,0)):=h
 exact (Array.getElem?_eq_some_iff.mp h').1
theorem more_row {w:World}{b T:Nat}{l:List (BitVec 32)}(h:Row w b T l) (o:Obj) (cs:Array Value):Row ((w.alloc o).setRow w.heap.size cs) b T l:=by
 have hb:=row_lt h
 exact (setRow_other (w.alloc o) w.heap.size b cs (by omega)).trans ((Below.heap_alloc w o b hb).trans h)
def part3 (s q:St) (i:Nat):List (BitVec 32):=(s.plus q).list.take i++s.list.drop i
theorem part3_step (s q:St) (i:Nat) (h:i<8):∃ x y,(part3 s q i)[i]?=some x∧q.list[i]?=some y∧(part3 s q i).set i (x+y)=part3 s q (i+1):=by
 match i,h with
 | 0,_=>exact⟨_,_,rfl,rfl,rfl⟩
 | 1,_=>exact⟨_,_,rfl,rfl,rfl⟩
 | 2,_=>exact⟨_,_,rfl,rfl,rfl⟩
 | 3,_=>exact⟨_,_,rfl,rfl,rfl⟩
 | 4,_=>exact⟨_,_,rfl,rfl,rfl⟩
 | 5,_=>exact⟨_,_,rfl,rfl,rfl⟩
 | 6,_=>exact⟨_,_,rfl,rfl,rfl⟩
 | 7,_=>exact⟨_,_,rfl,rfl,rfl⟩
theorem start_rows {w w1:World}{a b c o:Obj}{cs:Array Value}(hb1:Below (((w.alloc a).alloc b).alloc c).heap.size (((w.alloc a).alloc b).alloc c) w1) :
  ((w1.alloc o).setRow w1.heap.size cs).heap[w.heap.size]?=some a∧((w1.alloc o).setRow w1.heap.size cs).heap[w.heap.size+1]?=some b∧((w1.alloc o).setRow w1.heap.size cs).heap[w.heap.size+1+1]?=some c∧Below w.heap.size w ((w1.alloc o).setRow w1.heap.size cs)∧w.heap.size+1+1<w1.heap.size:=by
 have hsz:(((w.alloc a).alloc b).alloc c).heap.size=w.heap.size+1+1+1:=by simp
 have hle:w.heap.size+1+1+1≤w1.heap.size:=by rw [← hsz];exact hb1.size
 have get:∀ g v,g<w.heap.size+1+1+1→(((w.alloc a).alloc b).alloc c).heap[g]?=some v→((w1.alloc o).setRow w1.heap.size cs).heap[g]?=some v:=fun g v hg hv =>
  (setRow_other (w1.alloc o) w1.heap.size g cs (by omega)).trans ((Below.heap_alloc w1 o g (by omega)).trans ((hb1.block g (by omega)).trans hv))
 refine⟨get _ _ (by omega) (alloc3_0 w a b c 0),get _ _ (by omega) (alloc3_1 w a b c 0),get _ _ (by omega) (alloc3_2 w a b c 0),?_,by omega⟩
 have h3:Below w.heap.size w (((w.alloc a).alloc b).alloc c):=alloc3_below w a b c 0
 exact below_setRow ((h3.trans (hb1.mono h3.size)).alloc (by omega) o) (by omega) cs
set_option maxRecDepth 100000 in
set_option maxHeartbeats 4000000 in
theorem part_any (s:St) (x:ByteArray) (hx:x.size=64) (w:World) :
  Calls Tryz.prog 100 #[.agg #[.int .u32 (vN s.a),.int .u32 (vN s.b),.int .u32 (vN s.c),.int .u32 (vN s.d),.int .u32 (vN s.e),.int .u32 (vN s.f),.int .u32 (vN s.g),.int .u32 (vN s.h)],.string x] w fun e w'=>e=.returned (.agg (stV (piece kc s x.data.toList)))∧Below w.heap.size w w':=by
 have HX:=hid hx
 clear hx
 go_enter Tryz.func100,Tryz.ntmps100
 go_wp2_with (first
  | (go_at_call 132;refine (constants_any _).mono ?_;rintro e w1 ⟨rfl,hb1⟩)
  | (refine wpList_store_row rfl 150 (.tmp 6) (.tmp 23) rfl w1.heap.size (arr kc) rfl rfl 150 (arr (List.replicate 64 0#32)) (heap_alloc_new w1 _) infoKc sizeKc (arr_one kc) ?_))
 obtain⟨s0,s1,s2,s3,s4⟩:=start_rows (o:=.cells (arr (List.replicate 64 0#32)) 150) (cs:=arr kc) hb1
 have s5:=setRow_heap (w1.alloc (.cells (arr (List.replicate 64 0#32)) 150)) w1.heap.size _ (arr kc) 150 (0,0) (heap_alloc_new w1 _)
 change Code.wp _ _ _ _ ((w1.alloc (.cells (arr (List.replicate 64 0#32)) 150)).setRow w1.heap.size (arr kc))
 generalize (w1.alloc (.cells (arr (List.replicate 64 0#32)) 150)).setRow w1.heap.size (arr kc)=V at *
 have S:=hid (And.intro s0 (And.intro s1 (And.intro s2 (And.intro s3 s5))))
 generalize w1.heap.size=b6 at *
 clear s0 s1 s2 s3 s5 hb1
 go_loopw [7] (fun v wr=>∃ t:Nat,t≤64∧v=.int .i64 t∧Row wr w.heap.size 106 s.list∧Row wr (w.heap.size+1) 106 (List.replicate 8 0#32)∧Row wr (w.heap.size+1+1) 150 (wf (wd x.data.toList) 64 t)∧Row wr b6 150 kc∧Below w.heap.size w wr) (fun v _=>64-(intOf v).toNat)
 case atStart=>exact⟨0,Nat.zero_le _,rfl,S.out.1,S.out.2.1,S.out.2.2.1,S.out.2.2.2.2,S.out.2.2.2.1⟩
 case round =>
  obtain⟨t,ht,rfl,hr0,hr1,hr2,hr6,hbel⟩:=hrel
  have ne0:w.heap.size≠w.heap.size+1+1:=by omega
  have ne1:w.heap.size+1≠w.heap.size+1+1:=by omega
  have ne6:b6≠w.heap.size+1+1:=by omega
  have NE:=hid (And.intro ne0 (And.intro ne1 ne6))
  clear ne0 ne1 ne6
  by_cases hlt:t<64
  ·obtain⟨y,hy⟩:∃ y,(wf (wd x.data.toList) 64 t)[t]?=some y:=⟨_,List.getElem?_eq_getElem (by rw [wf_length _ _ _ (by omega)];omega)⟩
   have hc:=hr2.cell hy
   have hf:=hr2.free t
   by_cases h16:t<16
   ·have HN:=hid (nxt_low (wd x.data.toList) (wl (wd x.data.toList) t) t h16)
    have R0:=hid hr0
    have R1:=hid hr1
    have R2:=hid hr2
    have R6:=hid hr6
    have HL:=hid (show 4*t+4≤x.size by rw [HX.out];omega)
    have hi0:4*(t:Int)≤x.size:=by have:=HX.out;omega
    clear hr0 hr1 hr2 hr6 hy
    go_wp2_with (first
     | (go_at_call 133;(with_reducible refine (word_lit x t HL.out _).mono ?_);rintro e w2 ⟨rfl,q,rfl⟩))
    go_roundw
    case rel =>
     have hst:=R2.out.set t (wd x.data.toList t)
     have hn:=wf_set (wd x.data.toList) 64 t hlt
     rw [HN.out] at hn
     rw [hn] at hst
     exact⟨t+1,by omega,by go_num,R0.out.other _ t _ NE.out.1,R1.out.other _ t _ NE.out.2.1,hst,R6.out.other _ t _ NE.out.2.2,((Below.trans hbel ⟨rfl,rfl,rfl,Nat.le_refl _,fun _ _=>rfl⟩:Below w.heap.size w (wr.drewN q)).setCell (p:=⟨w.heap.size+1+1,t,none⟩) (by show w.heap.size≤w.heap.size+1+1;omega) _)⟩
    case measure=>simp [intOf];omega
   ·have h16':16≤t:=by omega
    obtain⟨m2,hm2⟩:∃ m:Nat,m=t-2:=⟨_,rfl⟩
    have g2:=hr2.cell (wf_getD (wd x.data.toList) 64 t m2 (by omega))
    have Q2:=hid (show IntKind.i64.wrap ((t:Int)-2)=(m2:Int) by rw [IntWalk.i64_in _ ⟨by omega,by omega⟩];omega)
    have n2:0≤(m2:Int):=by omega
    have l2:(m2:Int)<64:=by omega
    obtain⟨m7,hm7⟩:∃ m:Nat,m=t-7:=⟨_,rfl⟩
    have g7:=hr2.cell (wf_getD (wd x.data.toList) 64 t m7 (by omega))
    have Q7:=hid (show IntKind.i64.wrap ((t:Int)-7)=(m7:Int) by rw [IntWalk.i64_in _ ⟨by omega,by omega⟩];omega)
    have n7:0≤(m7:Int):=by omega
    have l7:(m7:Int)<64:=by omega
    obtain⟨m15,hm15⟩:∃ m:Nat,m=t-15:=⟨_,rfl⟩
    have g15:=hr2.cell (wf_getD (wd x.data.toList) 64 t m15 (by omega))
    have Q15:=hid (show IntKind.i64.wrap ((t:Int)-15)=(m15:Int) by rw [IntWalk.i64_in _ ⟨by omega,by omega⟩];omega)
    have n15:0≤(m15:Int):=by omega
    have l15:(m15:Int)<64:=by omega
    obtain⟨m16,hm16⟩:∃ m:Nat,m=t-16:=⟨_,rfl⟩
    have g16:=hr2.cell (wf_getD (wd x.data.toList) 64 t m16 (by omega))
    have Q16:=hid (show IntKind.i64.wrap ((t:Int)-16)=(m16:Int) by rw [IntWalk.i64_in _ ⟨by omega,by omega⟩];omega)
    have n16:0≤(m16:Int):=by omega
    have l16:(m16:Int)<64:=by omega
    have HD:=hid hr2
    have R0:=hid hr0
    have R1:=hid hr1
    have R6:=hid hr6
    have hn:=nxt_high (wd x.data.toList) (wl (wd x.data.toList) t) t h16
    rw [← hm2,← hm7,← hm15,← hm16] at hn
    have HN:=hid hn
    clear hr0 hr1 hr2 hr6 hy hn hm2 hm7 hm15 hm16 h16
    generalize (wl (wd x.data.toList) t).getD m2 0=x2 at *
    generalize (wl (wd x.data.toList) t).getD m7 0=x7 at *
    generalize (wl (wd x.data.toList) t).getD m15 0=x15 at *
    generalize (wl (wd x.data.toList) t).getD m16 0=x16 at *
    have t0:0≤(t:Int):=by omega
    have t1:(t:Int)<64:=by omega
    have t2:(16:Int)≤(t:Int):=by omega
    go_wp2
    have q2:=Q2.out
    have q15:=Q15.out
    go_quiet (fail)
    clear q2 q15
    have G7:=hid (show (wr.drewN nq).cell? ⟨w.heap.size+1+1,m7,none⟩=some (.int .u32 (vN x7)) from g7)
    have G16:=hid (show (wr.drewN nq).cell? ⟨w.heap.size+1+1,m16,none⟩=some (.int .u32 (vN x16)) from g16)
    have HC:=hid (show (wr.drewN nq).cell? ⟨w.heap.size+1+1,t,none⟩=some (.int .u32 (vN y)) from hc)
    have HF:=hid (show (wr.drewN nq).frozen? ⟨w.heap.size+1+1,t,none⟩=false from hf)
    have D0:=hid (show Row (wr.drewN nq) w.heap.size 106 s.list from R0.out)
    have D1:=hid (show Row (wr.drewN nq) (w.heap.size+1) 106 (List.replicate 8 0#32) from R1.out)
    have D2:=hid (show Row (wr.drewN nq) (w.heap.size+1+1) 150 (wf (wd x.data.toList) 64 t) from HD.out)
    have D6:=hid (show Row (wr.drewN nq) b6 150 kc from R6.out)
    have BEL:Below w.heap.size w (wr.drewN nq):=hbel.trans ⟨rfl,rfl,rfl,Nat.le_refl _,fun _ _=>rfl⟩
    have BEL:=hid BEL
    clear g2 g7 g15 g16 hc hf R0 R1 HD R6 hbel
    generalize wr.drewN nq=w2 at *
    have v0:=vN_lo x15
    have v1:=vN_hi x15
    have v2:=vN_lo x2
    have v3:=vN_hi x2
    have Y:=vN_xor
    have S3:=shr3 x15
    have S10:=shr10 x2
    go_wp2_with (first
     | (go_at_call 134;(with_reducible refine (rt7 _ _).mono ?_);rintro e w' ⟨rfl,rfl⟩)
     | (go_at_call 134;(with_reducible refine (rt18 _ _).mono ?_);rintro e w' ⟨rfl,rfl⟩)
     | (go_at_call 134;(with_reducible refine (rt17 _ _).mono ?_);rintro e w' ⟨rfl,rfl⟩)
     | (go_at_call 134;(with_reducible refine (rt19 _ _).mono ?_);rintro e w' ⟨rfl,rfl⟩))
    clear Y S3 S10 v0 v1 v2 v3
    have hc:=HC.out
    have hf:=HF.out
    have g7:=G7.out
    have g16:=G16.out
    have q7:=Q7.out
    have q16:=Q16.out
    have X:=vN_wadd
    go_still_tail 15,(by kernel_rfl)
    change wpList _ _ _ _ _ w2.drew
    have hc':w2.drew.cell? ⟨w.heap.size+1+1,t,none⟩=some (.int .u32 (vN y)):=hc
    have hf':w2.drew.frozen? ⟨w.heap.size+1+1,t,none⟩=false:=hf
    have E0:=hid (show Row w2.drew w.heap.size 106 s.list from D0.out)
    have E1:=hid (show Row w2.drew (w.heap.size+1) 106 (List.replicate 8 0#32) from D1.out)
    have E2:=hid (show Row w2.drew (w.heap.size+1+1) 150 (wf (wd x.data.toList) 64 t) from D2.out)
    have E6:=hid (show Row w2.drew b6 150 kc from D6.out)
    have BEL':=hid (show Below w.heap.size w w2.drew from BEL.out.drew)
    clear hc hf g7 g16 q7 q16 D0 D1 D2 D6 BEL G7 G16 HC HF
    generalize w2.drew=w3 at *
    go_wp2
    go_roundw
    case rel =>
     have hs1:=E2.out.set t (sp1 x2+x7+sp0 x15+x16)
     have hn:=wf_set (wd x.data.toList) 64 t hlt
     rw [HN.out] at hn
     rw [hn] at hs1
     exact⟨t+1,by omega,by go_num,E0.out.other _ t _ NE.out.1,E1.out.other _ t _ NE.out.2.1,hs1,E6.out.other _ t _ NE.out.2.2,BEL'.out.setCell (p:=⟨w.heap.size+1+1,t,none⟩) (by show w.heap.size≤w.heap.size+1+1;omega) _⟩
    case measure=>simp [intOf];omega
  ·obtain rfl:t=64:=by omega
   rw [wf_all] at hr2
   obtain⟨wo,rfl⟩:∃ wo:World,wo=wr:=⟨_,rfl⟩
   have H0:=hid hr0
   have H1:=hid hr1
   have H2:=hid hr2
   have H6:=hid hr6
   clear hr0 hr1 hr2 hr6
   go_wp2_with (first
    | (refine wpList_load_row rfl 106 (.tmp 2) rfl w.heap.size rfl 106 (stV s) (0,0) _ H0.out Tryz.underlying106 rfl info8 ?_)
    | (refine wpList_store_row rfl 106 (.tmp 12) (.tmp 76) rfl wo.heap.size (stV s) rfl rfl 106 (arr (List.replicate 8 0#32)) (heap_alloc_new wo _) info8 rfl (stV_one s) ?_))
   have P0:=hid (more_row H0.out (.cells (arr (List.replicate 8 0#32)) 106) (stV s))
   have P1:=hid (more_row H1.out (.cells (arr (List.replicate 8 0#32)) 106) (stV s))
   have P2:=hid (more_row H2.out (.cells (arr (List.replicate 8 0#32)) 106) (stV s))
   have P6:=hid (more_row H6.out (.cells (arr (List.replicate 8 0#32)) 106) (stV s))
   have P12:=hid (show Row ((wo.alloc (.cells (arr (List.replicate 8 0#32)) 106)).setRow wo.heap.size (stV s)) wo.heap.size 106 s.list from setRow_heap (wo.alloc (.cells (arr (List.replicate 8 0#32)) 106)) wo.heap.size _ (stV s) 106 (0,0) (heap_alloc_new wo _))
   have PB:=hid (show Below w.heap.size w ((wo.alloc (.cells (arr (List.replicate 8 0#32)) 106)).setRow wo.heap.size (stV s)) from below_setRow (hbel.alloc hbel.size _) hbel.size _)
   have N:=hid (show w.heap.size≠wo.heap.size∧w.heap.size+1≠wo.heap.size∧w.heap.size+1+1≠wo.heap.size∧b6≠wo.heap.size∧w.heap.size≤wo.heap.size by
    have:=row_lt H0.out;have:=row_lt H1.out;have:=row_lt H2.out;have:=row_lt H6.out;omega)
   clear H0 H1 H2 H6 hbel
   change Code.wp _ _ _ _ ((wo.alloc (.cells (arr (List.replicate 8 0#32)) 106)).setRow wo.heap.size (stV s))
   generalize ((wo.alloc (.cells (arr (List.replicate 8 0#32)) 106)).setRow wo.heap.size (stV s))=V2 at *
   generalize wo.heap.size=b12 at *
   obtain⟨W,hW⟩:∃ W,W=wl (wd x.data.toList) 64:=⟨_,rfl⟩
   rw [← hW] at P2
   have HL:=hid (show W.length=64 by rw [hW,wl_length])
   have HW:=hid hW
   clear hW
   go_loopw [13] (fun v wr=>∃ t:Nat,∃ q:St,t≤64∧v=.int .i64 t∧q=rounds8 kc W s t∧Row wr w.heap.size 106 s.list∧Row wr (w.heap.size+1) 106 (List.replicate 8 0#32)∧Row wr (w.heap.size+1+1) 150 W∧Row wr b6 150 kc∧Row wr b12 106 q.list∧Below w.heap.size w wr) (fun v _=>64-(intOf v).toNat)
   case atStart=>exact⟨0,s,Nat.zero_le _,rfl,rfl,P0.out,P1.out,P2.out,P6.out,P12.out,PB.out⟩
   case round =>
    obtain⟨t,q,ht,rfl,hq,r0,r1,r2,r6,r12,hbel⟩:=hrel
    have HQ:=hid hq
    clear hq
    by_cases hlt:t<64
    ·obtain⟨wt,hwt⟩:∃ x,W[t]?=some x:=⟨_,List.getElem?_eq_getElem (by rw [HL.out];exact hlt)⟩
     obtain⟨kt,hkt⟩:∃ x,kc[t]?=some x:=⟨_,List.getElem?_eq_getElem (by rw [kc_length];exact hlt)⟩
     have HN:=hid (show rounds8 kc W s (t+1)=refround q kt wt by rw [refround_eq,rounds8,← HQ.out,List.getD_eq_getElem?_getD,List.getD_eq_getElem?_getD,hwt,hkt];rfl)
     have KW:=hid hwt
     have KK:=hid hkt
     have R0:=hid r0
     have R1:=hid r1
     have R2:=hid r2
     have R6:=hid r6
     have R12:=hid r12
     have a0:=r12.cell (j:=0) (x:=q.a) rfl
     have a1:=r12.cell (j:=1) (x:=q.b) rfl
     have a2:=r12.cell (j:=2) (x:=q.c) rfl
     have a4:=r12.cell (j:=4) (x:=q.e) rfl
     have a5:=r12.cell (j:=5) (x:=q.f) rfl
     have a6:=r12.cell (j:=6) (x:=q.g) rfl
     clear hwt hkt r0 r1 r2 r6 r12
     have t0:0≤(t:Int):=by omega
     have t1:(t:Int)<64:=by omega
     go_wp2
     go_quiet (fail)
     clear a0 a1 a2 a4 a5 a6
     have D0:=hid (show Row (wr.drewN nq) w.heap.size 106 s.list from R0.out)
     have D1:=hid (show Row (wr.drewN nq) (w.heap.size+1) 106 (List.replicate 8 0#32) from R1.out)
     have D2:=hid (show Row (wr.drewN nq) (w.heap.size+1+1) 150 W from R2.out)
     have D6:=hid (show Row (wr.drewN nq) b6 150 kc from R6.out)
     have D12:=hid (show Row (wr.drewN nq) b12 106 q.list from R12.out)
     have BEL:Below w.heap.size w (wr.drewN nq):=hbel.trans ⟨rfl,rfl,rfl,Nat.le_refl _,fun _ _=>rfl⟩
     have HBEL:=hid BEL
     clear R0 R1 R2 R6 R12 hbel BEL
     generalize wr.drewN nq=w2 at *
     have a7:=D12.out.cell (j:=7) (x:=q.h) rfl
     have cw:=D2.out.cell KW.out
     have ck:=D6.out.cell KK.out
     have X:=vN_wadd
     have Y:=vN_xor
     have A:=vN_and
     have I:∀ x:BitVec 32,bits BinOp.xor IntKind.u32 (if IntKind.u32.signed=true then -1 else IntKind.u32.max) (vN x)=vN (~~~x):=fun x=>vN_inv x
     go_wp2
     go_quiet ((go_at_call 134;exact Calls.quiet_of_same (rt_int _ _ (by omega) (by omega) _)))
     clear a7 cw ck I
     have E0:=hid (show Row (w2.drewN nq) w.heap.size 106 s.list from D0.out)
     have E1:=hid (show Row (w2.drewN nq) (w.heap.size+1) 106 (List.replicate 8 0#32) from D1.out)
     have E2:=hid (show Row (w2.drewN nq) (w.heap.size+1+1) 150 W from D2.out)
     have E6:=hid (show Row (w2.drewN nq) b6 150 kc from D6.out)
     have E12:=hid (show Row (w2.drewN nq) b12 106 q.list from D12.out)
     have BEL:Below w.heap.size w (w2.drewN nq):=HBEL.out.trans ⟨rfl,rfl,rfl,Nat.le_refl _,fun _ _=>rfl⟩
     have EBEL:=hid BEL
     clear D0 D1 D2 D6 D12 HBEL BEL
     generalize w2.drewN nq=w3 at *
     have a3:=E12.out.cell (j:=3) (x:=q.d) rfl
     have O:=vN_or
     go_wp2_with (first
      | (go_at_call 134;(with_reducible refine (rt2 _ _).mono ?_);rintro e w' ⟨rfl,rfl⟩)
      | (go_at_call 134;(with_reducible refine (rt13 _ _).mono ?_);rintro e w' ⟨rfl,rfl⟩)
      | (go_at_call 134;(with_reducible refine (rt22 _ _).mono ?_);rintro e w' ⟨rfl,rfl⟩)
      | (refine wpList_store_row rfl 106 (.tmp 12) (.tmp 154) rfl b12 (stV (refround q kt wt)) rfl rfl 106 (stV q) E12.out info8 rfl (stV_one _) ?_))
     go_roundw
     case rel =>
      have hst:Row (w3.setRow b12 (stV (refround q kt wt))) b12 106 (refround q kt wt).list:=setRow_heap w3 b12 (stV q) (stV (refround q kt wt)) 106 (0,0) E12.out
      exact⟨t+1,refround q kt wt,by omega,by go_num,HN.out.symm,(setRow_other w3 b12 _ _ N.out.1).trans E0.out,(setRow_other w3 b12 _ _ N.out.2.1).trans E1.out,(setRow_other w3 b12 _ _ N.out.2.2.1).trans E2.out,(setRow_other w3 b12 _ _ N.out.2.2.2.1).trans E6.out,hst,below_setRow EBEL.out N.out.2.2.2.2 _⟩
     case measure=>simp [intOf];omega
    ·obtain rfl:t=64:=by omega
     obtain⟨wo,rfl⟩:∃ wo:World,wo=wr:=⟨_,rfl⟩
     have R0:=hid r0
     have R1:=hid r1
     have R12:=hid r12
     have BEL:=hid hbel
     clear r0 r1 r2 r6 r12 hbel P0 P1 P2 P6 P12 PB
     go_wp2
     go_loopw [155] (fun v wr=>∃ i:Nat,i≤8∧v=.int .i64 i∧Row wr w.heap.size 106 (part3 s q i)∧Row wr (w.heap.size+1) 106 (List.replicate 8 0#32)∧Row wr b12 106 q.list∧Below w.heap.size w wr) (fun v _=>8-(intOf v).toNat)
     case atStart=>exact⟨0,Nat.zero_le _,rfl,R0.out,R1.out,R12.out,BEL.out⟩
     case round =>
      obtain⟨i,hi,rfl,r0,r1,r12,hbel⟩:=hrel
      by_cases hlt:i<8
      ·obtain⟨xa,xb,h1,h2,h3⟩:=part3_step s q i hlt
       have hc:=r0.cell h1
       have hf:=r0.free i
       have cv:=r12.cell h2
       have E0:=hid (show Row wr.drew w.heap.size 106 (part3 s q i) from r0)
       have E1:=hid (show Row wr.drew (w.heap.size+1) 106 (List.replicate 8 0#32) from r1)
       have E12:=hid (show Row wr.drew b12 106 q.list from r12)
       have BEL':=hid (show Below w.heap.size w wr.drew from hbel.drew)
       have H3:=hid h3
       clear h1 h2 h3 r0 r1 r12 hbel
       have t0:0≤(i:Int):=by omega
       have t1:(i:Int)<8:=by omega
       have X:=vN_wadd
       go_wp2
       go_still_tail 8,(by kernel_rfl)
       change wpList _ _ _ _ _ wr.drew
       have hc':wr.drew.cell? ⟨w.heap.size,i,none⟩=some (.int .u32 (vN xa)):=hc
       have hf':wr.drew.frozen? ⟨w.heap.size,i,none⟩=false:=hf
       clear hc hf cv
       generalize wr.drew=w3 at *
       go_wp2
       go_roundw
       case rel =>
        have hs1:=E0.out.set i (xa+xb)
        rw [H3.out] at hs1
        repeat apply Exists.intro
        exact⟨⟨i+1,by omega,by go_num,hs1,E1.out.other _ i _ (by omega),E12.out.other _ i _ (Ne.symm N.out.1),BEL'.out.setCell (p:=⟨w.heap.size,i,none⟩) (by show w.heap.size≤w.heap.size;omega) _⟩,rfl⟩
       case measure=>simp [intOf];omega
      ·obtain rfl:i=8:=by omega
       have Z0:=hid (show Row wr w.heap.size 106 (s.plus q).list from r0)
       have Z1:=hid r1
       clear r0 r1 r12
       go_wp2_with (first
        | (refine wpList_load_row rfl 106 (.tmp 2) rfl w.heap.size rfl 106 (stV (s.plus q)) (0,0) _ Z0.out Tryz.underlying106 rfl info8 ?_)
        | (refine wpList_store_row rfl 106 (.tmp 4) (.tmp 167) rfl (w.heap.size+1) (stV (s.plus q)) rfl rfl 106 (arr (List.replicate 8 0#32)) Z1.out info8 rfl (stV_one _) ?_))
       have hg2:=setRow_heap wr (w.heap.size+1) (arr (List.replicate 8 0#32)) (stV (s.plus q)) 106 (0,0) Z1.out
       exact bodyPost_ret (v:=.agg (stV (s.plus q))) (results_cell_row rfl _ _ (w.heap.size+1) 106 (stV (s.plus q)) (0,0) _ rfl hg2 Tryz.underlying106 rfl info8) rfl ⟨by rw [HQ.out,HW.out];rfl,below_setRow hbel (by omega) _⟩
open Pk (be be_length u8s u8s_length u8s_set u8s_get)
theorem conv_one (W:World) (b:UInt8):(convert 139 9 (.slice (some ⟨W.heap.size,0,none⟩) 1 1)).run Tryz.prog (W.alloc (.cells #[.int .u8 (b.toNat:Int)] 5))=.ok (.string ⟨#[b]⟩) (W.alloc (.cells #[.int .u8 (b.toNat:Int)] 5)) :=
 run_convert_bytes_back (P:=Tryz.prog) (W.alloc (.cells #[.int .u8 (b.toNat:Int)] 5)) 139 9 5 ⟨W.heap.size,0,none⟩ 1 [b] Tryz.underlying139 Tryz.underlying5 Tryz.underlying9 (by
  intro j hj
  match j,hj with
  | 0,hj=>simp [Addr.add])
theorem list_of {S:ByteArray}{l:List UInt8}(h:S.data.toList=l):S=⟨l.toArray⟩:=by
 apply ByteArray.ext
 rw [← h,Array.toArray_toList]
theorem add_one {S:ByteArray}{l:List UInt8}(h:S.data.toList=l) (b:UInt8):(S++(⟨#[b]⟩:ByteArray)).data.toList=l++[b]:=by
 rw [ByteArray.data_append,Array.toList_append,h]
theorem len_of {S:ByteArray}{l:List UInt8}(h:S.data.toList=l):S.size=l.length:=by rw [← h];simp
theorem be_top (n i:Nat) (h:i<8):be i (n / 256 ^ (8-i))++[UInt8.ofNat (n / 256 ^ (7-i))]=be (i+1) (n / 256 ^ (8-(i+1))):=by
 rw [be,Nat.div_div_eq_div_mul,← Nat.pow_succ,show 8-(i+1)=7-i by omega,show (7-i).succ=8-i by omega]
theorem top_val (n i:Nat) (h:i<8):((UInt8.ofNat (n*8 / 256 ^ (7-i))).toNat:Int)=(n:Int)*8 / 2 ^ (56-8*i)%256:=by
 rw [show 56-8*i=8*(7-i) by omega,← Pk.pow_256]
 simp
def strLen:Value→Nat
 | .string S=>S.size
 | _=>0
set_option maxRecDepth 100000 in
set_option maxHeartbeats 1000000 in
theorem padded_any (x:ByteArray) (hx:x.size≤140737488351232) (w:World) :
  Calls Tryz.prog 99 #[.string x] w fun e w'=>e=.returned (.string ⟨(x.data.toList++padL x.size).toArray⟩)∧Below w.heap.size w w':=by
 obtain⟨z,hz⟩:∃ z,z=padZ x.size:=⟨_,rfl⟩
 have hz1:z=(119-x.size%64)%64:=hz
 have HZ:=hid hz
 have HY:=hid hz1
 clear hz hz1
 go_enter Tryz.func99,Tryz.ntmps99
 go_wp2
 go_loopw [0] (fun a wr=>∃ S:ByteArray,∃ j:Nat,j≤z∧S.data.toList=x.data.toList++128::List.replicate j 0∧a=.string S∧Below w.heap.size w wr) (fun a _=>z+x.size+1-strLen a)
 case atStart=>exact⟨_,0,Nat.zero_le _,by rw [add_one rfl];rfl,rfl,Below.refl _ _⟩
 case round =>
  obtain⟨S,j,hj,hS,rfl,hbel⟩:=hrel
  have hsz:S.size=x.size+1+j:=by rw [len_of hS];simp;omega
  have HS:=hid hS
  clear hS
  by_cases hlt:j<z
  ·have hne:(S.size:Int)%64≠56:=by have:=HY.out;omega
   have hz2:S.size≤140737488351400:=by have:=HY.out;omega
   go_wp2
   go_roundw
   case rel=>exact⟨_,j+1,by omega,by rw [add_one HS.out,List.append_assoc,List.cons_append,← List.replicate_succ'],rfl,hbel⟩
   case measure =>
    show z+x.size+1-(S++(⟨#[0]⟩:ByteArray)).size<z+x.size+1-S.size
    rw [ByteArray.size_append,show (⟨#[0]⟩:ByteArray).size=1 from rfl]
    omega
  ·obtain rfl:j=z:=by omega
   have heq:(S.size:Int)%64=56:=by have:=HY.out;omega
   have hz2:S.size≤140737488351400:=by have:=HY.out;omega
   have HN:=hid hsz
   clear hsz
   go_wp2
   obtain⟨S0,rfl⟩:∃ S0:ByteArray,S0=S:=⟨_,rfl⟩
   obtain⟨wo,rfl⟩:∃ wo:World,wo=wr:=⟨_,rfl⟩
   go_loopw [0,4] (fun a v wr=>∃ S:ByteArray,∃ i:Nat,i≤8∧v=.int .i64 i∧S.data.toList=S0.data.toList++be i (x.size*8 / 256 ^ (8-i))∧a=.string S∧Below w.heap.size w wr) (fun _ v _=>8-(intOf v).toNat)
   case atStart=>exact⟨S0,0,Nat.zero_le _,rfl,by simp [be],rfl,hbel⟩
   case round =>
    obtain⟨S,i,hi,rfl,hS,rfl,hbel⟩:=hrel
    have hsz:S.size≤140737488351500:=by
     rw [len_of hS,List.length_append,be_length]
     have:S0.data.toList.length=S0.size:=by simp
     omega
    have HT:=hid hS
    clear hS
    by_cases hlt:i<8
    ·have hcv:=conv_one wr (UInt8.ofNat (x.size*8 / 256 ^ (7-i)))
     have ev:=top_val x.size i hlt
     have hb':=hid (hbel.alloc hbel.size (.cells #[.int .u8 ((UInt8.ofNat (x.size*8 / 256 ^ (7-i))).toNat:Int)] 5))
     rw [ev] at hcv hb'
     have hz3:(⟨#[UInt8.ofNat (x.size*8 / 256 ^ (7-i))]⟩:ByteArray).size≤1:=Nat.le_refl _
     clear ev
     go_wp2
     go_roundw
     case rel=>exact⟨_,i+1,by omega,by go_num,by rw [add_one HT.out,List.append_assoc,be_top _ _ hlt],rfl,hb'.out⟩
     case measure=>simp [intOf];omega
    ·obtain rfl:i=8:=by omega
     go_wp2
     go_ret
     refine⟨?_,hbel⟩
     have e:S.data.toList=x.data.toList++padL x.size:=by
      rw [HT.out,HS.out,List.append_assoc,List.cons_append]
      unfold padL
      rw [HZ.out,Nat.sub_self,Nat.pow_zero,Nat.div_one]
     rw [list_of e]
     rfl
theorem part_lit (s:St) (x:ByteArray) (hx:x.size=64) (w:World) :
  Calls Tryz.prog 100 #[.agg #[.int .u32 (vN s.a),.int .u32 (vN s.b),.int .u32 (vN s.c),.int .u32 (vN s.d),.int .u32 (vN s.e),.int .u32 (vN s.f),.int .u32 (vN s.g),.int .u32 (vN s.h)],.string x] w fun e w'=>∃ p:St,p=piece kc s x.data.toList∧e=.returned (.agg #[.int .u32 (vN p.a),.int .u32 (vN p.b),.int .u32 (vN p.c),.int .u32 (vN p.d),.int .u32 (vN p.e),.int .u32 (vN p.f),.int .u32 (vN p.g),.int .u32 (vN p.h)])∧Below w.heap.size w w' :=
 (part_any s x hx w).mono fun _ _ h=>⟨_,rfl,h.1,h.2⟩
theorem padded_lit (x:ByteArray) (hx:x.size≤140737488351232) (w:World) :
  Calls Tryz.prog 99 #[.string x] w fun e w'=>∃ P:ByteArray,P.data.toList=x.data.toList++padL x.size∧e=.returned (.string P)∧Below w.heap.size w w' :=
 (padded_any x hx w).mono fun _ _ h=>⟨_,rfl,h.1,h.2⟩
theorem start2 (w:World):Row (((w.alloc (.cells (u8s (List.replicate 32 0)).toArray 43)).alloc (.cells (arr (List.replicate 8 0#32)) 106)).setRow (w.heap.size+1) (stV first)) (w.heap.size+1) 106 first.list∧(((w.alloc (.cells (u8s (List.replicate 32 0)).toArray 43)).alloc (.cells (arr (List.replicate 8 0#32)) 106)).setRow (w.heap.size+1) (stV first)).heap[w.heap.size]?=some (.cells (u8s (List.replicate 32 0)).toArray 43 (0,0))∧Below w.heap.size w (((w.alloc (.cells (u8s (List.replicate 32 0)).toArray 43)).alloc (.cells (arr (List.replicate 8 0#32)) 106)).setRow (w.heap.size+1) (stV first)) :=
 ⟨setRow_heap ((w.alloc (.cells (u8s (List.replicate 32 0)).toArray 43)).alloc (.cells (arr (List.replicate 8 0#32)) 106)) (w.heap.size+1) _ (stV first) 106 (0,0) (heap_alloc2_new w _ _),
  (setRow_other ((w.alloc (.cells (u8s (List.replicate 32 0)).toArray 43)).alloc (.cells (arr (List.replicate 8 0#32)) 106)) (w.heap.size+1) w.heap.size _ (by omega)).trans (heap_alloc2_old w _ _),
  below_setRow (((Below.refl _ _).alloc (Nat.le_refl _) _).alloc (by simp) _) (by omega) _⟩
theorem pad_div (n:Nat):n+(9+padZ n)=64*((n+(9+padZ n)) / 64):=by unfold padZ;omega
set_option maxRecDepth 100000 in
set_option maxHeartbeats 1000000 in
theorem refsum_any (x:ByteArray) (hx:x.size≤140737488351232) (w:World) :
  Calls Tryz.prog 74 #[.string x] w fun e w'=>e=.returned (.agg (u8s (hashB (pieces kc first (x.data.toList++padL x.size) ((x.size+(padL x.size).length) / 64)))).toArray)∧Below w.heap.size w w':=by
 obtain⟨N,hN⟩:∃ N,N=(x.size+(padL x.size).length) / 64:=⟨_,rfl⟩
 have hN2:x.size+(9+padZ x.size)=64*N:=by rw [hN,padL_length];exact pad_div _
 obtain⟨PL,hPL⟩:∃ PL,PL=x.data.toList++padL x.size:=⟨_,rfl⟩
 have hlen:PL.length=64*N:=by rw [hPL,List.length_append,padL_length,← hN2];simp
 have HLEN:=hid hlen
 have HNB:=hid (show 64*N≤140737488351400 by rw [← hN2];unfold padZ;omega)
 rw [← hN,← hPL]
 have HPL:=hid hPL
 clear hPL hlen hN hN2
 obtain⟨R0,R1,RB⟩:=start2 w
 have R0:=hid R0
 have R1:=hid R1
 have RB:=hid RB
 go_enter Tryz.func74,Tryz.ntmps74
 go_wp2_with (first
  | (refine wpList_store_row rfl 106 (.tmp 3) (.tmp 6) rfl (w.heap.size+1) (stV first) (by kernel_rfl) rfl 106 (arr (List.replicate 8 0#32)) (heap_alloc2_new w _ _) info8 rfl (stV_one _) ?_))
 change Calls _ _ _ (((w.alloc (.cells (u8s (List.replicate 32 0)).toArray 43)).alloc (.cells (arr (List.replicate 8 0#32)) 106)).setRow (w.heap.size+1) (stV first)) _
 generalize (((w.alloc (.cells (u8s (List.replicate 32 0)).toArray 43)).alloc (.cells (arr (List.replicate 8 0#32)) 106)).setRow (w.heap.size+1) (stV first))=V at *
 (go_at_call 99;(with_reducible refine (padded_lit x hx _).mono ?_);rintro e w1 ⟨P,hP,rfl,hb1⟩)
 have G0:=hid (row_below R0.out hb1 R0.out.lt)
 have G1:=hid (res_below R1.out hb1 (obj_lt R1.out))
 have GB:=hid (RB.out.trans (hb1.mono RB.out.size))
 rw [← HPL.out] at hP
 have HP:=hid hP
 clear hP hb1 R0 R1 RB
 go_wp2
 go_loopw [0] (fun a wr=>∃ S:ByteArray,∃ j:Nat,j≤N∧a=.string S∧S.data.toList=PL.drop (64*j)∧Row wr (w.heap.size+1) 106 (pieces kc first PL j).list∧wr.heap[w.heap.size]?=some (.cells (u8s (List.replicate 32 0)).toArray 43 (0,0))∧Below w.heap.size w wr) (fun a _=>strLen a)
 case atStart=>exact⟨P,0,Nat.zero_le _,rfl,HP.out,G0.out,G1.out,GB.out⟩
 case round =>
  obtain⟨S,j,hj,rfl,hS,r0,r1,hbel⟩:=hrel
  have hsz:S.size=64*N-64*j:=by rw [len_of hS,List.length_drop,HLEN.out]
  have HS:=hid hS
  clear hS
  obtain⟨q,hq⟩:∃ q,q=pieces kc first PL j:=⟨_,rfl⟩
  rw [← hq] at r0
  have HQ:=hid hq
  clear hq
  by_cases hlt:j<N
  ·have s1:64≤S.size:=by omega
   have s2:(0:Int)<S.size:=by omega
   have s3:(64:Int)≤S.size:=by omega
   have s4:S.size≤140737488351400:=by have:=HNB.out;omega
   have C:=r0.eight
   unfold Eight at C
   have hB:=r0.lt
   have hB0:=obj_lt r1
   have HSZ:=hid (show (S.extract 0 64).size=64 by rw [ByteArray.size_extract];omega)
   have RD0:=hid (show Row wr.drew (w.heap.size+1) 106 q.list from r0)
   have RD1:=hid (show wr.drew.heap[w.heap.size]?=some (.cells (u8s (List.replicate 32 0)).toArray 43 (0,0)) from r1)
   have hbd:Below w.heap.size w wr.drew:=hbel.drew
   have HSS:=hid hsz
   clear hsz r0 r1
   go_wp2
   go_region_with ((go_at_call 100;(with_reducible refine (part_lit q _ HSZ.out _).mono ?_);rintro e w5 ⟨p,hp,rfl,hb5⟩;have HPC:=hid hp;clear hp;have E5:=row_below RD0.out hb5 hB;have F5:=hid (res_below RD1.out hb5 hB0);have B5:=hid (hbd.trans (hb5.mono hbd.size));have C5:=E5.eight;unfold Eight at C5;have G5:=hid E5;have fr:=E5.free;clear E5))
   all_goals
    go_wp2
    go_roundw
    case rel =>
     have ne:w.heap.size≠w.heap.size+1:=by omega
     have le:w.heap.size≤w.heap.size+1:=by omega
     have oth:∀ (V:World) (j:Nat) (v:Value),V.heap[w.heap.size]?=some (.cells (u8s (List.replicate 32 0)).toArray 43 (0,0))→(V.setCell ⟨w.heap.size+1,j,none⟩ v).heap[w.heap.size]?=some (.cells (u8s (List.replicate 32 0)).toArray 43 (0,0)) :=
      fun V j v h=>(heap_setCell_other V ⟨w.heap.size+1,j,none⟩ w.heap.size v ne).trans h
     have hp:p=pieces kc first PL (j+1):=by
      rw [HPC.out,pieces,← HQ.out,Lib.extract_data,HS.out]
      rfl
     have hrow:Row _ (w.heap.size+1) 106 p.list:=((((((((G5.out.set 0 p.a).set 1 p.b).set 2 p.c).set 3 p.d).set 4 p.e).set 5 p.f).set 6 p.g).set 7 p.h)
     refine⟨_,j+1,by omega,rfl,?_,?_,(oth _ _ _ (oth _ _ _ (oth _ _ _ (oth _ _ _ (oth _ _ _ (oth _ _ _ (oth _ _ _ (oth _ _ _ F5.out)))))))),((((((((B5.out.setCell (p:=⟨w.heap.size+1,0,none⟩) le _).setCell (p:=⟨w.heap.size+1,1,none⟩) le _).setCell (p:=⟨w.heap.size+1,2,none⟩) le _).setCell (p:=⟨w.heap.size+1,3,none⟩) le _).setCell (p:=⟨w.heap.size+1,4,none⟩) le _).setCell (p:=⟨w.heap.size+1,5,none⟩) le _).setCell (p:=⟨w.heap.size+1,6,none⟩) le _).setCell (p:=⟨w.heap.size+1,7,none⟩) le _)⟩
     ·rw [Lib.extract_data,HS.out,List.take_of_length_le (by rw [List.length_drop,List.length_drop,HLEN.out];have:=HSS.out;omega),List.drop_drop,show 64*(j+1)=64*j+64 by omega]
     ·rw [← hp];exact hrow
    case measure =>
     show (S.extract 64 S.size).size<S.size
     rw [ByteArray.size_extract]
     omega
  ·obtain rfl:j=N:=by omega
   have s2:S.size=0:=by omega
   have s3:¬ (0:Int)<(S.size:Int):=by omega
   obtain⟨wo,rfl⟩:∃ wo:World,wo=wr:=⟨_,rfl⟩
   have hB:=r0.lt
   have hB0:=obj_lt r1
   have W0:=hid (show Row (wo.alloc (.cells (u8s (List.replicate 32 0)).toArray 43)) (w.heap.size+1) 106 q.list from (Below.heap_alloc wo _ _ hB).trans r0)
   have W1:=hid (show (wo.alloc (.cells (u8s (List.replicate 32 0)).toArray 43)).heap[w.heap.size]?=some (.cells (u8s (List.replicate 32 0)).toArray 43 (0,0)) from (Below.heap_alloc wo _ _ hB0).trans r1)
   have W2:=hid (show (wo.alloc (.cells (u8s (List.replicate 32 0)).toArray 43)).heap[wo.heap.size]?=some (.cells (u8s (List.replicate 32 0)).toArray 43 (0,0)) from heap_alloc_new wo _)
   have WB:=hid (show Below w.heap.size w (wo.alloc (.cells (u8s (List.replicate 32 0)).toArray 43)) from hbel.alloc hbel.size _)
   have WN:=hid (show w.heap.size+1≠wo.heap.size∧w.heap.size≠wo.heap.size∧w.heap.size≤wo.heap.size from⟨by omega,by omega,by omega⟩)
   clear r0 r1 hbel hsz hB hB0 G0 G1 GB
   go_wp2
   change Code.wp _ _ _ _ (wo.alloc (.cells (u8s (List.replicate 32 0)).toArray 43))
   generalize (wo.alloc (.cells (u8s (List.replicate 32 0)).toArray 43))=V2 at *
   generalize wo.heap.size=b4 at *
   go_loopw [18] (fun v wr=>∃ i:Nat,i≤32∧v=.int .i64 i∧Row wr (w.heap.size+1) 106 q.list∧wr.heap[w.heap.size]?=some (.cells (u8s (List.replicate 32 0)).toArray 43 (0,0))∧wr.heap[b4]?=some (.cells (u8s (hbs q i)).toArray 43 (0,0))∧Below w.heap.size w wr) (fun v _=>32-(intOf v).toNat)
   case atStart=>exact⟨0,Nat.zero_le _,rfl,W0.out,W1.out,W2.out,WB.out⟩
   case round =>
    obtain⟨i,hi,rfl,r0,r1,r2,hbel⟩:=hrel
    by_cases hlt:i<32
    ·obtain⟨x,hx⟩:∃ x,q.list[i / 4]?=some x:=⟨_,List.getElem?_eq_getElem (by show i / 4<8;omega)⟩
     have c0:=r0.cell hx
     have hlen:=hbs_length q i hi
     have hcell:wr.cell? ⟨b4,i,none⟩=some (.int .u8 (((hbs q i)[i]'(by omega)).toNat:Int)):=by
      rw [cell_of_row wr b4 i _ 43 (0,0) r2]
      simpa using u8s_get (hbs q i) i (by omega)
     have hfr:wr.frozen? ⟨b4,i,none⟩=false:=frozen_of_row wr b4 i _ 43 r2
     have ev:=hb_val q i x hx
     have hst:=heap_setCell_same wr b4 i _ 43 (.int .u8 ((hb q i).toNat:Int)) r2
     rw [List.setIfInBounds_toArray,u8s_set,hbs_set q i hlt] at hst
     have hq0:=r0.other b4 i (.int .u8 ((hb q i).toNat:Int)) WN.out.1
     have hq1:=(heap_setCell_other wr ⟨b4,i,none⟩ w.heap.size (.int .u8 ((hb q i).toNat:Int)) WN.out.2.1).trans r1
     rw [ev] at hst hq0 hq1
     have HST:=hid hst
     have Q0:=hid hq0
     have Q1:=hid hq1
     have x0:=vN_lo x
     have x1:=vN_hi x
     have d0:(0:Int)≤(i:Int) / 4:=by omega
     have d1:(i:Int) / 4<8:=by omega
     generalize ((hbs q i)[i]'(by omega))=y at hcell
     clear hst hq0 hq1 ev hlen r0 r1 r2 hx
     go_wp2
     go_roundw
     case rel =>
      exact⟨i+1,by omega,by go_num,Q0.out,Q1.out,HST.out,hbel.setCell (p:=⟨b4,i,none⟩) WN.out.2.2 _⟩
     case measure=>simp [intOf];omega
    ·obtain rfl:i=32:=by omega
     rw [hbs_all] at r2
     obtain⟨C,hC⟩:∃ C,C=(u8s (hashB q)).toArray:=⟨_,rfl⟩
     obtain⟨C0,hC0⟩:∃ C,C=(u8s (List.replicate 32 0)).toArray:=⟨_,rfl⟩
     have hI:=(thirtytwo hC).1
     have hO:=(thirtytwo hC).2.2
     have hz:C0.size=C.size:=by rw [hC0];exact (thirtytwo hC).2.1
     rw [← hC] at r2
     rw [← hC0] at r1
     have HC:=hid hC
     have R1:=hid r1
     have R2:=hid r2
     have I:=hid hI
     have O:=hid hO
     have Z:=hid hz
     clear hC hC0 hI hO hz r0 r1 r2
     go_wp2_with (first
      | (refine wpList_load_row rfl 43 (.tmp 4) rfl b4 rfl 43 C (0,0) _ R2.out Tryz.underlying43 rfl I.out ?_)
      | (refine wpList_store_row rfl 43 (.tmp 2) (.tmp 35) rfl w.heap.size C rfl rfl 43 C0 R1.out I.out Z.out O.out ?_))
     have hg2:=setRow_heap wr w.heap.size C0 C 43 (0,0) R1.out
     exact bodyPost_ret (v:=.agg C) (results_cell_row rfl _ _ w.heap.size 43 C (0,0) _ rfl hg2 Tryz.underlying43 rfl I.out) rfl ⟨by rw [HC.out,HQ.out],below_setRow hbel (Nat.le_refl _) C⟩
end Go.Proofs.YtlpejbbmemhloaaGreatDoor.Hk
