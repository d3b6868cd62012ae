import Derived.Test.YtopepebcnaikiaaGreatDoorRows
import Derived.Test.YtopepebcnaikiaaGreatDoorGb1
import Derived.ChangeKeysEq
import Derived.StillTailTactics
import Derived.BigQuiet
import Derived.StillTail
import Derived.LoopTactic
import Derived.Deep.CutRange
import Derived.WalkKit
import Derived.ProofKit
import Derived.Handy
import Derived.Deep.QuietTactic
import Derived.Deep.MidRow
import Derived.Tactics
import Derived.Tactics2
import Derived.Defers
import Derived.Laws.Pointers
import Derived.Laws.LoneSync
import Derived.Laws.NewBlocks
import Derived.RegionTactic
import Derived.RegionCalls
import Derived.ChangeAlike
import Derived.Outline
import Derived.Lib.Hide
set_option maxRecDepth 100000
set_option maxHeartbeats 20000000
set_option linter.unusedVariables false
set_option linter.unusedSimpArgs false
set_option maxRecDepth 100000
namespace Go.Proofs.YtopepebcnaikiaaGreatDoor
theorem Gb2a {α:Type}(l:List α)(i:Nat)(x:α):l.toArray.setIfInBounds i x=(l.set i x).toArray:=List.setIfInBounds_toArray ..
theorem Gb2b {α:Type}{a b:α}{l:List α}:(a::l).set 0 b=b::l:=List.set_cons_zero
theorem Gb2c {α:Type}{a b:α}{l:List α}{n:Nat}:(a::l).set (n+1) b=a::l.set n b:=List.set_cons_succ
end Go.Proofs.YtopepebcnaikiaaGreatDoor
namespace Go.Proofs.YtopepebcnaikiaaGreatDoor.Ino
open Lib (hid)
open Go.ChangeShapes Go.WideShapes Go.ChangeAt Go.RowKit
open Rg
open Pk (be num be_length num_be num_lt bs bs_size nB nE tN tR tE uN uOk uT uR uE xB xE number_any take_any text_any taketext_any xB_size)
open Ph (has contains_any tl tl_len nb)
theorem box_cell (w:World) (cs:Array Value) (t:TypeId) (i:Nat){v:Value}(hv:cs[i]?=some v):(w.alloc (.cells cs t)).cell? ⟨w.heap.size,i,none⟩=some v :=
 (cell_of_row (w.alloc (.cells cs t)) w.heap.size i cs t (0,0) (heap_alloc_new w _)).trans hv
theorem u64_id {n:Nat}(h:n<18446744073709551616):IntKind.u64.wrap (n:Int)=n:=by rw [IntKind.wrap_u64];omega
theorem written_in (n:In) (hl:n.lim) (ht:n.T.size≤65535) (w:World) :
  Calls Tryz.prog 50 #[vI n] w fun e w'=>e=.returned (.string (wrI n))∧Below w.heap.size w w':=by
 obtain⟨K,M,L,S,T⟩:=n;obtain⟨l1,l2,l3,l4⟩:=hl;dsimp only at l1 l2 l3 l4 ht;have HX:=hid (xB_size ht);unfold vI wrI;dsimp only;have C0:=box_cell w #[.int .u8 K,.int .u16 M,.int .u32 L,.int .u32 S,.string T] 35 0 rfl;have C1:=box_cell w #[.int .u8 K,.int .u16 M,.int .u32 L,.int .u32 S,.string T] 35 1 rfl;have C2:=box_cell w #[.int .u8 K,.int .u16 M,.int .u32 L,.int .u32 S,.string T] 35 2 rfl;have C3:=box_cell w #[.int .u8 K,.int .u16 M,.int .u32 L,.int .u32 S,.string T] 35 3 rfl;have C4:=box_cell w #[.int .u8 K,.int .u16 M,.int .u32 L,.int .u32 S,.string T] 35 4 rfl;have B0:=hid ((Below.refl w.heap.size w).alloc (Nat.le_refl _) (.cells #[.int .u8 K,.int .u16 M,.int .u32 L,.int .u32 S,.string T] 35));have hsz:(w.alloc (.cells #[.int .u8 K,.int .u16 M,.int .u32 L,.int .u32 S,.string T] 35)).heap.size=w.heap.size+1:=by simp
 have HZ:=hid hsz;clear hsz
 go_enter Tryz.func50,Tryz.ntmps50
 go_wp2_with fail
 change Calls _ _ _ (w.alloc (.cells #[.int .u8 K,.int .u16 M,.int .u32 L,.int .u32 S,.string T] 35)) _;generalize hb0:w.heap.size=b0 at *;generalize w.alloc (.cells #[.int .u8 K,.int .u16 M,.int .u32 L,.int .u32 S,.string T] 35)=W at *;refine (text_any T W).mono ?_;rintro e w1 ⟨rfl,hb⟩;have hbl0:b0<W.heap.size:=by rw [HZ.out];omega
 have D0:=(Below.cell hb (p:=⟨b0,0,none⟩) hbl0).trans C0;have D1:=(Below.cell hb (p:=⟨b0,1,none⟩) hbl0).trans C1;have D2:=(Below.cell hb (p:=⟨b0,2,none⟩) hbl0).trans C2;have D3:=(Below.cell hb (p:=⟨b0,3,none⟩) hbl0).trans C3;have hbl:b0<w1.heap.size:=by have:=hb.size;omega
 have B1:=hid (B0.out.trans (hb.mono (by rw [HZ.out];omega)));have HB0:=hid hb0;clear C0 C1 C2 C3 C4 hb B0 HZ hb0;obtain⟨t,htt⟩:∃ t,xB T=t:=⟨_,rfl⟩;rw [htt] at HX ⊢;have hts:t.size≤65537:=by have:=HX.out;omega
 have HT:=hid htt;clear htt;have z1:(bs (be 1 K)).size=1:=by rw [bs_size,be_length]
 have z2:(bs (be 2 M)).size=2:=by rw [bs_size,be_length]
 have z3:(bs (be 4 L)).size=4:=by rw [bs_size,be_length]
 have z4:(bs (be 4 S)).size=4:=by rw [bs_size,be_length]
 go_wp2_with fail
 refine wp_region_G (fun w'=>Below w1.heap.size w1 w') (by kernel_rfl) (by kernel_rfl) (Below.refl _ _).drew ?_;refine wpG_val (.pointer (some ⟨b0,0,none⟩)) rfl (by rfl) (fun w' hSw=>by go_simp) ?_;simp only [Gb2a,Gb2b,Gb2c];refine wpG_val (.int .u8 K) rfl (by rfl) (fun w' hSw=>by have c:=(Below.cell hSw (p:=⟨b0,0,none⟩) hbl).trans D0;go_simp) ?_;simp only [Gb2a,Gb2b,Gb2c];refine wpG_val (.int .u64 K) rfl (by rfl) (fun w' hSw=>by have u:=u64_id (n:=K) (by omega);go_simp) ?_;simp only [Gb2a,Gb2b,Gb2c];refine wpG_call (.string (bs (be 1 K))) 83 #[.int .u64 K,.int .i64 1] rfl (by rfl) (fun w'=>by go_simp) (fun w' hSw=>(number_in K 1 w' (by omega) (by omega) (by omega) (by omega)).mono fun e w2 h=>⟨h.1,hSw.trans (h.2.mono hSw.size)⟩) ?_;simp only [Gb2a,Gb2b,Gb2c];refine wpG_val (.pointer (some ⟨b0,1,none⟩)) rfl (by rfl) (fun w' hSw=>by go_simp) ?_;simp only [Gb2a,Gb2b,Gb2c];refine wpG_val (.int .u16 M) rfl (by rfl) (fun w' hSw=>by have c:=(Below.cell hSw (p:=⟨b0,1,none⟩) hbl).trans D1;go_simp) ?_;simp only [Gb2a,Gb2b,Gb2c];refine wpG_val (.int .u64 M) rfl (by rfl) (fun w' hSw=>by have u:=u64_id (n:=M) (by omega);go_simp) ?_;simp only [Gb2a,Gb2b,Gb2c];refine wpG_call (.string (bs (be 2 M))) 83 #[.int .u64 M,.int .i64 2] rfl (by rfl) (fun w'=>by go_simp) (fun w' hSw=>(number_in M 2 w' (by omega) (by omega) (by omega) (by omega)).mono fun e w2 h=>⟨h.1,hSw.trans (h.2.mono hSw.size)⟩) ?_;simp only [Gb2a,Gb2b,Gb2c];refine wpG_val (.string (bs (be 1 K)++bs (be 2 M))) rfl (by rfl) (fun w' hSw=>by go_simp) ?_;simp only [Gb2a,Gb2b,Gb2c];refine wpG_val (.pointer (some ⟨b0,2,none⟩)) rfl (by rfl) (fun w' hSw=>by go_simp) ?_;simp only [Gb2a,Gb2b,Gb2c];refine wpG_val (.int .u32 L) rfl (by rfl) (fun w' hSw=>by have c:=(Below.cell hSw (p:=⟨b0,2,none⟩) hbl).trans D2;go_simp) ?_;simp only [Gb2a,Gb2b,Gb2c];refine wpG_val (.int .u64 L) rfl (by rfl) (fun w' hSw=>by have u:=u64_id (n:=L) (by omega);go_simp) ?_;simp only [Gb2a,Gb2b,Gb2c];refine wpG_call (.string (bs (be 4 L))) 83 #[.int .u64 L,.int .i64 4] rfl (by rfl) (fun w'=>by go_simp) (fun w' hSw=>(number_in L 4 w' (by omega) (by omega) (by omega) (by omega)).mono fun e w2 h=>⟨h.1,hSw.trans (h.2.mono hSw.size)⟩) ?_;simp only [Gb2a,Gb2b,Gb2c];refine wpG_val (.string (bs (be 1 K)++bs (be 2 M)++bs (be 4 L))) rfl (by rfl) (fun w' hSw=>by go_simp) ?_;simp only [Gb2a,Gb2b,Gb2c];refine wpG_val (.pointer (some ⟨b0,3,none⟩)) rfl (by rfl) (fun w' hSw=>by go_simp) ?_;simp only [Gb2a,Gb2b,Gb2c];refine wpG_val (.int .u32 S) rfl (by rfl) (fun w' hSw=>by have c:=(Below.cell hSw (p:=⟨b0,3,none⟩) hbl).trans D3;go_simp) ?_;simp only [Gb2a,Gb2b,Gb2c];refine wpG_val (.int .u64 S) rfl (by rfl) (fun w' hSw=>by have u:=u64_id (n:=S) (by omega);go_simp) ?_;simp only [Gb2a,Gb2b,Gb2c];refine wpG_call (.string (bs (be 4 S))) 83 #[.int .u64 S,.int .i64 4] rfl (by rfl) (fun w'=>by go_simp) (fun w' hSw=>(number_in S 4 w' (by omega) (by omega) (by omega) (by omega)).mono fun e w2 h=>⟨h.1,hSw.trans (h.2.mono hSw.size)⟩) ?_;simp only [Gb2a,Gb2b,Gb2c];refine wpG_val (.string (bs (be 1 K)++bs (be 2 M)++bs (be 4 L)++bs (be 4 S))) rfl (by rfl) (fun w' hSw=>by go_simp) ?_
 simp only [Gb2a,Gb2b,Gb2c];refine wpG_val (.string t) rfl (by rfl) (fun w' hSw=>by go_simp) ?_;simp only [Gb2a,Gb2b,Gb2c];refine wpG_val (.string (bs (be 1 K)++bs (be 2 M)++bs (be 4 L)++bs (be 4 S)++t)) rfl (by rfl) (fun w' hSw=>by go_simp<;>omega) ?_;simp only [Gb2a,Gb2b,Gb2c];refine wpG_val (.string (bs (be 1 K)++bs (be 2 M)++bs (be 4 L)++bs (be 4 S)++t)) rfl (by rfl) (fun w' hSw=>by go_simp) ?_;simp only [Gb2a,Gb2b,Gb2c];refine wpG_nil ?_;intro wS hSw
 go_wp2
 go_ret
 exact⟨by rw [HT.out];rfl,by rw [HB0.out];exact B1.out.trans (hSw.mono (Nat.le_of_lt hbl))⟩
def enI (n:In):ByteArray:=if okI n then wrI n else ByteArray.empty
theorem chI_yes {n:In}(h:okI n=true):chI n=0∧enI n=wrI n:=by unfold chI enI;rw [h];exact⟨rfl,rfl⟩
theorem chI_no {n:In}(h:okI n=false):chI n=4∧enI n=ByteArray.empty:=by unfold chI enI;rw [h];exact⟨rfl,rfl⟩
theorem encode_in (n:In) (hl:n.lim) (w:World) :
  Calls Tryz.prog 31 #[vI n] w fun e w'=>e=.returned (.tuple #[.string (enI n),.int .i64 (chI n)])∧Below w.heap.size w w':=by
 obtain⟨K,M,L,S,T⟩:=n;have HC:=hid (check_in ⟨K,M,L,S,T⟩ hl);have HW:=hid (fun ht w=>written_in ⟨K,M,L,S,T⟩ hl ht w);have C0:=box_cell w #[.int .u8 K,.int .u16 M,.int .u32 L,.int .u32 S,.string T] 35 0 rfl;have C1:=box_cell w #[.int .u8 K,.int .u16 M,.int .u32 L,.int .u32 S,.string T] 35 1 rfl;have C2:=box_cell w #[.int .u8 K,.int .u16 M,.int .u32 L,.int .u32 S,.string T] 35 2 rfl;have C3:=box_cell w #[.int .u8 K,.int .u16 M,.int .u32 L,.int .u32 S,.string T] 35 3 rfl;have C4:=box_cell w #[.int .u8 K,.int .u16 M,.int .u32 L,.int .u32 S,.string T] 35 4 rfl;have B0:=hid ((Below.refl w.heap.size w).alloc (Nat.le_refl _) (.cells #[.int .u8 K,.int .u16 M,.int .u32 L,.int .u32 S,.string T] 35));have hsz:(w.alloc (.cells #[.int .u8 K,.int .u16 M,.int .u32 L,.int .u32 S,.string T] 35)).heap.size=w.heap.size+1:=by simp
 have HZ:=hid hsz;clear hsz;unfold vI;dsimp only
 go_enter Tryz.func31,Tryz.ntmps31
 go_wp2_with fail
 change Calls _ _ _ (w.alloc (.cells #[.int .u8 K,.int .u16 M,.int .u32 L,.int .u32 S,.string T] 35)) _;generalize w.alloc (.cells #[.int .u8 K,.int .u16 M,.int .u32 L,.int .u32 S,.string T] 35)=W at *;refine (HC.out W).mono ?_;rintro e w1 ⟨rfl,hb⟩;have hbl0:w.heap.size<W.heap.size:=by rw [HZ.out];omega
 have D0:=(Below.cell hb (p:=⟨w.heap.size,0,none⟩) hbl0).trans C0;have D1:=(Below.cell hb (p:=⟨w.heap.size,1,none⟩) hbl0).trans C1;have D2:=(Below.cell hb (p:=⟨w.heap.size,2,none⟩) hbl0).trans C2;have D3:=(Below.cell hb (p:=⟨w.heap.size,3,none⟩) hbl0).trans C3;have D4:=(Below.cell hb (p:=⟨w.heap.size,4,none⟩) hbl0).trans C4;have B1:=hid (B0.out.trans (hb.mono (by rw [HZ.out];omega)));clear C0 C1 C2 C3 C4 hb B0 HZ HC;cases hq:okI ⟨K,M,L,S,T⟩
 ·have HQ:=hid (chI_no hq);rw [HQ.out.1];clear hq
  go_wp2
  go_ret2
  exact⟨by rw [HQ.out.1,HQ.out.2];rfl,B1.out⟩
 ·have HQ:=hid (chI_yes hq);have HW2:=hid (HW.out (by have:=(okI_size hq).1;dsimp only at this ⊢;omega));rw [HQ.out.1];clear hq HW
  go_wp2_with (go_at_call 50;refine (HW2.out _).mono ?_;rintro e w' ⟨rfl,hb⟩)
  go_ret2
  exact⟨by rw [HQ.out.1,HQ.out.2];rfl,B1.out.trans (hb.mono B1.out.size)⟩
theorem setRow_heap' {w:World}{g:Nat}{cs old:Array Value}{t:TypeId}{f:Nat×Nat}(h:w.heap[g]?=some (.cells old t f)):(w.setRow g cs).heap[g]?=some (.cells cs t f):=setRow_heap w g old cs t f h
theorem below_setRow {B:Nat}{w w1:World}(h:Below B w w1){g:Nat}(hg:B≤g) (cs:Array Value):Below B w (w1.setRow g cs) :=
 ⟨h.os,h.tape,h.output,by simpa [World.setRow] using h.size,fun k hk=>by
  have:(w1.setRow g cs).heap[k]?=w1.heap[k]?:=by
   unfold World.setRow;simp only [Array.getElem?_modify];rw [if_neg (by omega)]
  rw [this];exact h.block k hk⟩
theorem row_bel {w w':World}{g B:Nat}{o:Obj}(h:w.heap[g]?=some o) (hb:Below B w w') (hg:g<B):w'.heap[g]?=some o:=(hb.block g hg).trans h
theorem row5 (K M L S:Int) (T:ByteArray):(#[.int .u8 K,.int .u16 M,.int .u32 L,.int .u32 S,.string T]:Array Value).all (·.oneCell')=true:=by simp [Value.oneCell']
theorem tn_nat (s:ByteArray) (k:Nat) (h:k≤8):tN s (k:Int)=((tN s (k:Int)).toNat:Int):=by have:=(tN_lt s k h).1;omega
theorem u8_id {n:Nat}(h:n<256):IntKind.u8.wrap (n:Int)=n:=by simp [IntKind.wrap,IntKind.bits,IntKind.signed];omega
theorem u16_id {n:Nat}(h:n<65536):IntKind.u16.wrap (n:Int)=n:=by simp [IntKind.wrap,IntKind.bits,IntKind.signed];omega
theorem u32_id {n:Nat}(h:n<4294967296):IntKind.u32.wrap (n:Int)=n:=by simp [IntKind.wrap,IntKind.bits,IntKind.signed];omega
theorem takeNat (s:ByteArray) (k m:Nat) (r:ByteArray) (hs:s.size≤maxLen) (hk:k≤8) (hm:(tN s (k:Int)).toNat=m) (hr:tR s (k:Int)=r) (w:World) :
  Calls Tryz.prog 162 #[.string s,.int .i64 k] w fun e w'=>e=.returned (.tuple #[.int .u64 (m:Int),.string r])∧Below w.heap.size w w':=by
 have h:=takeNumber_in s k w hs;rw [tn_nat s k hk,hm,hr] at h;exact h
theorem taken_in (s:ByteArray) (hs:s.size≤maxLen) (w:World) :
  Calls Tryz.prog 173 #[.string s] w fun e w'=>e=.returned (vI (tkI s))∧Below w.heap.size w w':=by
 have hlim:=tkI_lim s;obtain⟨K,hK⟩:∃ K,(tN s ((1:Nat):Int)).toNat=K:=⟨_,rfl⟩;obtain⟨r1,h1⟩:∃ r,tR s ((1:Nat):Int)=r:=⟨_,rfl⟩;obtain⟨M,hM⟩:∃ K,(tN r1 ((2:Nat):Int)).toNat=K:=⟨_,rfl⟩;obtain⟨r2,h2⟩:∃ r,tR r1 ((2:Nat):Int)=r:=⟨_,rfl⟩;obtain⟨L,hL⟩:∃ K,(tN r2 ((4:Nat):Int)).toNat=K:=⟨_,rfl⟩;obtain⟨r3,h3⟩:∃ r,tR r2 ((4:Nat):Int)=r:=⟨_,rfl⟩;obtain⟨S,hS⟩:∃ K,(tN r3 ((4:Nat):Int)).toNat=K:=⟨_,rfl⟩;obtain⟨r4,h4⟩:∃ r,tR r3 ((4:Nat):Int)=r:=⟨_,rfl⟩;obtain⟨T,hT⟩:∃ r,uT r4=r:=⟨_,rfl⟩;have hn:tkI s=⟨K,M,L,S,T⟩:=by subst hK h1 hM h2 hL h3 hS h4 hT;rfl
 have z1:r1.size≤maxLen:=by rw [← h1];exact Nat.le_trans (tR_le _ _) hs
 have z2:r2.size≤maxLen:=by rw [← h2];exact Nat.le_trans (tR_le _ _) z1
 have z3:r3.size≤maxLen:=by rw [← h3];exact Nat.le_trans (tR_le _ _) z2
 have z4:r4.size≤maxLen:=by rw [← h4];exact Nat.le_trans (tR_le _ _) z3
 have C1:=hid (takeNat s 1 K r1 hs (by omega) hK h1);have C2:=hid (takeNat r1 2 M r2 z1 (by omega) hM h2);have C3:=hid (takeNat r2 4 L r3 z2 (by omega) hL h3);have C4:=hid (takeNat r3 4 S r4 z3 (by omega) hS h4);have C5:=hid (fun w=>taketext_any r4 w z4);rw [hT] at C5;rw [hn] at hlim ⊢;obtain⟨l1,l2,l3,l4⟩:=hlim;dsimp only at l1 l2 l3 l4;have U1:=hid (u8_id l1);have U2:=hid (u16_id l2);have U3:=hid (u32_id l3);have U4:=hid (u32_id l4);clear hn hK h1 hM h2 hL h3 hS h4 hT z1 z2 z3 z4 l1 l2 l3 l4 hs;have R0:=hid (heap_alloc_new w (.cells #[.int .u8 0,.int .u16 0,.int .u32 0,.int .u32 0,.string ⟨#[]⟩] 35));have B0:=hid ((Below.refl w.heap.size w).alloc (Nat.le_refl _) (.cells #[.int .u8 0,.int .u16 0,.int .u32 0,.int .u32 0,.string ⟨#[]⟩] 35));have hsz:w.heap.size<(w.alloc (.cells #[.int .u8 0,.int .u16 0,.int .u32 0,.int .u32 0,.string ⟨#[]⟩] 35)).heap.size:=by simp
 unfold vI;dsimp only
 go_enter Tryz.func173,Tryz.ntmps173
 go_wp2_with fail
 change Calls _ _ _ (w.alloc (.cells #[.int .u8 0,.int .u16 0,.int .u32 0,.int .u32 0,.string ⟨#[]⟩] 35)) _;generalize w.alloc (.cells #[.int .u8 0,.int .u16 0,.int .u32 0,.int .u32 0,.string ⟨#[]⟩] 35)=W at *;refine (C1.out _).mono ?_;rintro e w1 ⟨rfl,hb⟩;have R1:=hid (row_bel R0.out hb hsz);have B1:=hid (B0.out.trans (hb.mono B0.out.size));replace hsz:=Nat.lt_of_lt_of_le hsz hb.size;clear hb R0 B0 C1
 go_wp2_with fail
 refine (C2.out _).mono ?_;rintro e w2 ⟨rfl,hb⟩;have R2:=hid (row_bel R1.out hb hsz);have B2:=hid (B1.out.trans (hb.mono B1.out.size));replace hsz:=Nat.lt_of_lt_of_le hsz hb.size;clear hb R1 B1 C2
 go_wp2_with fail
 refine (C3.out _).mono ?_;rintro e w3 ⟨rfl,hb⟩;have R3:=hid (row_bel R2.out hb hsz);have B3:=hid (B2.out.trans (hb.mono B2.out.size));replace hsz:=Nat.lt_of_lt_of_le hsz hb.size;clear hb R2 B2 C3
 go_wp2_with fail
 refine (C4.out _).mono ?_;rintro e w4 ⟨rfl,hb⟩;have R4:=hid (row_bel R3.out hb hsz);have B4:=hid (B3.out.trans (hb.mono B3.out.size));replace hsz:=Nat.lt_of_lt_of_le hsz hb.size;clear hb R3 B3 C4
 go_wp2_with fail
 refine (C5.out _).mono ?_;rintro e w5 ⟨rfl,hb⟩;have R5:=hid (row_bel R4.out hb hsz);have B5:=hid (B4.out.trans (hb.mono B4.out.size));replace hsz:=Nat.lt_of_lt_of_le hsz hb.size;clear hb R4 B4 C5;have u1:=U1.out;have u2:=U2.out;have u3:=U3.out;have u4:=U4.out
 go_wp2_with (refine wpList_store_row rfl 35 (.tmp 2) (.tmp 46) rfl w.heap.size #[.int .u8 K,.int .u16 M,.int .u32 L,.int .u32 S,.string T] rfl rfl 35 #[.int .u8 0,.int .u16 0,.int .u32 0,.int .u32 0,.string ⟨#[]⟩] R5.out (by kernel_rfl) rfl (row5 _ _ _ _ _) ?_)
 have hg2:=setRow_heap' (cs:=#[.int .u8 K,.int .u16 M,.int .u32 L,.int .u32 S,.string T]) R5.out;refine bodyPost_ret (v:=.agg #[.int .u8 K,.int .u16 M,.int .u32 L,.int .u32 S,.string T]) (results_cell_row rfl _ _ w.heap.size 35 #[.int .u8 K,.int .u16 M,.int .u32 L,.int .u32 S,.string T] (0,0) _ rfl hg2 Tryz.underlying35 rfl (by kernel_rfl)) rfl ?_;exact⟨rfl,below_setRow B5.out (Nat.le_refl _) _⟩
theorem results_row2 {P:Program}{fn:Func}{p u:Tmp}{ty:TypeId}(h:fn.results=#[.cell p ty,.tmp u]) (tmps:Array Value) (w:World) (g:Nat) (t:TypeId) (cs:Array Value) (fr:Nat×Nat) (d:TypeDesc)
  (hp:tmps.getD p undef=.pointer (some ⟨g,0,none⟩)) (hg:w.heap[g]?=some (.cells cs t fr))
  (hu:P.underlying ty=some d) (hd:(match d with | .struct _ | .array _ _=>true | _=>false)=true) (hi:(P.info? ty).map (·.size)=some cs.size) (r:Value) (hr:tmps.getD u undef=r) :
  (results fn tmps).run P w=.ok (.tuple #[.agg cs,r]) w:=by
 rw [results_cell_tmp h,hp,hr];simp [asAddr,run_loadVar_row w g t ty cs fr d hg hu hd hi,Result.andThen]
theorem new_row {w1:World}{g g2:Nat}{o:Obj}{old cs:Array Value}{t:TypeId}(h:w1.heap[g]?=some o) (hg2:w1.heap.size=g2):((w1.alloc (.cells old t)).setRow g2 cs).heap[g]?=some o∧((w1.alloc (.cells old t)).setRow g2 cs).heap[g2]?=some (.cells cs t (0,0))∧Below w1.heap.size w1 ((w1.alloc (.cells old t)).setRow g2 cs):=by
 subst hg2;have hlt:g<w1.heap.size:=by
  rcases Nat.lt_or_ge g w1.heap.size with h' | h'
  ·exact h'
  ·rw [Array.getElem?_eq_none h'] at h;cases h
 have hb:=below_setRow ((Below.refl w1.heap.size w1).alloc (Nat.le_refl _) (.cells old t)) (Nat.le_refl w1.heap.size) cs;exact⟨(hb.block g hlt).trans h,setRow_heap' (heap_alloc_new w1 _),hb⟩
theorem ne_str {x y:ByteArray}(h:x≠y):(x.toList != y.toList)=true∧(x.toList==y.toList)=false:=by
 have e:(x.toList==y.toList)=false:=by
  rw [beq_eq_false_iff_ne,tl,tl];exact fun e=>h (ByteArray.ext (Array.toList_inj.1 e))
 exact⟨by rw [bne,e];rfl,e⟩
theorem eq_str (x:ByteArray):(x.toList != x.toList)=false∧(x.toList==x.toList)=true:=by
 have e:(x.toList==x.toList)=true:=beq_self_eq_true _;exact⟨by rw [bne,e];rfl,e⟩
theorem decode_in (s:ByteArray) (hs:s.size≤maxLen) (w:World) :
  Calls Tryz.prog 145 #[.string s] w fun e w'=>e=.returned (.tuple #[vI (deI s),.int .i64 (deIE s)])∧Below w.heap.size w w':=by
 have CT:=hid (taken_in s hs);have hlim:=tkI_lim s;have HI:Hid (deI s=if okI (tkI s)=true∧wrI (tkI s)=s then tkI s else zIn):=hid rfl;have HX:Hid (deIE s=if okI (tkI s)=true∧wrI (tkI s)=s then 0 else 4):=hid rfl;generalize tkI s=n at *;have CE:=hid (encode_in n hlim);have HE:=hid (@chI_yes n);have HF:=hid (@chI_no n);obtain⟨K,M,L,S,T⟩:=n;unfold vI at CT CE;dsimp only at CT CE;have R0:=hid (heap_alloc_new w (.cells #[.int .u8 0,.int .u16 0,.int .u32 0,.int .u32 0,.string ⟨#[]⟩] 35));have B0:=hid ((Below.refl w.heap.size w).alloc (Nat.le_refl _) (.cells #[.int .u8 0,.int .u16 0,.int .u32 0,.int .u32 0,.string ⟨#[]⟩] 35));have hsz:w.heap.size<(w.alloc (.cells #[.int .u8 0,.int .u16 0,.int .u32 0,.int .u32 0,.string ⟨#[]⟩] 35)).heap.size:=by simp
 clear hs
 go_enter Tryz.func145,Tryz.ntmps145
 go_wp2_with fail
 change Calls _ _ _ (w.alloc (.cells #[.int .u8 0,.int .u16 0,.int .u32 0,.int .u32 0,.string ⟨#[]⟩] 35)) _;generalize w.alloc (.cells #[.int .u8 0,.int .u16 0,.int .u32 0,.int .u32 0,.string ⟨#[]⟩] 35)=W at *;refine (CT.out _).mono ?_;rintro e w1 ⟨rfl,hb⟩;have R1:=hid (row_bel R0.out hb hsz);have B1:=hid (B0.out.trans (hb.mono B0.out.size));have N1:=hid (new_row (old:=#[.int .u8 0,.int .u16 0,.int .u32 0,.int .u32 0,.string ⟨#[]⟩]) (cs:=#[.int .u8 K,.int .u16 M,.int .u32 L,.int .u32 S,.string T]) (t:=35) R1.out rfl);clear hb R0 B0 CT
 go_wp2_with (first|(refine wpList_store_row rfl 35 (.tmp 4) (.tmp 8) rfl w1.heap.size #[.int .u8 K,.int .u16 M,.int .u32 L,.int .u32 S,.string T] rfl rfl 35 #[.int .u8 0,.int .u16 0,.int .u32 0,.int .u32 0,.string ⟨#[]⟩] (heap_alloc_new w1 _) (by kernel_rfl) rfl (row5 _ _ _ _ _) ?_;change wpList _ _ _ _ _ ((w1.alloc (.cells #[.int .u8 0,.int .u16 0,.int .u32 0,.int .u32 0,.string ⟨#[]⟩] 35)).setRow w1.heap.size #[.int .u8 K,.int .u16 M,.int .u32 L,.int .u32 S,.string T]);generalize ((w1.alloc (.cells #[.int .u8 0,.int .u16 0,.int .u32 0,.int .u32 0,.string ⟨#[]⟩] 35)).setRow w1.heap.size #[.int .u8 K,.int .u16 M,.int .u32 L,.int .u32 S,.string T])=W2 at *)|(refine wpList_load_row rfl 35 (.tmp 4) rfl w1.heap.size rfl 35 #[.int .u8 K,.int .u16 M,.int .u32 L,.int .u32 S,.string T] (0,0) _ N1.out.2.1 Tryz.underlying35 rfl (by kernel_rfl) ?_))
 refine (CE.out _).mono ?_;rintro e w3 ⟨rfl,hb⟩;have hlt2:w1.heap.size<W2.heap.size:=by
  rcases Nat.lt_or_ge w1.heap.size W2.heap.size with h' | h'
  ·exact h'
  ·have:=N1.out.2.1;rw [Array.getElem?_eq_none h'] at this;cases this
 have Rg:=hid (row_bel N1.out.1 hb (by have:=B1.out.size;omega));have Rn:=hid (row_bel N1.out.2.1 hb hlt2);have B3:=hid (B1.out.trans ((N1.out.2.2.trans (hb.mono N1.out.2.2.size)).mono B1.out.size));clear hb N1 CE R1 B1 hlt2 hsz;have hz:=setRow_heap' (cs:=#[.int .u8 0,.int .u16 0,.int .u32 0,.int .u32 0,.string ⟨#[]⟩]) Rg.out;have hr:=setRow_heap' (cs:=#[.int .u8 K,.int .u16 M,.int .u32 L,.int .u32 S,.string T]) Rg.out;have HZ:=hid hz;have HR:=hid hr;clear hz hr;cases hq:okI ⟨K,M,L,S,T⟩
 ·obtain⟨e1,e2⟩:=HF.out hq;have H1:=hid (show deI s=zIn by rw [HI.out,if_neg (by rw [hq];rintro ⟨h,_⟩;cases h)]);have H2:=hid (show deIE s=4 by rw [HX.out,if_neg (by rw [hq];rintro ⟨h,_⟩;cases h)]);rw [e1];clear hq e1 e2 HE HF HI HX
  go_wp2_with (refine wpList_store_row rfl 35 (.tmp 2) (.tmp 21) rfl w.heap.size #[.int .u8 0,.int .u16 0,.int .u32 0,.int .u32 0,.string ⟨#[]⟩] rfl rfl 35 #[.int .u8 0,.int .u16 0,.int .u32 0,.int .u32 0,.string ⟨#[]⟩] Rg.out (by kernel_rfl) rfl (row5 _ _ _ _ _) ?_)
  refine bodyPost_ret (v:=.tuple #[.agg #[.int .u8 0,.int .u16 0,.int .u32 0,.int .u32 0,.string ⟨#[]⟩],.int .i64 4]) (results_row2 rfl _ _ w.heap.size 35 #[.int .u8 0,.int .u16 0,.int .u32 0,.int .u32 0,.string ⟨#[]⟩] (0,0) _ rfl HZ.out Tryz.underlying35 rfl (by kernel_rfl) _ rfl) rfl ?_;exact⟨by rw [H1.out,H2.out];rfl,below_setRow B3.out (Nat.le_refl _) _⟩
 ·obtain⟨e1,e2⟩:=HE.out hq;by_cases hw:wrI ⟨K,M,L,S,T⟩=s
  ·obtain⟨s1,s2⟩:=eq_str s;have H1:=hid (show deI s=⟨K,M,L,S,T⟩ by rw [HI.out,if_pos ⟨hq,hw⟩]);have H2:=hid (show deIE s=0 by rw [HX.out,if_pos ⟨hq,hw⟩]);rw [e1,e2,hw];clear hq hw e1 e2 HE HF HI HX
   go_wp2_with (first|(refine wpList_load_row rfl 35 (.tmp 4) rfl w1.heap.size rfl 35 #[.int .u8 K,.int .u16 M,.int .u32 L,.int .u32 S,.string T] (0,0) _ Rn.out Tryz.underlying35 rfl (by kernel_rfl) ?_)|(refine wpList_store_row rfl 35 (.tmp 2) (.tmp 22) rfl w.heap.size #[.int .u8 K,.int .u16 M,.int .u32 L,.int .u32 S,.string T] rfl rfl 35 #[.int .u8 0,.int .u16 0,.int .u32 0,.int .u32 0,.string ⟨#[]⟩] Rg.out (by kernel_rfl) rfl (row5 _ _ _ _ _) ?_))
   refine bodyPost_ret (v:=.tuple #[.agg #[.int .u8 K,.int .u16 M,.int .u32 L,.int .u32 S,.string T],.int .i64 0]) (results_row2 rfl _ _ w.heap.size 35 #[.int .u8 K,.int .u16 M,.int .u32 L,.int .u32 S,.string T] (0,0) _ rfl HR.out Tryz.underlying35 rfl (by kernel_rfl) _ rfl) rfl ?_;exact⟨by rw [H1.out,H2.out];rfl,below_setRow B3.out (Nat.le_refl _) _⟩
  ·obtain⟨s1,s2⟩:=ne_str hw;have H1:=hid (show deI s=zIn by rw [HI.out,if_neg (fun h=>hw h.2)]);have H2:=hid (show deIE s=4 by rw [HX.out,if_neg (fun h=>hw h.2)]);rw [e1,e2];clear hq hw e1 e2 HE HF HI HX
   go_wp2_with (refine wpList_store_row rfl 35 (.tmp 2) (.tmp 21) rfl w.heap.size #[.int .u8 0,.int .u16 0,.int .u32 0,.int .u32 0,.string ⟨#[]⟩] rfl rfl 35 #[.int .u8 0,.int .u16 0,.int .u32 0,.int .u32 0,.string ⟨#[]⟩] Rg.out (by kernel_rfl) rfl (row5 _ _ _ _ _) ?_)
   refine bodyPost_ret (v:=.tuple #[.agg #[.int .u8 0,.int .u16 0,.int .u32 0,.int .u32 0,.string ⟨#[]⟩],.int .i64 4]) (results_row2 rfl _ _ w.heap.size 35 #[.int .u8 0,.int .u16 0,.int .u32 0,.int .u32 0,.string ⟨#[]⟩] (0,0) _ rfl HZ.out Tryz.underlying35 rfl (by kernel_rfl) _ rfl) rfl ?_;exact⟨by rw [H1.out,H2.out];rfl,below_setRow B3.out (Nat.le_refl _) _⟩
end Go.Proofs.YtopepebcnaikiaaGreatDoor.Ino
namespace Go.Proofs.YtopepebcnaikiaaGreatDoor.Ino
open Lib (hid)
open Go.ChangeShapes Go.WideShapes Go.ChangeAt Go.RowKit
open Rg
open Pk (be num be_length num_be num_lt bs bs_size nB nE tN tR tE uN uOk uT uR uE xB xE xB_size)
open Ph (has has_take has_iff byte_ne byte_eq tl tl_len nb)
theorem new_row2 {w1:World}{g:Nat}{o:Obj}{old cs:Array Value}{t:TypeId}(h:w1.heap[g]?=some o):((w1.alloc (.cells old t)).setRow w1.heap.size cs).heap[g]?=some o∧((w1.alloc (.cells old t)).setRow w1.heap.size cs).heap[w1.heap.size]?=some (.cells cs t (0,0))∧Below w1.heap.size w1 ((w1.alloc (.cells old t)).setRow w1.heap.size cs)∧w1.heap.size<((w1.alloc (.cells old t)).setRow w1.heap.size cs).heap.size:=by
 have k:=new_row (old:=old) (cs:=cs) (t:=t) h rfl;refine⟨k.1,k.2.1,k.2.2,?_⟩;rcases Nat.lt_or_ge w1.heap.size ((w1.alloc (.cells old t)).setRow w1.heap.size cs).heap.size with h' | h'
 ·exact h'
 ·have:=k.2.1;rw [Array.getElem?_eq_none h'] at this;cases this
end Go.Proofs.YtopepebcnaikiaaGreatDoor.Ino
namespace Go.Proofs.YtopepebcnaikiaaGreatDoor.Ino
open Lib (hid)
open Go.ChangeShapes Go.WideShapes Go.ChangeAt Go.RowKit
open Rg
open Pk (be num be_length num_be num_lt bs bs_size nB nE tN tR tE xB_size)
open Ph (has tl tl_len nb contains_any name_any)
theorem ltB_size {K:Nat}:(ltB K).size≤1:=by
 unfold ltB lt;rw [bs_size]
 repeat' split
 all_goals decide
theorem new_letters (w:World):LtAt (w.alloc (.cells #[.int .u32 0,.int .i32 0,.int .u32 0,.string ⟨#[]⟩,.string ⟨#[]⟩,.string ⟨#[]⟩,.string ⟨#[]⟩,.string ⟨#[]⟩] 194)) w.heap.size false:=by
 refine⟨?_,fun i hi=>?_⟩
 ·intro i v hv;rw [Nat.zero_add];refine (cell_of_row (w.alloc (.cells #[.int .u32 0,.int .i32 0,.int .u32 0,.string ⟨#[]⟩,.string ⟨#[]⟩,.string ⟨#[]⟩,.string ⟨#[]⟩,.string ⟨#[]⟩] 194)) w.heap.size i #[.int .u32 0,.int .i32 0,.int .u32 0,.string ⟨#[]⟩,.string ⟨#[]⟩,.string ⟨#[]⟩,.string ⟨#[]⟩,.string ⟨#[]⟩] 194 (0,0) (heap_alloc_new w _)).trans ?_;rw [← hv];show (lRow false).toArray[i]?=(lRow false)[i]?
  exact List.getElem?_toArray ..
 ·exact frozen_of_row (w.alloc (.cells #[.int .u32 0,.int .i32 0,.int .u32 0,.string ⟨#[]⟩,.string ⟨#[]⟩,.string ⟨#[]⟩,.string ⟨#[]⟩,.string ⟨#[]⟩] 194)) w.heap.size i #[.int .u32 0,.int .i32 0,.int .u32 0,.string ⟨#[]⟩,.string ⟨#[]⟩,.string ⟨#[]⟩,.string ⟨#[]⟩,.string ⟨#[]⟩] 194 (heap_alloc_new w _)
theorem prefix_in (K I:Nat) (hK:K<256) (hI:I<4294967296) (w:World) :
  Calls Tryz.prog 82 #[.int .u8 K,.int .u32 I] w fun e w'=>e=.returned (.string (pfx K I))∧Below w.heap.size w w':=by
 have HL:=hid (new_letters w);have B0:=hid ((Below.refl w.heap.size w).alloc (Nat.le_refl _) (.cells #[.int .u32 0,.int .i32 0,.int .u32 0,.string ⟨#[]⟩,.string ⟨#[]⟩,.string ⟨#[]⟩,.string ⟨#[]⟩,.string ⟨#[]⟩] 194));have hz:=ltB_size (K:=K);have u:=u64_id (n:=I) (by omega);have HU:=hid u;have HN:=hid (fun w=>number_in I 4 w (by omega) (by omega) (by omega) (by omega));have hbz:(bs (be 4 I)).size=4:=by rw [bs_size,be_length]
 clear u;by_cases h0:lt K=[]
 ·have HP:=hid (show pfx K I=ByteArray.empty by unfold pfx;rw [if_pos h0]);have e0:(ltB K).size=0:=by unfold ltB;rw [h0];rfl
  obtain⟨e1,e2⟩:=emp_of (decide_eq_true e0);have e3:=emp_yes e0;clear h0 e0
  go_enter Tryz.func82,Tryz.ntmps82
  go_wp2_with fail
  change Calls _ _ _ (w.alloc (.cells #[.int .u32 0,.int .i32 0,.int .u32 0,.string ⟨#[]⟩,.string ⟨#[]⟩,.string ⟨#[]⟩,.string ⟨#[]⟩,.string ⟨#[]⟩] 194)) _;refine (of_any w.heap.size K false hK _ HL.out).mono ?_;rintro e w1 ⟨rfl,h1,hb⟩
  go_wp2
  go_ret
  exact⟨by rw [HP.out];rfl,B0.out.trans hb⟩
 ·have HP:=hid (show pfx K I=ltB K++bs (be 4 I) by unfold pfx;rw [if_neg h0];rfl);have e0:¬ (ltB K).size=0:=by
   unfold ltB;rw [bs_size];intro h;exact h0 (List.eq_nil_of_length_eq_zero h)
  obtain⟨e1,e2⟩:=emp_of (decide_eq_false e0);have e3:=emp_no e0;clear h0 e0
  go_enter Tryz.func82,Tryz.ntmps82
  go_wp2_with fail
  change Calls _ _ _ (w.alloc (.cells #[.int .u32 0,.int .i32 0,.int .u32 0,.string ⟨#[]⟩,.string ⟨#[]⟩,.string ⟨#[]⟩,.string ⟨#[]⟩,.string ⟨#[]⟩] 194)) _;refine (of_any w.heap.size K false hK _ HL.out).mono ?_;rintro e w1 ⟨rfl,h1,hb⟩;have B1:=hid (B0.out.trans hb);clear hb h1;have u:=HU.out
  go_wp2_with (go_at_call 83;refine (HN.out _).mono ?_;rintro e w' ⟨rfl,hb⟩)
  go_ret
  exact⟨by rw [HP.out];rfl,B1.out.trans (hb.mono B1.out.size)⟩
theorem cut_letter (s:ByteArray) (K:Nat) (h1:1≤K) (h2:K≤4) (w:World) :
  Calls Tryz.prog 41 #[.string s,.string (ltB K)] w fun e w'=>e=.returned (.tuple #[.string (if kd s=K then s.extract 1 s.size else s),.bool (decide (kd s=K))])∧w=w':=by
 refine (Tryz.strings_CutPrefix s (ltB K) w).mono ?_;rintro e w' ⟨rfl,rfl⟩;refine⟨?_,rfl⟩;have key:∀ (c:UInt8) (l:List UInt8),Lib.hasPrefix l [c]=(l.head?==some c):=by
  intro c l;cases l with
  | nil=>rfl
  | cons a l =>
   show ((c:UInt8)==a&&true)=(some a==some c)
   rw [Bool.and_true,Bool.eq_iff_iff,beq_iff_eq,beq_iff_eq];exact⟨fun h=>by rw [h],fun h=>by injection h with h;exact h.symm⟩
 obtain⟨c,hc,hkd⟩:∃ c:UInt8,ltB K=⟨#[c]⟩∧(kd s=K↔s.data.toList.head?=some c):=by
  have hk:∀ c:UInt8,(match s.data.toList with | a::_=>if a=105 then 1 else if a=100 then 2 else if a=99 then 3 else if a=120 then 4 else 0 | []=>0)=kd s:=fun _=>rfl
  rcases (show K=1∨K=2∨K=3∨K=4 by omega) with rfl | rfl | rfl | rfl
  ·refine⟨105,rfl,?_⟩;unfold kd;cases s.data.toList with
   | nil=>simp
   | cons a l =>
    simp only [List.head?_cons,Option.some.injEq];by_cases e1:a=105
    ·simp [e1]
    ·rw [if_neg e1];simp only [e1,iff_false]
     repeat' split
     all_goals omega
  ·refine⟨100,rfl,?_⟩;unfold kd;cases s.data.toList with
   | nil=>simp
   | cons a l =>
    simp only [List.head?_cons,Option.some.injEq];by_cases e1:a=100
    ·simp [e1]
    ·simp only [e1,if_false,iff_false]
     repeat' split
     all_goals omega
  ·refine⟨99,rfl,?_⟩;unfold kd;cases s.data.toList with
   | nil=>simp
   | cons a l =>
    simp only [List.head?_cons,Option.some.injEq];by_cases e1:a=99
    ·simp [e1]
    ·simp only [e1,if_false,iff_false]
     repeat' split
     all_goals omega
  ·refine⟨120,rfl,?_⟩;unfold kd;cases s.data.toList with
   | nil=>simp
   | cons a l =>
    simp only [List.head?_cons,Option.some.injEq];by_cases e1:a=120
    ·simp [e1]
    ·simp only [e1,if_false,iff_false]
     repeat' split
     all_goals omega
 rw [hc];have hp:Lib.hasPrefix s.data.toList [c]=decide (kd s=K):=by
  rw [key,Bool.eq_iff_iff,beq_iff_eq,decide_eq_true_iff];exact hkd.symm
 show Ending.returned (.tuple #[.string ⟨(Lib.trimPrefix s.data.toList [c]).toArray⟩,.bool (Lib.hasPrefix s.data.toList [c])])=_
 unfold Lib.trimPrefix;rw [hp];by_cases h:kd s=K
 ·rw [decide_eq_true h,if_pos rfl,if_pos h]
  congr 4
  congr 1
  apply ByteArray.ext;apply Array.toList_inj.1;rw [ByteArray.data_extract,Array.toList_extract,List.extract_eq_take_drop,List.take_of_length_le (by rw [List.length_drop,Array.length_toList];exact Nat.le_refl _)];rfl
 ·rw [decide_eq_false h,if_neg (by decide),if_neg h]
theorem take_in (s:ByteArray) (g:Nat) (b0:Bool) (w:World) (h0:LtAt w g b0) :
  Calls Tryz.prog 161 #[.pointer (some ⟨g,0,none⟩),.string s] w fun e w'=>e=.returned (.tuple #[.int .u8 (kd s),.string (rs s)])∧Below g w w':=by
 have hle:=kd_le s;have H0:=hid h0;clear h0
 go_enter Tryz.func161,Tryz.ntmps161
 go_wp2_with fail
 go_loopw [6] (fun v wr=>∃ (k:Nat) (b:Bool),1≤k∧k≤5∧v=.int .u8 k∧(kd s=0∨k≤kd s)∧Hid (LtAt wr g b)∧Hid (Below g w wr)) (fun v _=>5-(intOf v).toNat)
 case atStart=>exact⟨1,b0,Nat.le_refl _,by omega,by go_num,by omega,H0,hid (Below.refl _ _)⟩
 case round =>
  obtain⟨k,b,hk1,hk5,rfl,hkd,HL,HB⟩:=hrel;by_cases hlt:k<5
  ·have HC:=hid (cut_letter s k hk1 (by omega));have HO:=hid (of_any g k b (by omega) wr (Hid.out HL));clear HL;by_cases he:kd s=k
   ·have HR:=hid (show rs s=s.extract 1 s.size by unfold rs;rw [if_neg (by omega)]);have HE:=hid he;rw [if_pos he,decide_eq_true he] at HC;clear he hkd
    go_wp2_with (first|(go_at_call 123;refine HO.out.mono ?_;rintro e w1 ⟨rfl,h1,hb⟩)|(go_at_call 41;refine (HC.out _).mono ?_;rintro e w' ⟨rfl,rfl⟩))
    go_ret2
    exact⟨by rw [HR.out,HE.out];rfl,(Hid.out HB).trans hb⟩
   ·rw [if_neg he,decide_eq_false he] at HC;have hkd2:kd s=0∨k+1≤kd s:=by omega
    clear he hkd;have u:IntKind.u8.wrap ((k:Int)+1)=(k:Int)+1:=u8_id (n:=k+1) (by omega);have HU:=hid u;clear u
    go_wp2_with fail
    refine HO.out.mono ?_;rintro e w1 ⟨rfl,h1,hb⟩;have HL2:=hid h1;have HB2:=hid ((Hid.out HB).trans hb);clear h1 hb;have u:=HU.out
    go_wp2_with (go_at_call 41;refine (HC.out _).mono ?_;rintro e w' ⟨rfl,rfl⟩)
    refine⟨⟨k+1,true,by omega,by omega,by go_num,hkd2,HL2,HB2⟩,?_⟩;clear u;simp [intOf];omega
  ·have hz:kd s=0:=by omega
   have HZ:=hid hz;have HR:=hid (show rs s=s by unfold rs;rw [if_pos hz]);obtain rfl:k=5:=by omega
   clear hz hkd
   go_wp2
   go_ret2
   exact⟨by rw [HR.out,HZ.out];rfl,Hid.out HB⟩
theorem ltz {a b:Nat}{q:Bool}(h:decide (a<b)=q):decide ((a:Int)<(b:Int))=q:=by
 rw [← h];exact decide_eq_decide.2 (by omega)
theorem ltzC {a:Nat}{q:Bool}(h:decide (a<512)=q):decide ((a:Int)<512)=q:=ltz (b:=512) h
theorem rightKey_in (k:Ky) (hl:k.lim) (w:World) :
  Calls Tryz.prog 47 #[vK k] w fun e w'=>e=.returned (.bool (okK k))∧Below w.heap.size w w':=by
 obtain⟨K,I,N,C⟩:=k;obtain⟨l1,l2,l3⟩:=hl;dsimp only at l1 l2 l3;unfold vK;dsimp only;have HNm:=hid (fun w=>name_any N w (contains_any N));have hq:okK ⟨K,I,N,C⟩=(decide (1≤I)&&(if K=1 then decide (N.size=0)&&decide (C=0) else if K=2∨K=4 then nb N&&decide (C=0) else if K=3 then decide (N.size=0)&&decide (C<512) else false)):=rfl;cases i0:decide (I=0)
 ·have I0:=eqz0 i0;have i1:decide (1≤I)=true:=decide_eq_true (by have:=of_decide_eq_false i0;omega);rw [i1,Bool.true_and] at hq;clear i1 i0;cases k1:decide (K=1)
  ·have K1:=eqz1 k1;have k1':=of_decide_eq_false k1;rw [if_neg k1'] at hq;cases k2:decide (K=2)
   ·have K2:=eqz2 k2;have k2':=of_decide_eq_false k2;cases k4:decide (K=4)
    ·have K4:=eqz4 k4;have k4':=of_decide_eq_false k4;rw [if_neg (by omega)] at hq;cases k3:decide (K=3)
     ·have K3:=eqz3 k3;have k3':=of_decide_eq_false k3;rw [if_neg k3'] at hq;have HQ:=hid (show okK ⟨K,I,N,C⟩=false by rw [hq]);clear hq k1 k2 k3 k4 k1' k2' k3' k4'
      go_enter Tryz.func47,Tryz.ntmps47
      go_wp2
      go_ret
      exact⟨by rw [HQ.out];rfl,(Below.refl _ _).alloc (Nat.le_refl _) _⟩
     ·have K3:=eqz3 k3;have k3':=of_decide_eq_true k3;rw [if_pos k3'] at hq;clear k1 k2 k3 k4 k1' k2' k3' k4';cases a1:decide (N.size=0)
      ·obtain⟨A3,A4⟩:=emp_of a1;have A5:=emp_no (of_decide_eq_false a1);rw [a1] at hq;have HQ:=hid (show okK ⟨K,I,N,C⟩=false by rw [hq];rfl);clear hq a1
       go_enter Tryz.func47,Tryz.ntmps47
       go_wp2
       go_ret
       exact⟨by rw [HQ.out];rfl,(Below.refl _ _).alloc (Nat.le_refl _) _⟩
      ·obtain⟨A3,A4⟩:=emp_of a1;have A5:=emp_yes (of_decide_eq_true a1);rw [a1] at hq;cases a2:decide (C<512)
       ·have A2:=ltzC a2;rw [a2] at hq;have HQ:=hid (show okK ⟨K,I,N,C⟩=false by rw [hq];rfl);clear hq a1 a2
        go_enter Tryz.func47,Tryz.ntmps47
        go_wp2
        go_ret
        exact⟨by rw [HQ.out];rfl,(Below.refl _ _).alloc (Nat.le_refl _) _⟩
       ·have A2:=ltzC a2;rw [a2] at hq;have HQ:=hid (show okK ⟨K,I,N,C⟩=true by rw [hq];rfl);clear hq a1 a2
        go_enter Tryz.func47,Tryz.ntmps47
        go_wp2
        go_ret
        exact⟨by rw [HQ.out];rfl,(Below.refl _ _).alloc (Nat.le_refl _) _⟩
    ·have K4:=eqz4 k4;have k4':=of_decide_eq_true k4;rw [if_pos (by omega)] at hq;clear k1 k2 k4 k1' k2' k4';cases a1:nb N
     ·rw [a1] at hq HNm;have HQ:=hid (show okK ⟨K,I,N,C⟩=false by rw [hq];rfl);clear hq a1
      go_enter Tryz.func47,Tryz.ntmps47
      go_wp2_with (go_at_call 43;refine (HNm.out _).mono ?_;rintro e w' ⟨rfl,rfl⟩)
      go_ret
      exact⟨by rw [HQ.out];rfl,(Below.refl _ _).alloc (Nat.le_refl _) _⟩
     ·rw [a1] at hq HNm;cases a2:decide (C=0)
      ·have A2:=eqz0 a2;rw [a2] at hq;have HQ:=hid (show okK ⟨K,I,N,C⟩=false by rw [hq];rfl);clear hq a1 a2
       go_enter Tryz.func47,Tryz.ntmps47
       go_wp2_with (go_at_call 43;refine (HNm.out _).mono ?_;rintro e w' ⟨rfl,rfl⟩)
       go_ret
       exact⟨by rw [HQ.out];rfl,(Below.refl _ _).alloc (Nat.le_refl _) _⟩
      ·have A2:=eqz0 a2;rw [a2] at hq;have HQ:=hid (show okK ⟨K,I,N,C⟩=true by rw [hq];rfl);clear hq a1 a2
       go_enter Tryz.func47,Tryz.ntmps47
       go_wp2_with (go_at_call 43;refine (HNm.out _).mono ?_;rintro e w' ⟨rfl,rfl⟩)
       go_ret
       exact⟨by rw [HQ.out];rfl,(Below.refl _ _).alloc (Nat.le_refl _) _⟩
   ·have K2:=eqz2 k2;have k2':=of_decide_eq_true k2;rw [if_pos (by omega)] at hq;clear k1 k2 k1' k2';cases a1:nb N
    ·rw [a1] at hq HNm;have HQ:=hid (show okK ⟨K,I,N,C⟩=false by rw [hq];rfl);clear hq a1
     go_enter Tryz.func47,Tryz.ntmps47
     go_wp2_with (go_at_call 43;refine (HNm.out _).mono ?_;rintro e w' ⟨rfl,rfl⟩)
     go_ret
     exact⟨by rw [HQ.out];rfl,(Below.refl _ _).alloc (Nat.le_refl _) _⟩
    ·rw [a1] at hq HNm;cases a2:decide (C=0)
     ·have A2:=eqz0 a2;rw [a2] at hq;have HQ:=hid (show okK ⟨K,I,N,C⟩=false by rw [hq];rfl);clear hq a1 a2
      go_enter Tryz.func47,Tryz.ntmps47
      go_wp2_with (go_at_call 43;refine (HNm.out _).mono ?_;rintro e w' ⟨rfl,rfl⟩)
      go_ret
      exact⟨by rw [HQ.out];rfl,(Below.refl _ _).alloc (Nat.le_refl _) _⟩
     ·have A2:=eqz0 a2;rw [a2] at hq;have HQ:=hid (show okK ⟨K,I,N,C⟩=true by rw [hq];rfl);clear hq a1 a2
      go_enter Tryz.func47,Tryz.ntmps47
      go_wp2_with (go_at_call 43;refine (HNm.out _).mono ?_;rintro e w' ⟨rfl,rfl⟩)
      go_ret
      exact⟨by rw [HQ.out];rfl,(Below.refl _ _).alloc (Nat.le_refl _) _⟩
  ·have K1:=eqz1 k1;have k1':=of_decide_eq_true k1;rw [if_pos k1'] at hq;clear k1 k1';cases a1:decide (N.size=0)
   ·obtain⟨A3,A4⟩:=emp_of a1;have A5:=emp_no (of_decide_eq_false a1);rw [a1] at hq;have HQ:=hid (show okK ⟨K,I,N,C⟩=false by rw [hq];rfl);clear hq a1
    go_enter Tryz.func47,Tryz.ntmps47
    go_wp2
    go_ret
    exact⟨by rw [HQ.out];rfl,(Below.refl _ _).alloc (Nat.le_refl _) _⟩
   ·obtain⟨A3,A4⟩:=emp_of a1;have A5:=emp_yes (of_decide_eq_true a1);rw [a1] at hq;cases a2:decide (C=0)
    ·have A2:=eqz0 a2;rw [a2] at hq;have HQ:=hid (show okK ⟨K,I,N,C⟩=false by rw [hq];rfl);clear hq a1 a2
     go_enter Tryz.func47,Tryz.ntmps47
     go_wp2
     go_ret
     exact⟨by rw [HQ.out];rfl,(Below.refl _ _).alloc (Nat.le_refl _) _⟩
    ·have A2:=eqz0 a2;rw [a2] at hq;have HQ:=hid (show okK ⟨K,I,N,C⟩=true by rw [hq];rfl);clear hq a1 a2
     go_enter Tryz.func47,Tryz.ntmps47
     go_wp2
     go_ret
     exact⟨by rw [HQ.out];rfl,(Below.refl _ _).alloc (Nat.le_refl _) _⟩
 ·have I0:=eqz0 i0;have i1:decide (1≤I)=false:=decide_eq_false (by have:=of_decide_eq_true i0;omega);rw [i1,Bool.false_and] at hq;clear i1 i0;have HQ:=hid (show okK ⟨K,I,N,C⟩=false by rw [hq]);clear hq
  go_enter Tryz.func47,Tryz.ntmps47
  go_wp2
  go_ret
  exact⟨by rw [HQ.out];rfl,(Below.refl _ _).alloc (Nat.le_refl _) _⟩
theorem pfx_size (K I:Nat):(pfx K I).size≤5:=by
 unfold pfx;split
 ·exact Nat.zero_le _
 ·rw [ByteArray.size_append,bs_size,bs_size,be_length];have:=@ltB_size K;unfold ltB at this;rw [bs_size] at this;omega
theorem writtenKey_in (k:Ky) (hl:k.lim) (ht:k.N.size≤65535) (w:World) :
  Calls Tryz.prog 48 #[vK k] w fun e w'=>e=.returned (.string (wrK k))∧Below w.heap.size w w':=by
 obtain⟨K,I,N,C⟩:=k;obtain⟨l1,l2,l3⟩:=hl;dsimp only at l1 l2 l3 ht;unfold vK;dsimp only;have C0:=box_cell w #[.int .u8 K,.int .u32 I,.string N,.int .u32 C] 99 0 rfl;have C1:=box_cell w #[.int .u8 K,.int .u32 I,.string N,.int .u32 C] 99 1 rfl;have C2:=box_cell w #[.int .u8 K,.int .u32 I,.string N,.int .u32 C] 99 2 rfl;have C3:=box_cell w #[.int .u8 K,.int .u32 I,.string N,.int .u32 C] 99 3 rfl;have B0:=hid ((Below.refl w.heap.size w).alloc (Nat.le_refl _) (.cells #[.int .u8 K,.int .u32 I,.string N,.int .u32 C] 99));have hsz:w.heap.size<(w.alloc (.cells #[.int .u8 K,.int .u32 I,.string N,.int .u32 C] 99)).heap.size:=by simp
 have HP:=hid (fun w=>prefix_in K I l1 l2 w);have HN:=hid (fun w=>number_in C 4 w (by omega) (by omega) (by omega) (by omega));have HU:=hid (u64_id (n:=C) (by omega));have pz:=pfx_size K I;have cz:(bs (be 4 C)).size=4:=by rw [bs_size,be_length]
 go_enter Tryz.func48,Tryz.ntmps48
 go_wp2_with fail
 obtain⟨b0,hb0⟩:∃ b,w.heap.size=b:=⟨_,rfl⟩;have HB0:=hid hb0;rw [hb0] at C0 C1 C2 C3 B0 hsz ⊢;clear hb0;obtain⟨W,hW⟩:∃ W,w.alloc (.cells #[.int .u8 K,.int .u32 I,.string N,.int .u32 C] 99)=W:=⟨_,rfl⟩;rw [hW] at C0 C1 C2 C3 B0 hsz;change Code.wp _ _ _ _ (w.alloc (.cells #[.int .u8 K,.int .u32 I,.string N,.int .u32 C] 99));rw [hW];clear hW;obtain⟨P,hP⟩:∃ P,pfx K I=P:=⟨_,rfl⟩;rw [hP] at HP pz;have HPP:=hid hP;clear hP;have hbl:=hsz;refine wp_region_G (fun w'=>Below W.heap.size W w') (by kernel_rfl) (by kernel_rfl) (Below.refl _ _).drew ?_;refine wpG_val (.pointer (some ⟨b0,0,none⟩)) rfl (by rfl) (fun w' hSw=>by go_simp) ?_;simp only [Gb2a,Gb2b,Gb2c];refine wpG_val (.int .u8 K) rfl (by rfl) (fun w' hSw=>by have c:=(Below.cell hSw (p:=⟨b0,0,none⟩) hbl).trans C0;go_simp) ?_;simp only [Gb2a,Gb2b,Gb2c];refine wpG_val (.pointer (some ⟨b0,1,none⟩)) rfl (by rfl) (fun w' hSw=>by go_simp) ?_;simp only [Gb2a,Gb2b,Gb2c];refine wpG_val (.int .u32 I) rfl (by rfl) (fun w' hSw=>by have c:=(Below.cell hSw (p:=⟨b0,1,none⟩) hbl).trans C1;go_simp) ?_;simp only [Gb2a,Gb2b,Gb2c];refine wpG_call (.string P) 82 #[.int .u8 K,.int .u32 I] rfl (by rfl) (fun w'=>by go_simp) (fun w' hSw=>(HP.out w').mono fun e w2 h=>⟨h.1,hSw.trans (h.2.mono hSw.size)⟩) ?_;simp only [Gb2a,Gb2b,Gb2c];refine wpG_val (.pointer (some ⟨b0,2,none⟩)) rfl (by rfl) (fun w' hSw=>by go_simp) ?_;simp only [Gb2a,Gb2b,Gb2c];refine wpG_val (.string N) rfl (by rfl) (fun w' hSw=>by have c:=(Below.cell hSw (p:=⟨b0,2,none⟩) hbl).trans C2;go_simp) ?_;simp only [Gb2a,Gb2b,Gb2c];refine wpG_val (.string (P++N)) rfl (by rfl) (fun w' hSw=>by go_simp<;>omega) ?_;simp only [Gb2a,Gb2b,Gb2c];refine wpG_val (.string (P++N)) rfl (by rfl) (fun w' hSw=>by go_simp) ?_;simp only [Gb2a,Gb2b,Gb2c];refine wpG_nil ?_;intro w1 hSw;have D0:=(Below.cell hSw (p:=⟨b0,0,none⟩) hbl).trans C0;have D3:=(Below.cell hSw (p:=⟨b0,3,none⟩) hbl).trans C3;have B1:=hid (B0.out.trans (hSw.mono (Nat.le_of_lt hbl)));have hbl1:b0<w1.heap.size:=Nat.lt_of_lt_of_le hbl hSw.size;clear C0 C1 C2 C3 hSw B0 HP;cases k3:decide (K=3)
 ·have K3:=eqz3 k3;have HW:=hid (show wrK ⟨K,I,N,C⟩=P++N by unfold wrK;dsimp only;rw [if_neg (of_decide_eq_false k3),HPP.out]);clear k3
  go_wp2
  go_ret
  exact⟨by rw [HW.out];rfl,by rw [HB0.out];exact B1.out⟩
 ·have K3:=eqz3 k3;have HW:=hid (show wrK ⟨K,I,N,C⟩=P++N++bs (be 4 C) by unfold wrK;dsimp only;rw [if_pos (of_decide_eq_true k3),HPP.out]);clear k3;have u:=HU.out
  go_wp2_with (go_at_call 83;refine (HN.out _).mono ?_;rintro e w' ⟨rfl,hb⟩)
  go_ret
  exact⟨by rw [HW.out];rfl,by rw [HB0.out];exact B1.out.trans (hb.mono (Nat.le_of_lt hbl1))⟩
def enK (k:Ky):ByteArray:=if okK k then wrK k else ByteArray.empty
def chK (k:Ky):Int:=if okK k then 0 else 4
theorem chK_yes {k:Ky}(h:okK k=true):chK k=0∧enK k=wrK k:=by unfold chK enK;rw [h];exact⟨rfl,rfl⟩
theorem chK_no {k:Ky}(h:okK k=false):chK k=4∧enK k=ByteArray.empty:=by unfold chK enK;rw [h];exact⟨rfl,rfl⟩
theorem okK_size {k:Ky}(h:okK k=true):k.N.size≤24:=by
 rcases (okK_iff.1 h).2 with h | h | h
 ·omega
 ·exact (nb_size h.2.1).2
 ·omega
theorem key_in (k:Ky) (hl:k.lim) (w:World) :
  Calls Tryz.prog 30 #[vK k] w fun e w'=>e=.returned (.tuple #[.string (enK k),.int .i64 (chK k)])∧Below w.heap.size w w':=by
 obtain⟨K,I,N,C⟩:=k;have HC:=hid (rightKey_in ⟨K,I,N,C⟩ hl);have HW:=hid (fun ht w=>writtenKey_in ⟨K,I,N,C⟩ hl ht w);have C0:=box_cell w #[.int .u8 K,.int .u32 I,.string N,.int .u32 C] 99 0 rfl;have C1:=box_cell w #[.int .u8 K,.int .u32 I,.string N,.int .u32 C] 99 1 rfl;have C2:=box_cell w #[.int .u8 K,.int .u32 I,.string N,.int .u32 C] 99 2 rfl;have C3:=box_cell w #[.int .u8 K,.int .u32 I,.string N,.int .u32 C] 99 3 rfl;have B0:=hid ((Below.refl w.heap.size w).alloc (Nat.le_refl _) (.cells #[.int .u8 K,.int .u32 I,.string N,.int .u32 C] 99));have hsz:w.heap.size<(w.alloc (.cells #[.int .u8 K,.int .u32 I,.string N,.int .u32 C] 99)).heap.size:=by simp
 unfold vK;dsimp only;cases hq:okK ⟨K,I,N,C⟩
 ·have HQ:=hid (chK_no hq);rw [hq] at HC;clear hq HW
  go_enter Tryz.func30,Tryz.ntmps30
  go_wp2_with fail
  change Calls _ _ _ (w.alloc (.cells #[.int .u8 K,.int .u32 I,.string N,.int .u32 C] 99)) _;generalize w.alloc (.cells #[.int .u8 K,.int .u32 I,.string N,.int .u32 C] 99)=W at *;refine (HC.out W).mono ?_;rintro e w1 ⟨rfl,hb⟩;have B1:=hid (B0.out.trans (hb.mono B0.out.size));clear C0 C1 C2 C3 hb B0 HC
  go_wp2
  go_ret2
  exact⟨by rw [HQ.out.1,HQ.out.2];rfl,B1.out⟩
 ·have HQ:=hid (chK_yes hq);have HW2:=hid (HW.out (by have:=okK_size hq;dsimp only at this ⊢;omega));rw [hq] at HC;clear hq HW
  go_enter Tryz.func30,Tryz.ntmps30
  go_wp2_with fail
  change Calls _ _ _ (w.alloc (.cells #[.int .u8 K,.int .u32 I,.string N,.int .u32 C] 99)) _;generalize w.alloc (.cells #[.int .u8 K,.int .u32 I,.string N,.int .u32 C] 99)=W at *;refine (HC.out W).mono ?_;rintro e w1 ⟨rfl,hb⟩;have D0:=(Below.cell hb (p:=⟨w.heap.size,0,none⟩) hsz).trans C0;have D1:=(Below.cell hb (p:=⟨w.heap.size,1,none⟩) hsz).trans C1;have D2:=(Below.cell hb (p:=⟨w.heap.size,2,none⟩) hsz).trans C2;have D3:=(Below.cell hb (p:=⟨w.heap.size,3,none⟩) hsz).trans C3;have B1:=hid (B0.out.trans (hb.mono B0.out.size));clear C0 C1 C2 C3 hb B0 HC
  go_wp2_with (go_at_call 48;refine (HW2.out _).mono ?_;rintro e w' ⟨rfl,hb⟩)
  go_ret2
  exact⟨by rw [HQ.out.1,HQ.out.2];rfl,B1.out.trans (hb.mono B1.out.size)⟩
theorem row4 (K I C:Int) (N:ByteArray):(#[.int .u8 K,.int .u32 I,.string N,.int .u32 C]:Array Value).all (·.oneCell')=true:=by simp [Value.oneCell']
theorem set_far {w:World}{g:Nat}{o:Obj}(h:w.heap[g]?=some o){a:Addr}(ha:g≠a.block) (v:Value):(w.setCell a v).heap[g]?=some o:=(Below.heap_setCell w a v g ha).trans h
theorem takenKey_in (s:ByteArray) (hs:s.size≤maxLen) (w:World) :
  Calls Tryz.prog 130 #[.string s] w fun e w'=>e=.returned (vK (tkK s))∧Below w.heap.size w w':=by
 have hlim:=tkK_lim s;obtain⟨K,hK⟩:∃ K,kd s=K:=⟨_,rfl⟩;obtain⟨r0,hr0⟩:∃ r,rs s=r:=⟨_,rfl⟩;obtain⟨I,hI⟩:∃ K,(tN r0 ((4:Nat):Int)).toNat=K:=⟨_,rfl⟩;obtain⟨r1,hr1⟩:∃ r,tR r0 ((4:Nat):Int)=r:=⟨_,rfl⟩;obtain⟨C,hC⟩:∃ K,(tN r1 ((4:Nat):Int)).toNat=K:=⟨_,rfl⟩;obtain⟨r2,hr2⟩:∃ r,tR r1 ((4:Nat):Int)=r:=⟨_,rfl⟩;have hn:tkK s=⟨K,I,if K=2∨K=4 then r1 else ByteArray.empty,if K=3 then C else 0⟩:=by subst hK hr0 hI hr1 hC hr2;rfl
 have z0:r0.size≤maxLen:=by
  rw [← hr0];unfold rs;split
  ·exact hs
  ·rw [ByteArray.size_extract];omega
 have z1:r1.size≤maxLen:=by rw [← hr1];exact Nat.le_trans (tR_le _ _) z0
 have hC4:C<4294967296:=by have:=tN4 r1;rw [← hC];have h2:(tN r1 ((4:Nat):Int))=tN r1 4:=rfl;omega
 have CT:=hid (fun g b w h=>take_in s g b w h);rw [hK,hr0] at CT;have C1:=hid (takeNat r0 4 I r1 z0 (by omega) hI hr1);have C2:=hid (takeNat r1 4 C r2 z1 (by omega) hC hr2);rw [hn] at hlim ⊢;obtain⟨l1,l2,l3⟩:=hlim;dsimp only at l1 l2 l3;have U1:=hid (u32_id l2);have U2:=hid (u32_id hC4);clear hn hK hr0 hI hr1 hC hr2 z0 z1 l1 l2 l3 hs hC4;have R0:=hid (heap_alloc_new w (.cells #[.int .u8 0,.int .u32 0,.string ⟨#[]⟩,.int .u32 0] 99));have B0:=hid ((Below.refl w.heap.size w).alloc (Nat.le_refl _) (.cells #[.int .u8 0,.int .u32 0,.string ⟨#[]⟩,.int .u32 0] 99));have hsz:(w.alloc (.cells #[.int .u8 0,.int .u32 0,.string ⟨#[]⟩,.int .u32 0] 99)).heap.size=w.heap.size+1:=by simp
 have HZ:=hid hsz;clear hsz;obtain⟨X,hX⟩:∃ X,(if K=2∨K=4 then r1 else ByteArray.empty)=X:=⟨_,rfl⟩;obtain⟨Y,hY⟩:∃ Y,(if K=3 then C else 0)=Y:=⟨_,rfl⟩;have HX:=hid hX;have HY:=hid hY;rw [hX,hY];clear hX hY;unfold vK;dsimp only
 go_enter Tryz.func130,Tryz.ntmps130
 go_wp2_with fail
 change Calls _ _ _ ((w.alloc (.cells #[.int .u8 0,.int .u32 0,.string ⟨#[]⟩,.int .u32 0] 99)).alloc (.cells #[.int .u32 0,.int .i32 0,.int .u32 0,.string ⟨#[]⟩,.string ⟨#[]⟩,.string ⟨#[]⟩,.string ⟨#[]⟩,.string ⟨#[]⟩] 194)) _;generalize w.alloc (.cells #[.int .u8 0,.int .u32 0,.string ⟨#[]⟩,.int .u32 0] 99)=W at *;have HL:=hid (new_letters W);rw [HZ.out] at HL;have B1:=hid ((Below.refl W.heap.size W).alloc (Nat.le_refl _) (.cells #[.int .u32 0,.int .i32 0,.int .u32 0,.string ⟨#[]⟩,.string ⟨#[]⟩,.string ⟨#[]⟩,.string ⟨#[]⟩,.string ⟨#[]⟩] 194));refine (CT.out (w.heap.size+1) false _ HL.out).mono ?_;rintro e w1 ⟨rfl,hb⟩;have hb':Below W.heap.size W w1:=B1.out.trans (by rw [HZ.out];exact hb);have R1:=hid (row_bel R0.out hb' (by rw [HZ.out];omega));have B2:=hid (B0.out.trans (hb'.mono (by rw [HZ.out];omega)));have hsz:w.heap.size<w1.heap.size:=by have h1:=hb'.size;have h2:=HZ.out;omega
 clear hb hb' B1 B0 R0 HL HZ CT
 go_wp2_with fail
 refine (C1.out _).mono ?_;rintro e w2 ⟨rfl,hb⟩;have R2:=hid (row_bel R1.out hb hsz);have B3:=hid (B2.out.trans (hb.mono B2.out.size));replace hsz:=Nat.lt_of_lt_of_le hsz hb.size;clear hb R1 B2 C1;have N1:=hid (new_row2 (old:=#[.int .u8 0,.int .u32 0,.string ⟨#[]⟩,.int .u32 0]) (cs:=#[.int .u8 K,.int .u32 I,.string ⟨#[]⟩,.int .u32 0]) (t:=99) R2.out);have u1:=U1.out;have fin:Hid (∀ (V:World),V.heap[w.heap.size]?=some (.cells #[.int .u8 0,.int .u32 0,.string ⟨#[]⟩,.int .u32 0] 99 (0,0))→∀ cs,(V.setRow w.heap.size cs).heap[w.heap.size]?=some (.cells cs 99 (0,0))):=hid (fun V h cs=>setRow_heap' h);cases k3:decide (K=3)
 ·have K3:=eqz3 k3;have k3':=of_decide_eq_false k3;cases k24:decide (K=2∨K=4)
  ·have k24':=of_decide_eq_false k24;have K2:=eqz2 (a:=K) (q:=false) (by rw [decide_eq_false (by omega)]);have K4:=eqz4 (a:=K) (q:=false) (by rw [decide_eq_false (by omega)]);have HX1:=hid (show X=ByteArray.empty by rw [← HX.out,if_neg k24']);have HY1:=hid (show Y=0 by rw [← HY.out,if_neg k3']);clear k3 k3' k24 k24'
   go_wp2_with (first|(refine wpList_store_row rfl 99 (.tmp 7) (.tmp 23) rfl w2.heap.size #[.int .u8 K,.int .u32 I,.string ⟨#[]⟩,.int .u32 0] rfl rfl 99 #[.int .u8 0,.int .u32 0,.string ⟨#[]⟩,.int .u32 0] (heap_alloc_new w2 _) (by kernel_rfl) rfl (row4 _ _ _ _) ?_;change wpList _ _ _ _ _ ((w2.alloc (.cells #[.int .u8 0,.int .u32 0,.string ⟨#[]⟩,.int .u32 0] 99)).setRow w2.heap.size #[.int .u8 K,.int .u32 I,.string ⟨#[]⟩,.int .u32 0]);generalize ((w2.alloc (.cells #[.int .u8 0,.int .u32 0,.string ⟨#[]⟩,.int .u32 0] 99)).setRow w2.heap.size #[.int .u8 K,.int .u32 I,.string ⟨#[]⟩,.int .u32 0])=W3 at *;have c0:W3.cell? ⟨w2.heap.size,0,none⟩=some (.int .u8 K):=(cell_of_row W3 w2.heap.size 0 #[.int .u8 K,.int .u32 I,.string ⟨#[]⟩,.int .u32 0] 99 (0,0) N1.out.2.1).trans rfl;have f0:W3.frozen? ⟨w2.heap.size,0,none⟩=false:=frozen_of_row W3 w2.heap.size 0 #[.int .u8 K,.int .u32 I,.string ⟨#[]⟩,.int .u32 0] 99 N1.out.2.1;have c1:W3.cell? ⟨w2.heap.size,1,none⟩=some (.int .u32 I):=(cell_of_row W3 w2.heap.size 1 #[.int .u8 K,.int .u32 I,.string ⟨#[]⟩,.int .u32 0] 99 (0,0) N1.out.2.1).trans rfl;have f1:W3.frozen? ⟨w2.heap.size,1,none⟩=false:=frozen_of_row W3 w2.heap.size 1 #[.int .u8 K,.int .u32 I,.string ⟨#[]⟩,.int .u32 0] 99 N1.out.2.1;have c2:W3.cell? ⟨w2.heap.size,2,none⟩=some (.string ⟨#[]⟩):=(cell_of_row W3 w2.heap.size 2 #[.int .u8 K,.int .u32 I,.string ⟨#[]⟩,.int .u32 0] 99 (0,0) N1.out.2.1).trans rfl;have f2:W3.frozen? ⟨w2.heap.size,2,none⟩=false:=frozen_of_row W3 w2.heap.size 2 #[.int .u8 K,.int .u32 I,.string ⟨#[]⟩,.int .u32 0] 99 N1.out.2.1;have c3:W3.cell? ⟨w2.heap.size,3,none⟩=some (.int .u32 0):=(cell_of_row W3 w2.heap.size 3 #[.int .u8 K,.int .u32 I,.string ⟨#[]⟩,.int .u32 0] 99 (0,0) N1.out.2.1).trans rfl;have f3:W3.frozen? ⟨w2.heap.size,3,none⟩=false:=frozen_of_row W3 w2.heap.size 3 #[.int .u8 K,.int .u32 I,.string ⟨#[]⟩,.int .u32 0] 99 N1.out.2.1)|(refine wpList_load_row rfl 99 (.tmp 7) rfl w2.heap.size rfl 99 #[.int .u8 K,.int .u32 I,.string ⟨#[]⟩,.int .u32 0] (0,0) _ N1.out.2.1 Tryz.underlying99 rfl (by kernel_rfl) ?_)|(refine wpList_store_row rfl 99 (.tmp 2) (.tmp 40) rfl w.heap.size #[.int .u8 K,.int .u32 I,.string ⟨#[]⟩,.int .u32 0] rfl rfl 99 #[.int .u8 0,.int .u32 0,.string ⟨#[]⟩,.int .u32 0] N1.out.1 (by kernel_rfl) rfl (row4 _ _ _ _) ?_))
   refine bodyPost_ret (v:=.agg #[.int .u8 K,.int .u32 I,.string ⟨#[]⟩,.int .u32 0]) (results_cell_row rfl _ _ w.heap.size 99 #[.int .u8 K,.int .u32 I,.string ⟨#[]⟩,.int .u32 0] (0,0) _ rfl (fin.out _ N1.out.1 _) Tryz.underlying99 rfl (by kernel_rfl)) rfl ?_;exact⟨by rw [HX1.out,HY1.out];rfl,below_setRow (B3.out.trans (N1.out.2.2.1.mono B3.out.size)) (Nat.le_refl _) _⟩
  ·have k24':=of_decide_eq_true k24;have HX1:=hid (show X=r1 by rw [← HX.out,if_pos k24']);have HY1:=hid (show Y=0 by rw [← HY.out,if_neg k3']);have KQ:(((K:Int)==2)=true)∨(((K:Int)==2)=false∧((K:Int)==4)=true):=by
    rcases k24' with h | h
    ·exact .inl (eqz2 (decide_eq_true h))
    ·exact .inr ⟨eqz2 (decide_eq_false (by omega)),eqz4 (decide_eq_true h)⟩
   clear k3 k3' k24 k24';have hne:w.heap.size≠w2.heap.size:=Nat.ne_of_lt hsz;rcases KQ with K2 | ⟨K2,K4⟩
   all_goals
    go_wp2_with (first|(refine wpList_store_row rfl 99 (.tmp 7) (.tmp 23) rfl w2.heap.size #[.int .u8 K,.int .u32 I,.string ⟨#[]⟩,.int .u32 0] rfl rfl 99 #[.int .u8 0,.int .u32 0,.string ⟨#[]⟩,.int .u32 0] (heap_alloc_new w2 _) (by kernel_rfl) rfl (row4 _ _ _ _) ?_;change wpList _ _ _ _ _ ((w2.alloc (.cells #[.int .u8 0,.int .u32 0,.string ⟨#[]⟩,.int .u32 0] 99)).setRow w2.heap.size #[.int .u8 K,.int .u32 I,.string ⟨#[]⟩,.int .u32 0]);generalize ((w2.alloc (.cells #[.int .u8 0,.int .u32 0,.string ⟨#[]⟩,.int .u32 0] 99)).setRow w2.heap.size #[.int .u8 K,.int .u32 I,.string ⟨#[]⟩,.int .u32 0])=W3 at *;have c0:W3.cell? ⟨w2.heap.size,0,none⟩=some (.int .u8 K):=(cell_of_row W3 w2.heap.size 0 #[.int .u8 K,.int .u32 I,.string ⟨#[]⟩,.int .u32 0] 99 (0,0) N1.out.2.1).trans rfl;have f0:W3.frozen? ⟨w2.heap.size,0,none⟩=false:=frozen_of_row W3 w2.heap.size 0 #[.int .u8 K,.int .u32 I,.string ⟨#[]⟩,.int .u32 0] 99 N1.out.2.1;have c1:W3.cell? ⟨w2.heap.size,1,none⟩=some (.int .u32 I):=(cell_of_row W3 w2.heap.size 1 #[.int .u8 K,.int .u32 I,.string ⟨#[]⟩,.int .u32 0] 99 (0,0) N1.out.2.1).trans rfl;have f1:W3.frozen? ⟨w2.heap.size,1,none⟩=false:=frozen_of_row W3 w2.heap.size 1 #[.int .u8 K,.int .u32 I,.string ⟨#[]⟩,.int .u32 0] 99 N1.out.2.1;have c2:W3.cell? ⟨w2.heap.size,2,none⟩=some (.string ⟨#[]⟩):=(cell_of_row W3 w2.heap.size 2 #[.int .u8 K,.int .u32 I,.string ⟨#[]⟩,.int .u32 0] 99 (0,0) N1.out.2.1).trans rfl;have f2:W3.frozen? ⟨w2.heap.size,2,none⟩=false:=frozen_of_row W3 w2.heap.size 2 #[.int .u8 K,.int .u32 I,.string ⟨#[]⟩,.int .u32 0] 99 N1.out.2.1;have c3:W3.cell? ⟨w2.heap.size,3,none⟩=some (.int .u32 0):=(cell_of_row W3 w2.heap.size 3 #[.int .u8 K,.int .u32 I,.string ⟨#[]⟩,.int .u32 0] 99 (0,0) N1.out.2.1).trans rfl;have f3:W3.frozen? ⟨w2.heap.size,3,none⟩=false:=frozen_of_row W3 w2.heap.size 3 #[.int .u8 K,.int .u32 I,.string ⟨#[]⟩,.int .u32 0] 99 N1.out.2.1)|(refine wpList_store_row rfl 99 (.tmp 2) (.tmp 40) rfl w.heap.size #[.int .u8 K,.int .u32 I,.string r1,.int .u32 0] rfl rfl 99 #[.int .u8 0,.int .u32 0,.string ⟨#[]⟩,.int .u32 0] (set_far N1.out.1 (a:=⟨w2.heap.size,2,none⟩) hne _) (by kernel_rfl) rfl (row4 _ _ _ _) ?_))
    refine bodyPost_ret (v:=.agg #[.int .u8 K,.int .u32 I,.string r1,.int .u32 0]) (results_cell_row rfl _ _ w.heap.size 99 #[.int .u8 K,.int .u32 I,.string r1,.int .u32 0] (0,0) _ rfl (fin.out _ (set_far N1.out.1 (a:=⟨w2.heap.size,2,none⟩) hne _) _) Tryz.underlying99 rfl (by kernel_rfl)) rfl ?_;exact⟨by rw [HX1.out,HY1.out];rfl,below_setRow ((B3.out.trans (N1.out.2.2.1.mono B3.out.size)).setCell (Nat.le_of_lt hsz) _) (Nat.le_refl _) _⟩
 ·have K3:=eqz3 k3;have k3':=of_decide_eq_true k3;have K2:=eqz2 (a:=K) (q:=false) (by rw [decide_eq_false (by omega)]);have K4:=eqz4 (a:=K) (q:=false) (by rw [decide_eq_false (by omega)]);have HX1:=hid (show X=ByteArray.empty by rw [← HX.out,if_neg (by omega)]);have HY1:=hid (show Y=C by rw [← HY.out,if_pos k3']);have hne:w.heap.size≠w2.heap.size:=Nat.ne_of_lt hsz;clear k3 k3'
  go_wp2_with (refine wpList_store_row rfl 99 (.tmp 7) (.tmp 23) rfl w2.heap.size #[.int .u8 K,.int .u32 I,.string ⟨#[]⟩,.int .u32 0] rfl rfl 99 #[.int .u8 0,.int .u32 0,.string ⟨#[]⟩,.int .u32 0] (heap_alloc_new w2 _) (by kernel_rfl) rfl (row4 _ _ _ _) ?_;change wpList _ _ _ _ _ ((w2.alloc (.cells #[.int .u8 0,.int .u32 0,.string ⟨#[]⟩,.int .u32 0] 99)).setRow w2.heap.size #[.int .u8 K,.int .u32 I,.string ⟨#[]⟩,.int .u32 0]);generalize ((w2.alloc (.cells #[.int .u8 0,.int .u32 0,.string ⟨#[]⟩,.int .u32 0] 99)).setRow w2.heap.size #[.int .u8 K,.int .u32 I,.string ⟨#[]⟩,.int .u32 0])=W3 at *;have c0:W3.cell? ⟨w2.heap.size,0,none⟩=some (.int .u8 K):=(cell_of_row W3 w2.heap.size 0 #[.int .u8 K,.int .u32 I,.string ⟨#[]⟩,.int .u32 0] 99 (0,0) N1.out.2.1).trans rfl;have f0:W3.frozen? ⟨w2.heap.size,0,none⟩=false:=frozen_of_row W3 w2.heap.size 0 #[.int .u8 K,.int .u32 I,.string ⟨#[]⟩,.int .u32 0] 99 N1.out.2.1;have c1:W3.cell? ⟨w2.heap.size,1,none⟩=some (.int .u32 I):=(cell_of_row W3 w2.heap.size 1 #[.int .u8 K,.int .u32 I,.string ⟨#[]⟩,.int .u32 0] 99 (0,0) N1.out.2.1).trans rfl;have f1:W3.frozen? ⟨w2.heap.size,1,none⟩=false:=frozen_of_row W3 w2.heap.size 1 #[.int .u8 K,.int .u32 I,.string ⟨#[]⟩,.int .u32 0] 99 N1.out.2.1;have c2:W3.cell? ⟨w2.heap.size,2,none⟩=some (.string ⟨#[]⟩):=(cell_of_row W3 w2.heap.size 2 #[.int .u8 K,.int .u32 I,.string ⟨#[]⟩,.int .u32 0] 99 (0,0) N1.out.2.1).trans rfl;have f2:W3.frozen? ⟨w2.heap.size,2,none⟩=false:=frozen_of_row W3 w2.heap.size 2 #[.int .u8 K,.int .u32 I,.string ⟨#[]⟩,.int .u32 0] 99 N1.out.2.1;have c3:W3.cell? ⟨w2.heap.size,3,none⟩=some (.int .u32 0):=(cell_of_row W3 w2.heap.size 3 #[.int .u8 K,.int .u32 I,.string ⟨#[]⟩,.int .u32 0] 99 (0,0) N1.out.2.1).trans rfl;have f3:W3.frozen? ⟨w2.heap.size,3,none⟩=false:=frozen_of_row W3 w2.heap.size 3 #[.int .u8 K,.int .u32 I,.string ⟨#[]⟩,.int .u32 0] 99 N1.out.2.1)
  refine (C2.out _).mono ?_;rintro e w4 ⟨rfl,hb⟩;have R4:=hid (row_bel N1.out.1 hb (by have h1:=N1.out.2.2.2;omega));have Rn:=hid (row_bel N1.out.2.1 hb N1.out.2.2.2);have B4:=hid (B3.out.trans ((N1.out.2.2.1.trans (hb.mono N1.out.2.2.1.size)).mono B3.out.size));have d0:w4.cell? ⟨w2.heap.size,0,none⟩=some (.int .u8 K):=(cell_of_row w4 w2.heap.size 0 #[.int .u8 K,.int .u32 I,.string ⟨#[]⟩,.int .u32 0] 99 (0,0) Rn.out).trans rfl;have g0:w4.frozen? ⟨w2.heap.size,0,none⟩=false:=frozen_of_row w4 w2.heap.size 0 #[.int .u8 K,.int .u32 I,.string ⟨#[]⟩,.int .u32 0] 99 Rn.out;have d1:w4.cell? ⟨w2.heap.size,1,none⟩=some (.int .u32 I):=(cell_of_row w4 w2.heap.size 1 #[.int .u8 K,.int .u32 I,.string ⟨#[]⟩,.int .u32 0] 99 (0,0) Rn.out).trans rfl;have g1:w4.frozen? ⟨w2.heap.size,1,none⟩=false:=frozen_of_row w4 w2.heap.size 1 #[.int .u8 K,.int .u32 I,.string ⟨#[]⟩,.int .u32 0] 99 Rn.out;have d2:w4.cell? ⟨w2.heap.size,2,none⟩=some (.string ⟨#[]⟩):=(cell_of_row w4 w2.heap.size 2 #[.int .u8 K,.int .u32 I,.string ⟨#[]⟩,.int .u32 0] 99 (0,0) Rn.out).trans rfl;have g2:w4.frozen? ⟨w2.heap.size,2,none⟩=false:=frozen_of_row w4 w2.heap.size 2 #[.int .u8 K,.int .u32 I,.string ⟨#[]⟩,.int .u32 0] 99 Rn.out;have d3:w4.cell? ⟨w2.heap.size,3,none⟩=some (.int .u32 0):=(cell_of_row w4 w2.heap.size 3 #[.int .u8 K,.int .u32 I,.string ⟨#[]⟩,.int .u32 0] 99 (0,0) Rn.out).trans rfl;have g3:w4.frozen? ⟨w2.heap.size,3,none⟩=false:=frozen_of_row w4 w2.heap.size 3 #[.int .u8 K,.int .u32 I,.string ⟨#[]⟩,.int .u32 0] 99 Rn.out;clear hb c0 c1 c2 c3 f0 f1 f2 f3 N1 B3 C2;have u2:=U2.out
  go_wp2_with (refine wpList_store_row rfl 99 (.tmp 2) (.tmp 40) rfl w.heap.size #[.int .u8 K,.int .u32 I,.string ⟨#[]⟩,.int .u32 C] rfl rfl 99 #[.int .u8 0,.int .u32 0,.string ⟨#[]⟩,.int .u32 0] (set_far R4.out (a:=⟨w2.heap.size,3,none⟩) hne _) (by kernel_rfl) rfl (row4 _ _ _ _) ?_)
  refine bodyPost_ret (v:=.agg #[.int .u8 K,.int .u32 I,.string ⟨#[]⟩,.int .u32 C]) (results_cell_row rfl _ _ w.heap.size 99 #[.int .u8 K,.int .u32 I,.string ⟨#[]⟩,.int .u32 C] (0,0) _ rfl (fin.out _ (set_far R4.out (a:=⟨w2.heap.size,3,none⟩) hne _) _) Tryz.underlying99 rfl (by kernel_rfl)) rfl ?_;exact⟨by rw [HX1.out,HY1.out];rfl,below_setRow (B4.out.setCell (Nat.le_of_lt hsz) _) (Nat.le_refl _) _⟩
theorem parse_in (s:ByteArray) (hs:s.size≤maxLen) (w:World) :
  Calls Tryz.prog 90 #[.string s] w fun e w'=>e=.returned (.tuple #[vK (deK s),.int .i64 (deKE s)])∧Below w.heap.size w w':=by
 have CT:=hid (takenKey_in s hs);have hlim:=tkK_lim s;have HI:Hid (deK s=if okK (tkK s)=true∧wrK (tkK s)=s then tkK s else zKy):=hid rfl;have HX:Hid (deKE s=if okK (tkK s)=true∧wrK (tkK s)=s then 0 else 4):=hid rfl;generalize tkK s=n at *;have CE:=hid (key_in n hlim);have HE:=hid (@chK_yes n);have HF:=hid (@chK_no n);obtain⟨K,I,N,C⟩:=n;unfold vK at CT CE;dsimp only at CT CE;have R0:=hid (heap_alloc_new w (.cells #[.int .u8 0,.int .u32 0,.string ⟨#[]⟩,.int .u32 0] 99));have B0:=hid ((Below.refl w.heap.size w).alloc (Nat.le_refl _) (.cells #[.int .u8 0,.int .u32 0,.string ⟨#[]⟩,.int .u32 0] 99));have hsz:w.heap.size<(w.alloc (.cells #[.int .u8 0,.int .u32 0,.string ⟨#[]⟩,.int .u32 0] 99)).heap.size:=by simp
 clear hs
 go_enter Tryz.func90,Tryz.ntmps90
 go_wp2_with fail
 change Calls _ _ _ (w.alloc (.cells #[.int .u8 0,.int .u32 0,.string ⟨#[]⟩,.int .u32 0] 99)) _;generalize w.alloc (.cells #[.int .u8 0,.int .u32 0,.string ⟨#[]⟩,.int .u32 0] 99)=W at *;refine (CT.out _).mono ?_;rintro e w1 ⟨rfl,hb⟩;have R1:=hid (row_bel R0.out hb hsz);have B1:=hid (B0.out.trans (hb.mono B0.out.size));have N1:=hid (new_row (old:=#[.int .u8 0,.int .u32 0,.string ⟨#[]⟩,.int .u32 0]) (cs:=#[.int .u8 K,.int .u32 I,.string N,.int .u32 C]) (t:=99) R1.out rfl);clear hb R0 B0 CT
 go_wp2_with (first|(refine wpList_store_row rfl 99 (.tmp 4) (.tmp 8) rfl w1.heap.size #[.int .u8 K,.int .u32 I,.string N,.int .u32 C] rfl rfl 99 #[.int .u8 0,.int .u32 0,.string ⟨#[]⟩,.int .u32 0] (heap_alloc_new w1 _) (by kernel_rfl) rfl (row4 _ _ _ _) ?_;change wpList _ _ _ _ _ ((w1.alloc (.cells #[.int .u8 0,.int .u32 0,.string ⟨#[]⟩,.int .u32 0] 99)).setRow w1.heap.size #[.int .u8 K,.int .u32 I,.string N,.int .u32 C]);generalize ((w1.alloc (.cells #[.int .u8 0,.int .u32 0,.string ⟨#[]⟩,.int .u32 0] 99)).setRow w1.heap.size #[.int .u8 K,.int .u32 I,.string N,.int .u32 C])=W2 at *)|(refine wpList_load_row rfl 99 (.tmp 4) rfl w1.heap.size rfl 99 #[.int .u8 K,.int .u32 I,.string N,.int .u32 C] (0,0) _ N1.out.2.1 Tryz.underlying99 rfl (by kernel_rfl) ?_))
 refine (CE.out _).mono ?_;rintro e w3 ⟨rfl,hb⟩;have hlt2:w1.heap.size<W2.heap.size:=by
  rcases Nat.lt_or_ge w1.heap.size W2.heap.size with h' | h'
  ·exact h'
  ·have:=N1.out.2.1;rw [Array.getElem?_eq_none h'] at this;cases this
 have Rg:=hid (row_bel N1.out.1 hb (by have:=B1.out.size;omega));have Rn:=hid (row_bel N1.out.2.1 hb hlt2);have B3:=hid (B1.out.trans ((N1.out.2.2.trans (hb.mono N1.out.2.2.size)).mono B1.out.size));clear hb N1 CE R1 B1 hlt2 hsz;have hz:=setRow_heap' (cs:=#[.int .u8 0,.int .u32 0,.string ⟨#[]⟩,.int .u32 0]) Rg.out;have hr:=setRow_heap' (cs:=#[.int .u8 K,.int .u32 I,.string N,.int .u32 C]) Rg.out;have HZ:=hid hz;have HR:=hid hr;clear hz hr;cases hq:okK ⟨K,I,N,C⟩
 ·obtain⟨e1,e2⟩:=HF.out hq;have H1:=hid (show deK s=zKy by rw [HI.out,if_neg (by rw [hq];rintro ⟨h,_⟩;cases h)]);have H2:=hid (show deKE s=4 by rw [HX.out,if_neg (by rw [hq];rintro ⟨h,_⟩;cases h)]);rw [e1];clear hq e1 e2 HE HF HI HX
  go_wp2_with (refine wpList_store_row rfl 99 (.tmp 2) (.tmp 21) rfl w.heap.size #[.int .u8 0,.int .u32 0,.string ⟨#[]⟩,.int .u32 0] rfl rfl 99 #[.int .u8 0,.int .u32 0,.string ⟨#[]⟩,.int .u32 0] Rg.out (by kernel_rfl) rfl (row4 _ _ _ _) ?_)
  refine bodyPost_ret (v:=.tuple #[.agg #[.int .u8 0,.int .u32 0,.string ⟨#[]⟩,.int .u32 0],.int .i64 4]) (results_row2 rfl _ _ w.heap.size 99 #[.int .u8 0,.int .u32 0,.string ⟨#[]⟩,.int .u32 0] (0,0) _ rfl HZ.out Tryz.underlying99 rfl (by kernel_rfl) _ rfl) rfl ?_;exact⟨by rw [H1.out,H2.out];rfl,below_setRow B3.out (Nat.le_refl _) _⟩
 ·obtain⟨e1,e2⟩:=HE.out hq;by_cases hw:wrK ⟨K,I,N,C⟩=s
  ·obtain⟨s1,s2⟩:=eq_str s;have H1:=hid (show deK s=⟨K,I,N,C⟩ by rw [HI.out,if_pos ⟨hq,hw⟩]);have H2:=hid (show deKE s=0 by rw [HX.out,if_pos ⟨hq,hw⟩]);rw [e1,e2,hw];clear hq hw e1 e2 HE HF HI HX
   go_wp2_with (first|(refine wpList_load_row rfl 99 (.tmp 4) rfl w1.heap.size rfl 99 #[.int .u8 K,.int .u32 I,.string N,.int .u32 C] (0,0) _ Rn.out Tryz.underlying99 rfl (by kernel_rfl) ?_)|(refine wpList_store_row rfl 99 (.tmp 2) (.tmp 22) rfl w.heap.size #[.int .u8 K,.int .u32 I,.string N,.int .u32 C] rfl rfl 99 #[.int .u8 0,.int .u32 0,.string ⟨#[]⟩,.int .u32 0] Rg.out (by kernel_rfl) rfl (row4 _ _ _ _) ?_))
   refine bodyPost_ret (v:=.tuple #[.agg #[.int .u8 K,.int .u32 I,.string N,.int .u32 C],.int .i64 0]) (results_row2 rfl _ _ w.heap.size 99 #[.int .u8 K,.int .u32 I,.string N,.int .u32 C] (0,0) _ rfl HR.out Tryz.underlying99 rfl (by kernel_rfl) _ rfl) rfl ?_;exact⟨by rw [H1.out,H2.out];rfl,below_setRow B3.out (Nat.le_refl _) _⟩
  ·obtain⟨s1,s2⟩:=ne_str hw;have H1:=hid (show deK s=zKy by rw [HI.out,if_neg (fun h=>hw h.2)]);have H2:=hid (show deKE s=4 by rw [HX.out,if_neg (fun h=>hw h.2)]);rw [e1,e2];clear hq hw e1 e2 HE HF HI HX
   go_wp2_with (refine wpList_store_row rfl 99 (.tmp 2) (.tmp 21) rfl w.heap.size #[.int .u8 0,.int .u32 0,.string ⟨#[]⟩,.int .u32 0] rfl rfl 99 #[.int .u8 0,.int .u32 0,.string ⟨#[]⟩,.int .u32 0] Rg.out (by kernel_rfl) rfl (row4 _ _ _ _) ?_)
   refine bodyPost_ret (v:=.tuple #[.agg #[.int .u8 0,.int .u32 0,.string ⟨#[]⟩,.int .u32 0],.int .i64 4]) (results_row2 rfl _ _ w.heap.size 99 #[.int .u8 0,.int .u32 0,.string ⟨#[]⟩,.int .u32 0] (0,0) _ rfl HZ.out Tryz.underlying99 rfl (by kernel_rfl) _ rfl) rfl ?_;exact⟨by rw [H1.out,H2.out];rfl,below_setRow B3.out (Nat.le_refl _) _⟩
end Go.Proofs.YtopepebcnaikiaaGreatDoor.Ino
namespace Go.Proofs.YtopepebcnaikiaaGreatDoor.Ino
open Lib (hid)
open Go.ChangeShapes Go.WideShapes Go.ChangeAt Go.RowKit
open BigFrame
open Rg
open Pk (be num be_length num_be num_lt bs bs_size nB nE tN tR tE xB_size)
open Ph (has tl tl_len nb)
theorem below_q (w:World) (q:Nat):Below w.heap.size w (w.drewN q):=⟨rfl,rfl,rfl,Nat.le_refl _,fun _ _=>rfl⟩
def AtK (s:ByteArray) (g0 g1:Nat) (w0 wr:World) (i:Nat):Prop :=
 (kd s=0∨i+1≤kd s∨¬ rkB s)∧wr.heap[g0]?=some (.cells #[.int .u8 0,.int .u32 0,.string ⟨#[]⟩,.int .u32 0] 99 (0,0))∧wr.heap[g1]?=some (.cells #[.int .u8 1,.int .u8 2,.int .u8 3,.int .u8 4] 97 (0,0))∧g0<wr.heap.size∧g1<wr.heap.size∧Below g0 w0 wr
def eqK (x y:Ky):Bool:=decide (x.K=y.K)&&(decide (x.I=y.I)&&(decide (x.N=y.N)&&decide (x.C=y.C)))
theorem row_run {P:Program}{ev:Operand→Value}{o:Oper}{w:World}(ty:TypeId){x:Operand}(ho:o.op=.load ty x) (b:Nat) (hx:ev x=.pointer (some ⟨b,0,none⟩)) (cs:Array Value) (t:TypeId) (fr:Nat×Nat) (d:TypeDesc) (hg:w.heap[b]?=some (.cells cs t fr))
  (hu:P.underlying ty=some d) (hd:(match d with | .struct _ | .array _ _=>true | _=>false)=true) (hi:(P.info? ty).map (·.size)=some cs.size):(execOp ev o).run P w=.ok (.value (.agg cs)) w:=by
 unfold execOp;simp only [ho,hx,Instr.loadAt,Instr.sureAddr,Sem.run_bind,Sem.run_pure,Result.andThen_ok,run_loadVar_row w b t ty cs fr d hg hu hd hi]
end Go.Proofs.YtopepebcnaikiaaGreatDoor.Ino
namespace Go.Proofs.YtopepebcnaikiaaGreatDoor.Di
open Lib (hid)
open Go.ChangeShapes Go.WideShapes Go.ChangeAt Go.RowKit
open BigFrame
open Ino
open Pk (tN tR tE)
variable {w w':World}{g bi be bn ba N:Nat}{it o1 o2 o3 rv pv m1 m2 m3 m4:Value}{s s':Vo}
def TkPost (bi be bn ba N:Nat) (s':Vo) (b:Bool) (w:World) (e:Ending) (w':World):Prop:=e=.returned (.bool b)∧Ms w' bi be bn ba N s'∧Off (XM bi be bn ba) w w'
theorem Ms.mono (h:Ms w bi be bn ba N s){M:Nat}(hM:N≤M):Ms w bi be bn ba M s:=by
 obtain⟨h1,h2,⟨F,h3,h4⟩,⟨G,h5,h6⟩,h7⟩:=h;exact⟨h1.mono hM,h2.mono hM,⟨F,h3.mono hM,h4⟩,⟨G,h5.mono hM,h6⟩,h7⟩
theorem Ms.upI (h:Ms w bi be bn ba N s) (o:g<bi∧bi<be∧be<bn∧bn<ba) (hi:mI.At w' bi (N+1) s'.ino) (hg:w.grownBy w' (some bi)) (he:s'.ent=s.ent) (hn:s'.nmd=s.nmd) (ha:s'.abv=s.abv) (hok:VoOk s'):Ms w' bi be bn ba (N+1) s':=by
 have k:∀ j,j<w.heap.size→j≠bi→w'.heap[j]?=w.heap[j]?:=fun j hj hne=>hg.block j hj fun e=>hne (Option.some.inj e)
 have hl:=h.lt;obtain⟨h1,h2,⟨F,h3,h4⟩,⟨G,h5,h6⟩,h7⟩:=h;exact⟨hi,by rw [he];exact (h2.keep (k _ hl.2.1 (by omega))).mono (Nat.le_succ _),⟨F,(h3.keep (k _ hl.2.2.1 (by omega))).mono (Nat.le_succ _),by rw [hn];exact h4⟩,⟨G,(h5.keep (k _ hl.2.2.2 (by omega))).mono (Nat.le_succ _),by rw [ha];exact h6⟩,hok⟩
theorem Ms.upE (h:Ms w bi be bn ba N s) (o:g<bi∧bi<be∧be<bn∧bn<ba) (hi:mE.At w' be (N+1) s'.ent) (hg:w.grownBy w' (some be)) (he:s'.ino=s.ino) (hn:s'.nmd=s.nmd) (ha:s'.abv=s.abv) (hok:VoOk s'):Ms w' bi be bn ba (N+1) s':=by
 have k:∀ j,j<w.heap.size→j≠be→w'.heap[j]?=w.heap[j]?:=fun j hj hne=>hg.block j hj fun e=>hne (Option.some.inj e)
 have hl:=h.lt;obtain⟨h1,h2,⟨F,h3,h4⟩,⟨G,h5,h6⟩,h7⟩:=h;exact⟨by rw [he];exact (h1.keep (k _ hl.1 (by omega))).mono (Nat.le_succ _),hi,⟨F,(h3.keep (k _ hl.2.2.1 (by omega))).mono (Nat.le_succ _),by rw [hn];exact h4⟩,⟨G,(h5.keep (k _ hl.2.2.2 (by omega))).mono (Nat.le_succ _),by rw [ha];exact h6⟩,hok⟩
theorem Ms.upN (h:Ms w bi be bn ba N s) (o:g<bi∧bi<be∧be<bn∧bn<ba){F:Nat→Option Nat}(hi:mN.At w' bn (N+1) F) (hF:∀ x,s'.nmd x=(F x).getD 0) (hg:w.grownBy w' (some bn)) (he:s'.ino=s.ino) (hn:s'.ent=s.ent) (ha:s'.abv=s.abv) (hok:VoOk s'):Ms w' bi be bn ba (N+1) s':=by
 have k:∀ j,j<w.heap.size→j≠bn→w'.heap[j]?=w.heap[j]?:=fun j hj hne=>hg.block j hj fun e=>hne (Option.some.inj e)
 have hl:=h.lt;obtain⟨h1,h2,⟨F,h3,h4⟩,⟨G,h5,h6⟩,h7⟩:=h;exact⟨by rw [he];exact (h1.keep (k _ hl.1 (by omega))).mono (Nat.le_succ _),by rw [hn];exact (h2.keep (k _ hl.2.1 (by omega))).mono (Nat.le_succ _),⟨_,hi,hF⟩,⟨G,(h5.keep (k _ hl.2.2.2 (by omega))).mono (Nat.le_succ _),by rw [ha];exact h6⟩,hok⟩
theorem Ms.upA (h:Ms w bi be bn ba N s) (o:g<bi∧bi<be∧be<bn∧bn<ba){F:Nat→Option Nat}(hi:mN.At w' ba (N+1) F) (hF:∀ x,s'.abv x=(F x).getD 0) (hg:w.grownBy w' (some ba)) (he:s'.ino=s.ino) (hn:s'.ent=s.ent) (ha:s'.nmd=s.nmd) (hok:VoOk s'):Ms w' bi be bn ba (N+1) s':=by
 have k:∀ j,j<w.heap.size→j≠ba→w'.heap[j]?=w.heap[j]?:=fun j hj hne=>hg.block j hj fun e=>hne (Option.some.inj e)
 have hl:=h.lt;obtain⟨h1,h2,⟨F,h3,h4⟩,⟨G,h5,h6⟩,h7⟩:=h;exact⟨by rw [he];exact (h1.keep (k _ hl.1 (by omega))).mono (Nat.le_succ _),by rw [hn];exact (h2.keep (k _ hl.2.1 (by omega))).mono (Nat.le_succ _),⟨F,(h3.keep (k _ hl.2.2.1 (by omega))).mono (Nat.le_succ _),by rw [ha];exact h4⟩,⟨_,hi,hF⟩,hok⟩
theorem Ms.xlt (h:Ms w bi be bn ba N s) (b:Nat) (hb:XM bi be bn ba b):b<w.heap.size:=by
 have hl:=h.lt;rcases hb with rfl | rfl | rfl | rfl
 ·exact hl.1
 ·exact hl.2.1
 ·exact hl.2.2.1
 ·exact hl.2.2.2
theorem VW.turn (h:VW w g bi be bn ba N it o1 o2 o3 rv pv s){b M:Nat}(hb:XM bi be bn ba b) (hg:w.grownBy w' (some b)) (hm:Ms w' bi be bn ba M s'):VW w' g bi be bn ba M it o1 o2 o3 rv pv s' :=
 ⟨h.c.keep (hg.block g h.c.lt fun e=>h.off (Option.some.inj e▸hb)),hm,h.o⟩
theorem eq0 (x:Int):(x==0)=decide (x=0):=by by_cases h:x=0<;>simp [h]
theorem takeI_ok {p:Pt}(h:VoOk s) (hd:(deI p.v).lim∧(deI p.v).T.size≤maxLen):VoOk (takeI s p):=by
 refine⟨fun i n hi=>?_,h.ent,h.nmd,h.abv⟩;unfold takeI at hi;dsimp only at hi;split at hi
 ·cases hi;exact hd
 ·exact h.ino i n hi
theorem takeInode_any (p:Pt) (hV:VW w g bi be bn ba N it o1 o2 o3 rv pv s) (hN:N<maxLen) (hl:p.k.lim) (hs:p.v.size≤maxLen) (hd:(deI p.v).lim∧(deI p.v).T.size≤maxLen) :
  Calls Tryz.prog 131 #[.pointer (some ⟨g,0,none⟩),vP p] w (TkPost bi be bn ba (N+3) (takeI s p) (decide (deIE p.v=0)) w):=by
 have HOK:=hid (takeI_ok hV.m.ok hd);obtain⟨⟨K,I,Nm,C⟩,v⟩:=p;have CD:=hid (decode_in v hs);obtain⟨S',hS'⟩:∃ S',takeI s ⟨⟨K,I,Nm,C⟩,v⟩=S':=⟨_,rfl⟩;have HF:Hid (S'.ino I=some (deI v)∧(∀ z,z≠I→S'.ino z=s.ino z)∧S'.ent=s.ent∧S'.nmd=s.nmd∧S'.abv=s.abv):=hid (by
  rw [← hS'];unfold takeI;exact⟨if_pos rfl,fun z hz=>if_neg hz,rfl,rfl,rfl⟩)
 rw [hS'] at HOK ⊢;clear hS' hd;dsimp only at hl hs HOK HF ⊢;obtain⟨q,hq⟩:∃ q,decide (deIE v=0)=q:=⟨_,rfl⟩;rw [hq];have HQ:=hid hq;clear hq;have hI:I<4294967296:=hl.2.1;obtain⟨x,hx⟩:∃ x,deIE v=x:=⟨_,rfl⟩;obtain⟨n,hn⟩:∃ n,deI v=n:=⟨_,rfl⟩;rw [hx] at CD HQ;rw [hn] at CD HF;clear hx hn hl hs;obtain⟨nK,nM,nL,nS,nT⟩:=n;unfold vI at CD;dsimp only at CD;have C0:=box_cell w (encP ⟨⟨K,I,Nm,C⟩,v⟩).toArray 133 1 rfl;have C4:=box_cell w (encP ⟨⟨K,I,Nm,C⟩,v⟩).toArray 133 4 rfl;have B0:=hid ((Below.refl w.heap.size w).alloc (Nat.le_refl _) (.cells (encP ⟨⟨K,I,Nm,C⟩,v⟩).toArray 133));have V0:=hid (hV.go B0.out);have hsz:(w.alloc (.cells (encP ⟨⟨K,I,Nm,C⟩,v⟩).toArray 133)).heap.size=w.heap.size+1:=by simp
 have HZ:=hid hsz;clear hsz hV;unfold vP;dsimp only [encP] at C0 C4 B0 V0 HZ ⊢
 go_enter Tryz.func131,Tryz.ntmps131
 go_wp2_with fail
 change Calls _ _ _ (w.alloc (.cells #[.int .u8 K,.int .u32 I,.string Nm,.int .u32 C,.string v] 133)) _;generalize w.alloc (.cells #[.int .u8 K,.int .u32 I,.string Nm,.int .u32 C,.string v] 133)=W at *;refine (CD.out W).mono ?_;rintro e w1 ⟨rfl,hb⟩;have hbl0:w.heap.size<W.heap.size:=by rw [HZ.out];omega
 have V1:=hid (V0.out.go hb);have D0:=hid ((Below.cell hb (p:=⟨w.heap.size,1,none⟩) hbl0).trans C0);have B1:=hid (B0.out.trans (hb.mono (by rw [HZ.out];omega)));have hlt:w.heap.size<w1.heap.size:=Nat.lt_of_lt_of_le hbl0 hb.size;clear C0 C4 hb B0 HZ CD V0 hbl0;have hal:Below w1.heap.size w1 (w1.alloc (.cells #[.int .u8 nK,.int .u16 nM,.int .u32 nL,.int .u32 nS,.string nT] 35)):=(Below.refl _ _).alloc (Nat.le_refl _) _;have V2:=hid (V1.out.go hal);have R2:=hid (heap_alloc_new w1 (.cells #[.int .u8 nK,.int .u16 nM,.int .u32 nL,.int .u32 nS,.string nT] 35));have D2:=hid ((Below.cell hal (p:=⟨w.heap.size,1,none⟩) hlt).trans D0.out);have B2:=hid (B1.out.trans (hal.mono B1.out.size));clear hal V1 D0 B1
 go_wp2_with fail
 generalize w1.alloc (.cells #[.int .u8 nK,.int .u16 nM,.int .u32 nL,.int .u32 nS,.string nT] 35)=w2 at *;have c6:w2.cell? ⟨g,6,none⟩=some (.map (some bi)):=V2.out.c.cells.2.2.2.1;have d1:w2.cell? ⟨w.heap.size,1,none⟩=some (.int .u32 I):=D2.out;have f0:w2.cell? ⟨w1.heap.size,0,none⟩=some (.int .u8 nK):=cell_of_row _ _ 0 _ _ _ R2.out;have f1:w2.cell? ⟨w1.heap.size,1,none⟩=some (.int .u16 nM):=cell_of_row _ _ 1 _ _ _ R2.out;have f2:w2.cell? ⟨w1.heap.size,2,none⟩=some (.int .u32 nL):=cell_of_row _ _ 2 _ _ _ R2.out;have f3:w2.cell? ⟨w1.heap.size,3,none⟩=some (.int .u32 nS):=cell_of_row _ _ 3 _ _ _ R2.out;have f4:w2.cell? ⟨w1.heap.size,4,none⟩=some (.string nT):=cell_of_row _ _ 4 _ _ _ R2.out
 go_still_tail 8,(by kernel_rfl)
 have V3:=hid V2.out.drew;have B3:=hid B2.out.drew;change wpList _ _ _ _ _ w2.drew;clear c6 d1 f0 f1 f2 f3 f4 R2 D2 V2 B2 hlt;generalize w2.drew=w3 at *;have HQ2:=hid (show (x==0)=q from (eq0 x).trans HQ.out);clear HQ
 go_wp2_with (refine Mq.wpList_put mI rfl _ _ _ (.inl rfl) bi N _ S'.ino rfl V3.out.m.i hN I hI rfl ⟨nK,nM,nL,nS,nT⟩ rfl HF.out.1 HF.out.2.1 ?_;intro w4 ha hg;have HA:=hid ha;have HG:=hid hg;clear ha hg)
 go_ret
 exact⟨by rw [← HQ2.out];rfl,(V3.out.m.upI V3.out.o HA.out HG.out HF.out.2.2.1 HF.out.2.2.2.1 HF.out.2.2.2.2 HOK.out).mono (by omega),(Off.of_below B3.out).trans (Off.of_grown HG.out (.inl rfl))⟩
theorem takeE_ok {p:Pt}(h:VoOk s) (hl:p.k.lim):VoOk (takeE s p):=by
 refine⟨h.ino,fun k j hk=>?_,fun i=>?_,fun i=>?_⟩
 ·unfold takeE at hk;dsimp only at hk;split at hk
  ·cases hk;exact numOf_lt _
  ·exact h.ent k j hk
 ·unfold takeE;dsimp only;split
  ·exact Nat.mod_lt _ (by decide)
  ·exact h.nmd i
 ·unfold takeE;dsimp only;split
  ·exact hl.2.1
  ·exact h.abv i
def nmdO (F:Nat→Option Nat) (j:Nat) (c:Nat) (i:Nat):Option Nat:=if i=j then some c else F i
theorem nmdO_same (F:Nat→Option Nat) (j c:Nat):nmdO F j c j=some c:=if_pos rfl
theorem nmdO_ne (F:Nat→Option Nat) (j c z:Nat) (h:z≠j):nmdO F j c z=F z:=if_neg h
theorem nmdO_get (F:Nat→Option Nat) (j c x:Nat):(nmdO F j c x).getD 0=if x=j then c else (F x).getD 0:=by
 unfold nmdO;split<;>rfl
theorem takeEntry_any (p:Pt) (hV:VW w g bi be bn ba N it o1 o2 o3 rv pv s) (hN:N+3<maxLen) (hl:p.k.lim) (hk:kokK p.k) (hs:p.v.size≤maxLen) :
  Calls Tryz.prog 132 #[.pointer (some ⟨g,0,none⟩),vP p] w (TkPost bi be bn ba (N+3) (takeE s p) (decide (tE p.v 4=0)&&(decide (tR p.v 4=ByteArray.empty)&&decide (2≤numOf p.v))) w):=by
 have HOK:=hid (takeE_ok hV.m.ok hl);obtain⟨⟨K,I,Nm,C⟩,v⟩:=p;have hI:I<4294967296:=hl.2.1;have HK:=hid hk;have HOK2:=hid hV.m.ok;have CD:=hid (fun w=>Pk.take_any v 4 w hs);obtain⟨S',hS'⟩:∃ S',takeE s ⟨⟨K,I,Nm,C⟩,v⟩=S':=⟨_,rfl⟩;obtain⟨j,hj⟩:∃ j,numOf v=j:=⟨_,rfl⟩;have hjl:j<4294967296:=by rw [← hj];exact numOf_lt v
 have hjn:tN v 4=(j:Int):=by
  rw [← hj];have h2:=(tN_lt v 4 (by omega)).1;have e:((4:Nat):Int)=4:=rfl;rw [e] at h2;unfold numOf;omega
 have HF:Hid (S'.ino=s.ino∧(S'.ent ⟨K,I,Nm,C⟩=some j∧∀ z,z≠⟨K,I,Nm,C⟩→S'.ent z=s.ent z)∧(∀ i,S'.nmd i=if i=j then (s.nmd i+1)%4294967296 else s.nmd i)∧(∀ i,S'.abv i=if i=j then I else s.abv i)):=hid (by
  rw [← hS',← hj];unfold takeE;exact⟨rfl,⟨if_pos rfl,fun z hz=>if_neg hz⟩,fun _=>rfl,fun _=>rfl⟩)
 dsimp only at hj hS' HOK HK ⊢;rw [hS'] at HOK ⊢;rw [hj];rw [hjn] at CD;clear hS' hj hjn hs hl hk;obtain⟨x,hx⟩:∃ x,tE v 4=x:=⟨_,rfl⟩;obtain⟨R,hR⟩:∃ R,tR v 4=R:=⟨_,rfl⟩;rw [hx,hR] at CD ⊢;clear hx hR;obtain⟨q,hq⟩:∃ q,(decide (x=0)&&(decide (R=ByteArray.empty)&&decide (2≤j)))=q:=⟨_,rfl⟩;rw [hq];have HQ:=hid hq;clear hq;have C0:=hid (heap_alloc_new w (.cells (encP ⟨⟨K,I,Nm,C⟩,v⟩).toArray 133));have C4:=box_cell w (encP ⟨⟨K,I,Nm,C⟩,v⟩).toArray 133 4 rfl;have B0:=hid ((Below.refl w.heap.size w).alloc (Nat.le_refl _) (.cells (encP ⟨⟨K,I,Nm,C⟩,v⟩).toArray 133));have V0:=hid (hV.go B0.out);have hsz:(w.alloc (.cells (encP ⟨⟨K,I,Nm,C⟩,v⟩).toArray 133)).heap.size=w.heap.size+1:=by simp
 have HZ:=hid hsz;have HWL:=hid (show ∀ b,XM bi be bn ba b→b<w.heap.size from hV.m.xlt);clear hsz hV;unfold vP;dsimp only [encP] at C0 C4 B0 V0 HZ ⊢
 go_enter Tryz.func132,Tryz.ntmps132
 go_wp2_with fail
 change Calls _ _ _ (w.alloc (.cells #[.int .u8 K,.int .u32 I,.string Nm,.int .u32 C,.string v] 133)) _;generalize w.alloc (.cells #[.int .u8 K,.int .u32 I,.string Nm,.int .u32 C,.string v] 133)=W at *;refine (CD.out W).mono ?_;rintro e w1 ⟨rfl,hb⟩;have hbl0:w.heap.size<W.heap.size:=by rw [HZ.out];omega
 have V1:=hid (V0.out.go hb);have R1:=hid (row_bel C0.out hb hbl0);have B1:=hid (B0.out.trans (hb.mono (by rw [HZ.out];omega)));have hwr:IntKind.u32.wrap (j:Int)=(j:Int):=u32_id hjl;clear C0 C4 hb B0 HZ CD V0 hbl0
 go_wp2_with fail
 have c7:w1.cell? ⟨g,7,none⟩=some (.map (some be)):=V1.out.c.cells.2.2.2.2.1;have f0:w1.cell? ⟨w.heap.size,0,none⟩=some (.int .u8 K):=cell_of_row _ _ 0 _ _ _ R1.out;have f1:w1.cell? ⟨w.heap.size,1,none⟩=some (.int .u32 I):=cell_of_row _ _ 1 _ _ _ R1.out;have f2:w1.cell? ⟨w.heap.size,2,none⟩=some (.string Nm):=cell_of_row _ _ 2 _ _ _ R1.out;have f3:w1.cell? ⟨w.heap.size,3,none⟩=some (.int .u32 C):=cell_of_row _ _ 3 _ _ _ R1.out
 go_still_tail 7,(by kernel_rfl)
 have V2:=hid V1.out.drew;have B2:=hid B1.out.drew;have R2:=hid (show w1.drew.heap[w.heap.size]?=_ from R1.out);change wpList _ _ _ _ _ w1.drew;clear c7 f0 f1 f2 f3 V1 B1 R1 hwr;generalize w1.drew=w2 at *;obtain⟨F,hF,hFe⟩:=V2.out.m.n;obtain⟨G,hG,hGe⟩:=V2.out.m.a;have HFF:=hid hF;have HFE:=hid hFe;have HGG:=hid hG;have HGE:=hid hGe;have HO:=hid V2.out.o;have HLT:=hid V2.out.m.lt;clear hF hFe hG hGe;obtain⟨c0,hc0⟩:∃ c0,(F j).getD 0=c0:=⟨_,rfl⟩;obtain⟨c1,hc1⟩:∃ c1,(c0+1)%4294967296=c1:=⟨_,rfl⟩;have hwa:IntKind.u32.wrap ((c0:Int)+1)=(c1:Int):=by rw [← hc1,IntKind.wrap_u32];omega
 have HNM:=hid (show ∀ i,S'.nmd i=(nmdO F j c1 i).getD 0 from fun i=>by
  rw [HF.out.2.2.1 i,nmdO_get,HFE.out];split
  ·rename_i e;subst e;rw [hc0,hc1]
  ·rfl)
 have HAB:=hid (show ∀ i,S'.abv i=(nmdO G j I i).getD 0 from fun i=>by rw [HF.out.2.2.2 i,nmdO_get,HGE.out]);have HOK3:=hid (show VoOk ⟨s.ino,S'.ent,s.nmd,s.abv⟩ from⟨HOK2.out.ino,HOK.out.ent,HOK2.out.nmd,HOK2.out.abv⟩);have HOK4:=hid (show VoOk ⟨s.ino,S'.ent,S'.nmd,s.abv⟩ from⟨HOK2.out.ino,HOK.out.ent,HOK.out.nmd,HOK2.out.abv⟩);have HC0:=hid hc0;clear hc0 hc1;have HQL:=hid (show w.heap.size<w2.heap.size from (Array.getElem?_eq_some_iff.1 R2.out).1);have HQN:=hid (show ∀ b,XM bi be bn ba b→b<w.heap.size from HWL.out);have HKP:=hid (fun (wa wb:World) (b:Nat) (hb:XM bi be bn ba b) (hg:wa.grownBy wb (some b)) (hl:w.heap.size<wa.heap.size)=>hg.block w.heap.size hl (fun e=>by have:=HQN.out b hb;cases e;omega))
 go_wp2_with (first
  | (refine Mq.wpList_put mE rfl _ _ _ (.inl rfl) be N _ S'.ent rfl V2.out.m.e (by omega) ⟨K,I,Nm,C⟩ HK.out rfl j rfl HF.out.2.1.1 HF.out.2.1.2 ?_
     intro w3 ha hg;have HG3:=hid hg;have M3:=hid (V2.out.m.upE (s':=⟨s.ino,S'.ent,s.nmd,s.abv⟩) HO.out ha hg rfl rfl rfl HOK3.out);have V3:=hid (V2.out.turn (.inr (.inl rfl)) hg M3.out);have R3:=hid ((HKP.out _ _ _ (.inr (.inl rfl)) hg HQL.out).trans R2.out);have O3:=hid ((Off.of_below (X:=XM bi be bn ba) B2.out).trans (Off.of_grown hg (.inr (.inl rfl))));have HF3:=hid (HFF.out.keep (hg.block bn HLT.out.2.2.1 (fun e=>by have:=HO.out;cases e;omega)));have HA3:=hid (HGG.out.keep (hg.block ba HLT.out.2.2.2 (fun e=>by have:=HO.out;cases e;omega)));have HL3:=hid (Nat.lt_of_lt_of_le HQL.out hg.size);have c8:w3.cell? ⟨g,8,none⟩=some (.map (some bn)):=V3.out.c.cells.2.2.2.2.2.1;have hlk:(Instr.lookup 79 (.map (some bn)) (.int .u32 (j:Int)) false).run Tryz.prog w3=.ok (.int .u32 (c0:Int)) w3:=by
      rw [← HC0.out];exact lookN HF3.out hjl
     clear ha hg HG3 M3)
  | (refine Mq.wpList_put mN rfl _ _ _ (.inl rfl) bn N _ (nmdO F j c1) rfl HF3.out (by omega) j hjl rfl c1 rfl (nmdO_same F j c1) (nmdO_ne F j c1) ?_
     intro w4 ha hg;have M4:=hid (V3.out.m.upN (s':=⟨s.ino,S'.ent,S'.nmd,s.abv⟩) HO.out (ha.mono (Nat.le_succ _)) HNM.out hg rfl rfl rfl HOK4.out);have V4:=hid (V3.out.turn (.inr (.inr (.inl rfl))) hg M4.out);have R4:=hid ((HKP.out _ _ _ (.inr (.inr (.inl rfl))) hg HL3.out).trans R3.out);have O4:=hid (O3.out.trans (Off.of_grown hg (.inr (.inr (.inl rfl)))));have HA4:=hid (HA3.out.keep (hg.block ba (HA3.out.lt) (fun e=>by have:=HO.out;cases e;omega)));clear ha hg M4))
 have c9:w4.cell? ⟨g,9,none⟩=some (.map (some ba)):=V4.out.c.cells.2.2.2.2.2.2;have f1:w4.cell? ⟨w.heap.size,1,none⟩=some (.int .u32 I):=cell_of_row _ _ 1 _ _ _ R4.out;clear V3 R3 O3 c8 hlk V2 R2 B2 HQL HL3 HFF HF3 HA3 HNM
 go_still_tail 8,(by kernel_rfl)
 have V5:=hid V4.out.drew;have O5:=hid (O4.out.trans (Off.of_below (Below.refl _ _).drew));have HA5:=hid (show mN.At w4.drew ba N G from HA4.out);change wpList _ _ _ _ _ w4.drew;clear c9 f1 V4 O4 HA4 R4 hwa;generalize w4.drew=w5 at *;have HJ2:=hid (show decide ((2:Int)≤(j:Int))=decide (2≤j) by apply decide_eq_decide.2;omega);by_cases hx:x=0
 ·subst hx;by_cases hr:R.size=0
  ·have e1:=emp_of (decide_eq_true hr);obtain⟨e1,e2⟩:=e1;have e3:=emp_yes hr;have HR:=hid (size0 hr);clear hr
   go_wp2_with (first
    | (refine Mq.wpList_put mN rfl _ _ _ (.inl rfl) ba N _ (nmdO G j I) rfl HA5.out (by omega) j hjl rfl I rfl (nmdO_same G j I) (nmdO_ne G j I) ?_
       intro w6 ha hg;have M6:=hid (V5.out.m.upA (s':=S') HO.out (ha.mono (by omega)) HAB.out hg HF.out.1 rfl rfl HOK.out);have O6:=hid (O5.out.trans (Off.of_grown hg (.inr (.inr (.inr rfl)))));clear ha hg))
   go_ret
   exact⟨by rw [show q=decide ((2:Int)≤(j:Int)) from by rw [HJ2.out,← HQ.out];simp [HR.out]];rfl,M6.out,O6.out⟩
  ·have e1:=emp_of (decide_eq_false hr);obtain⟨e1,e2⟩:=e1;have e3:=emp_no hr;have HR:=hid (show R≠ByteArray.empty from fun e=>hr (by rw [e];rfl));clear hr
   go_wp2_with (first
    | (refine Mq.wpList_put mN rfl _ _ _ (.inl rfl) ba N _ (nmdO G j I) rfl HA5.out (by omega) j hjl rfl I rfl (nmdO_same G j I) (nmdO_ne G j I) ?_
       intro w6 ha hg;have M6:=hid (V5.out.m.upA (s':=S') HO.out (ha.mono (by omega)) HAB.out hg HF.out.1 rfl rfl HOK.out);have O6:=hid (O5.out.trans (Off.of_grown hg (.inr (.inr (.inr rfl)))));clear ha hg))
   go_ret
   exact⟨by rw [show q=false from by rw [← HQ.out];simp [HR.out]];rfl,M6.out,O6.out⟩
 ·have e1:(x==0)=false:=by rw [eq0];exact decide_eq_false hx
  have HX:=hid hx
  go_wp2_with (first
   | (refine Mq.wpList_put mN rfl _ _ _ (.inl rfl) ba N _ (nmdO G j I) rfl HA5.out (by omega) j hjl rfl I rfl (nmdO_same G j I) (nmdO_ne G j I) ?_
      intro w6 ha hg;have M6:=hid (V5.out.m.upA (s':=S') HO.out (ha.mono (by omega)) HAB.out hg HF.out.1 rfl rfl HOK.out);have O6:=hid (O5.out.trans (Off.of_grown hg (.inr (.inr (.inr rfl)))));clear ha hg))
  go_ret
  exact⟨by rw [show q=false from by rw [← HQ.out];simp [HX.out]];rfl,M6.out,O6.out⟩
variable {w w':World}{g bi be bn ba N:Nat}{it o1 o2 o3 rv pv m1 m2 m3 m4:Value}{s s':Vo}
theorem lz_none {v:ByteArray}(h:v.size=0):lz v=false:=by
 have:=size0 h;subst this;unfold lz;rw [ByteArray.toList_eq];rfl
theorem hasSuffix_any (v:ByteArray) (hs:v.size≤maxLen) (w:World):Calls Tryz.prog 133 #[.string v,.string ⟨#[0]⟩] w fun e w'=>e=.returned (.bool (lz v))∧w=w':=by
 by_cases h0:v.size=0
 ·have HL:=hid (lz_none h0);have hk:v={ data:=#[] }:=size0 h0;subst hk;clear h0
  go_enter Tryz.func133,Tryz.ntmps133
  go_wp2_with (go_at_call 164;go_in)
  go_ret
  exact⟨by rw [HL.out];rfl,rfl⟩
 ·obtain⟨m,hm⟩:∃ m:Nat,v.size=m+1:=⟨v.size-1,by omega⟩;have HL:=hid (show lz v=((v.extract m (m+1)).toList==[0]) by unfold lz;rw [hm];rfl);have hw:IntKind.i64.wrap (m:Int)=(m:Int):=by
   have:v.size≤maxLen:=hs;unfold maxLen at this;exact IntWalk.i64_in _ ⟨by omega,by omega⟩
  go_enter Tryz.func133,Tryz.ntmps133
  go_wp2_with (go_at_call 164;go_in)
  go_ret
  exact⟨by rw [HL.out];rfl,rfl⟩
theorem take_any (p:Pt) (hV:VW w g bi be bn ba N it o1 o2 o3 rv pv s) (hN:N+3<maxLen) (hl:p.k.lim) (hk:kokK p.k) (hs:p.v.size≤maxLen) (hd:(deI p.v).lim∧(deI p.v).T.size≤maxLen) :
  Calls Tryz.prog 91 #[.pointer (some ⟨g,0,none⟩),vP p] w (TkPost bi be bn ba (N+3) (takeP s p) (okP p) w):=by
 have CI:=hid (fun (w1:World) (h:VW w1 g bi be bn ba N it o1 o2 o3 rv pv s)=>takeInode_any p h (by omega) hl hs hd);have CE:=hid (fun (w1:World) (h:VW w1 g bi be bn ba N it o1 o2 o3 rv pv s)=>takeEntry_any p h hN hl hk hs);have CH:=hid (hasSuffix_any p.v hs);have H1:=hid (show p.k.K=1→takeP s p=takeI s p∧okP p=decide (deIE p.v=0) from fun h=>⟨by unfold takeP;rw [if_pos h],by unfold okP;rw [if_pos h]⟩);have H2:=hid (show p.k.K=2→takeP s p=takeE s p∧okP p=(decide (tE p.v 4=0)&&(decide (tR p.v 4=ByteArray.empty)&&decide (2≤numOf p.v))) from fun h=>⟨by unfold takeP;rw [if_neg (by omega),if_pos h],by unfold okP;rw [if_neg (by omega),if_pos h]⟩);have H3:=hid (show p.k.K=3→takeP s p=s∧okP p=(decide (p.v.size≠0)&&(decide (p.v.size≤128)&&!lz p.v)) from fun h=>⟨by unfold takeP;rw [if_neg (by omega),if_neg (by omega)],by unfold okP;rw [if_neg (by omega),if_neg (by omega),if_pos h]⟩);have H4:=hid (show p.k.K≠1→p.k.K≠2→p.k.K≠3→takeP s p=s∧okP p=decide (p.v.size≤64) from fun h1 h2 h3=>⟨by unfold takeP;rw [if_neg h1,if_neg h2],by unfold okP;rw [if_neg h1,if_neg h2,if_neg h3]⟩);have B0:=hid ((Below.refl w.heap.size w).alloc (Nat.le_refl _) (.cells (encP p).toArray 133));have V0:=hid (hV.go B0.out);have C0:=box_cell w (encP p).toArray 133 0 rfl;have C1:=box_cell w (encP p).toArray 133 1 rfl;have C2:=box_cell w (encP p).toArray 133 2 rfl;have C3:=box_cell w (encP p).toArray 133 3 rfl;have C4:=box_cell w (encP p).toArray 133 4 rfl;clear hl hk hd hV;obtain⟨Y,hY⟩:∃ Y,takeP s p=Y:=⟨_,rfl⟩;obtain⟨q,hq⟩:∃ q,okP p=q:=⟨_,rfl⟩;rw [hY,hq] at H1 H2 H3 H4 ⊢;clear hY hq;unfold vP at CI CE ⊢;obtain⟨⟨K,I,Nm,C⟩,v⟩:=p;dsimp only [encP] at *;by_cases k1:K=1
 ·subst k1;obtain⟨rfl,rfl⟩:=H1.out rfl;clear H1 H2 H3 H4 CE CH
  go_enter Tryz.func91,Tryz.ntmps91
  go_wp2_with (go_at_call 131;refine (CI.out _ V0.out).mono ?_;rintro e w1 ⟨rfl,hm,ho⟩;have HM:=hid hm;have HO:=hid ((Off.of_below (X:=XM bi be bn ba) B0.out).trans ho);clear hm ho)
  go_ret
  exact⟨rfl,HM.out,HO.out⟩
 ·by_cases k2:K=2
  ·subst k2;obtain⟨rfl,rfl⟩:=H2.out rfl;clear H1 H2 H3 H4 CI CH
   go_enter Tryz.func91,Tryz.ntmps91
   go_wp2_with (go_at_call 132;refine (CE.out _ V0.out).mono ?_;rintro e w1 ⟨rfl,hm,ho⟩;have HM:=hid hm;have HO:=hid ((Off.of_below (X:=XM bi be bn ba) B0.out).trans ho);clear hm ho)
   go_ret
   exact⟨rfl,HM.out,HO.out⟩
  ·by_cases k3:K=3
   ·subst k3;obtain⟨rfl,h⟩:=H3.out rfl;have HQ:=hid h;clear H1 H2 H3 H4 CI CE h;by_cases h0:v.size=0
    ·obtain⟨e1,e2⟩:=emp_of (decide_eq_true h0);have e3:=emp_yes h0;have HV:=hid h0;clear h0
     go_enter Tryz.func91,Tryz.ntmps91
     go_wp2_with fail
     go_ret
     exact⟨by rw [HQ.out,HV.out];rfl,(V0.out.m).mono (by omega),Off.of_below B0.out⟩
    ·obtain⟨e1,e2⟩:=emp_of (decide_eq_false h0);have e3:=emp_no h0;have HV:=hid h0;clear h0;by_cases h1:v.size≤128
     ·have e4:decide ((v.size:Int)≤128)=true:=decide_eq_true (by omega);have HV2:=hid h1;clear h1
      go_enter Tryz.func91,Tryz.ntmps91
      go_wp2_with (go_at_call 133;refine (CH.out _).mono ?_;rintro e w1 ⟨rfl,rfl⟩)
      go_ret
      exact⟨by rw [HQ.out,decide_eq_true HV.out,decide_eq_true HV2.out,Bool.true_and,Bool.true_and];rfl,(V0.out.m).mono (by omega),Off.of_below B0.out⟩
     ·have e4:decide ((v.size:Int)≤128)=false:=decide_eq_false (by omega);have HV2:=hid h1;clear h1
      go_enter Tryz.func91,Tryz.ntmps91
      go_wp2_with fail
      go_ret
      exact⟨by rw [HQ.out,decide_eq_true HV.out,decide_eq_false HV2.out,Bool.true_and,Bool.false_and];rfl,(V0.out.m).mono (by omega),Off.of_below B0.out⟩
   ·obtain⟨rfl,h⟩:=H4.out k1 k2 k3;have HQ:=hid h;have HD:=hid (show decide ((v.size:Int)≤64)=decide (v.size≤64) by apply decide_eq_decide.2;omega);have g1:((K:Int)==1)=false:=eqz1 (decide_eq_false k1);have g2:((K:Int)==2)=false:=eqz2 (decide_eq_false k2);have g3:((K:Int)==3)=false:=eqz3 (decide_eq_false k3);clear H1 H2 H3 H4 CI CE CH h
    go_enter Tryz.func91,Tryz.ntmps91
    go_wp2_with fail
    go_ret
    exact⟨by rw [HQ.out,← HD.out];rfl,(V0.out.m).mono (by omega),Off.of_below B0.out⟩
end Go.Proofs.YtopepebcnaikiaaGreatDoor.Di
namespace Go.Proofs.YtopepebcnaikiaaGreatDoor.It
open Lib (hid)
open Go.ChangeShapes Go.WideShapes Go.ChangeAt Go.RowKit
open Ar Rg St
def errF (b:Bool):Value:=.int .i64 (if b then 0 else 4)
theorem check_any (D:List Itm) (A:Option Addr) (n cap B:Nat) (hn:n=D.length) (hm:n≤281474976710656) (w:World) (hB:B≤w.heap.size) (hD:Ls enc 2 w B A D) :
  Calls Tryz.prog 53 #[.slice A n cap] w fun e w'=>e=.returned (errF (rt D))∧Below w.heap.size w w':=by
 have HC:=hid (rightList_any D A n cap B hn hm w hB hD);clear hD hn;generalize rt D=q at *;cases q
 ·go_enter Tryz.func53,Tryz.ntmps53
  go_wp2_with (go_at_call 37;refine HC.out.mono ?_;rintro e w1 ⟨rfl,hb1⟩)
  go_ret
  exact⟨rfl,by assumption⟩
 ·go_enter Tryz.func53,Tryz.ntmps53
  go_wp2_with (go_at_call 37;refine HC.out.mono ?_;rintro e w1 ⟨rfl,hb1⟩)
  go_ret
  exact⟨rfl,by assumption⟩
end Go.Proofs.YtopepebcnaikiaaGreatDoor.It
namespace Go.Proofs.YtopepebcnaikiaaGreatDoor.Rg
open Lib (hid)
open Go.RowKit
section
variable {P:Program}{ops:Array Oper}{Q:Exit→Act→World→Prop}{md:Region.Mode}{S:World→Prop}{n:Nat}{L:Array Bool→Act→World→Prop}
def wpAnyT (P:Program) (md:Region.Mode) (ops:Array Oper) (Q:Exit→Act→World→Prop) (S:World→Prop) (n:Nat) (L:Array Bool→Act→World→Prop):Nat→Array Bool→Act→World→Prop
 | 0,listed,a,w=>L listed a w
 | f+1,listed,a,w=>Region.ready md ops listed≠[]∧∀ i∈Region.ready md ops listed,i<n∧wpOp P ops Q i (fun a' w'=>S w'∧wpAnyT P md ops Q S n L f (listed.setIfInBounds i true) a' w') a w
theorem wpAny_of_T {g:Nat}(hL:∀ listed a w,L listed a w→wpAny P md ops Q g listed a w):∀ (f:Nat) (listed:Array Bool) (a:Act) (w:World),wpAnyT P md ops Q S n L f listed a w→wpAny P md ops Q (f+g) listed a w
 | 0,listed,a,w,h=>by rw [Nat.zero_add];exact hL _ _ _ h
 | f+1,listed,a,w,h=>by
  rw [show f+1+g=(f+g)+1 by omega];exact⟨fun h0=>absurd h0 h.1,fun i hi=>wpOp_mono (fun a' w' h'=>wpAny_of_T hL f _ a' w' h'.2) (h.2 i hi).2⟩
theorem wpAnyT_first {i:Nat}{oi:Oper}{v:Value}(hi:ops[i]?=some oi) (hsel:∀ (j:Nat) (o:Oper) cs b,ops[j]?=some o→o.op≠.select cs b)
  (hs:Region.sinkB md ops n=true) (hc:Region.chainB md ops n=true) (hn:n<ops.size) (hin:i<n)
  (hQ:∀ c a w,Q (.panic c) (a.put oi.dst v) w→Q (.panic c) a w)
  (hdone:∀ listed a w,L listed a w→∀ j∈Region.ready md ops listed,n≤j) :
  ∀ (f:Nat) (listed:Array Bool) (a:Act) (w:World),HeadInv md ops n listed →
   (∀ j oj,ops[j]?=some oj→j≠i→listed.getD j true=false→(∀ e∈oj.after,Region.binds md e=true→e.on≠i)→oi.apart ops oj=true) →
   i∈Region.ready md ops listed→YieldsIf P ops S oi v a→S w →
   wpAnyT P md ops Q S n L f (listed.setIfInBounds i true) (a.put oi.dst v) w→wpAnyT P md ops Q S n L (f+1) listed a w:=by
 intro f;induction f with
 | zero =>
  intro listed a w inv _ hr hy hS H;have hun:=(mem_ready.1 hr).1;refine⟨fun h=>(by rw [h] at hr;cases hr),fun j hj=>?_⟩;have hjn:j<n:=by
   rcases Nat.lt_or_ge j n with h | h
   ·exact h
   ·exact absurd hj (tail_waits hs hc hn inv _ i rfl hin hun j h)
  refine⟨hjn,?_⟩;by_cases hji:j=i
  ·subst hji;exact hy.wpOp hi hS ⟨hS,H⟩
  ·have:=hdone _ _ _ H j (ready_mono hj hji);omega
 | succ f ih =>
  intro listed a w inv hfree hr hy hS H;have hun:=(mem_ready.1 hr).1;refine⟨fun h=>(by rw [h] at hr;cases hr),fun j hj=>?_⟩;have hjn:j<n:=by
   rcases Nat.lt_or_ge j n with h | h
   ·exact h
   ·exact absurd hj (tail_waits hs hc hn inv _ i rfl hin hun j h)
  refine⟨hjn,?_⟩;by_cases hji:j=i
  ·subst hji;exact hy.wpOp hi hS ⟨hS,H⟩
  ·have h1:=(H.2 j (ready_mono hj hji)).2;obtain⟨hjun,oj,hoj,hall⟩:=mem_ready.1 hj;have hnot:∀ e∈oj.after,Region.binds md e=true→e.on≠i:=fun e he hb heq=>by
    have h1:=hall e he hb;rw [heq,getD_both hun] at h1;cases h1
   have h2:=wpOp_putIf hoj (hfree j oj hoj hji hjun hnot) (fun cs b=>hsel i oi cs b hi) (fun cs b=>hsel j oj cs b hoj) hQ hy h1;have hfree':∀ k ok,ops[k]?=some ok→k≠i→(listed.setIfInBounds j true).getD k true=false →
     (∀ e∈ok.after,Region.binds md e=true→e.on≠i)→oi.apart ops ok=true:=fun k ok hk hki hun hno=>by
    refine hfree k ok hk hki ?_ hno;by_cases hjk:j=k
    ·subst hjk;exact hjun
    ·rw [getD_set_ne true hjk] at hun;exact hun
   refine wpOp_mono (fun a' w' h3=>⟨h3.2.1,ih (listed.setIfInBounds j true) a' w' (inv.set hj hjn) hfree' (ready_mono hr (Ne.symm hji)) h3.1 h3.2.1 ?_⟩) h2;rw [Array.setIfInBounds_comm _ _ hji];exact h3.2.2
def headB (md:Region.Mode) (ops:Array Oper) (n:Nat) (listed:Array Bool):Bool :=
 decide (listed.size=ops.size)&&((List.range ops.size).all fun j=>!listed.getD j false||match ops[j]? with
  | some oj=>oj.after.all fun e=>!Region.binds md e||listed.getD e.on false
  | none=>true)&&(List.range ops.size).all fun t=>decide (t<n)||!listed.getD t true
theorem headB_inv {listed:Array Bool}(h:headB md ops n listed=true):HeadInv md ops n listed:=by
 unfold headB at h;rw [Bool.and_eq_true,Bool.and_eq_true,decide_eq_true_iff,List.all_eq_true,List.all_eq_true] at h;obtain⟨⟨h1,h2⟩,h3⟩:=h;refine⟨h1,fun j oj hj hl e he hb=>?_,fun t ht ht'=>?_⟩
 ·have:=h2 j (List.mem_range.2 (Array.getElem?_eq_some_iff.1 hj).1);rw [hl,hj] at this;simp only [Bool.not_true,Bool.false_or,Array.all_eq_true'] at this;have:=this e he;rw [hb] at this;simpa using this
 ·have:=h3 t (List.mem_range.2 ht');rw [Bool.or_eq_true,decide_eq_true_iff] at this;rcases this with h | h
  ·omega
  ·simpa using h
def Tl (P:Program) (md:Region.Mode) (ops:Array Oper) (Q:Exit→Act→World→Prop) (n:Nat) (tail:List Oper) (listed:Array Bool) (a:Act) (w:World):Prop:=Region.seqB md ops tail.length n listed=true∧wpList P ops Q tail a w
def tailB (md:Region.Mode) (ops:Array Oper) (n:Nat):Bool:=Region.noSelect ops&&decide (n<ops.size)&&Region.sinkB md ops n&&Region.chainB md ops n
theorem wp_region_T (S:World→Prop){id:Nat}{a:Act}{w:World}{l:List Oper}(n:Nat) (hm:P.follows .mixedOrders=true) (hB:tailB .any l.toArray n=true)
  (h:wpAnyT P .any l.toArray Q S n (Tl P .any l.toArray Q n (l.drop n)) n (Array.replicate l.toArray.size false) a w.drew):(Code.region id l.toArray true).wp P Q a w:=by
 simp only [tailB,Bool.and_eq_true,decide_eq_true_eq] at hB;obtain⟨⟨⟨hsel,hn⟩,hs⟩,hc⟩:=hB;have hn':n<l.length:=by simpa using hn
 have hdl:(l.drop n).length=l.toArray.size-n:=by simp
 refine wp_region_any hm ?_;have:=wpAny_of_T (g:=l.toArray.size-n) (fun listed a' w' hL=>by
  have:=wpAny_of_seq (md:=.any) (Q':=Q) (l.drop n) n listed a' w' (fun j=>by simp [List.getElem?_drop]) hL.1 hL.2
  rwa [hdl] at this) _ _ _ _ h
 rw [show n+(l.toArray.size-n)=l.toArray.size by omega] at this;exact this
theorem take_T {f:Nat}{listed:Array Bool}{tmps:Array Value}{w:World}{tail:List Oper}(i d:Nat) (v:Value){oi:Oper}(hi:ops[i]?=some oi) (hd:oi.dst=some d)
  (hB:tailB md ops n=true) (hin:i<n) (hI:headB md ops n listed=true)
  (hf:Region.free md ops listed i=true) (hr:(Region.ready md ops listed).contains i=true)
  (hQ:∀ c a w,Q (.panic c) (a.put oi.dst v) w→Q (.panic c) a w) (hy:YieldsIf P ops S oi v { tmps:=tmps,defers:=[] }) (hS:S w)
  (h:wpAnyT P md ops Q S n (Tl P md ops Q n tail) f (listed.setIfInBounds i true) { tmps:=tmps.setIfInBounds d v,defers:=[] } w):wpAnyT P md ops Q S n (Tl P md ops Q n tail) (f+1) listed { tmps:=tmps,defers:=[] } w:=by
 simp only [tailB,Bool.and_eq_true,decide_eq_true_eq] at hB;obtain⟨⟨⟨hsel,hn⟩,hs⟩,hc⟩:=hB;refine wpAnyT_first hi (Region.noSelect_spec hsel) hs hc hn hin hQ (fun _ _ _ hL=>seqB_ready hL.1) _ _ _ _ (headB_inv hI) (Region.free_spec hi hf) (by simpa using hr) hy hS ?_;rw [hd];exact h
theorem only_T {f:Nat}{listed:Array Bool}{tmps:Array Value}{w:World}(i:Nat){oi:Oper}(hi:ops[i]?=some oi) (hr:Region.ready md ops listed=[i]) (hin:i<n) (hw:Region.wanted oi (yielded ops tmps)=true)
  (h:∀ K:Act→World→Prop,Shut (∀ a' w',S w'→wpAnyT P md ops Q S n L f (listed.setIfInBounds i true) a' w'→K a' w')→Oper.wp P oi { tmps:=tmps,defers:=[] } w K Q):wpAnyT P md ops Q S n L (f+1) listed { tmps:=tmps,defers:=[] } w:=by
 refine⟨fun h0=>(by rw [hr] at h0;cases h0),fun j hj=>?_⟩;rw [hr] at hj;have hji:j=i:=by simpa using hj
 subst hji;refine⟨hin,wpOp_step hi fun K' hK=>?_⟩;rw [if_pos hw];exact h K' (fun a w hS hW=>hK a w ⟨hS,hW⟩)
theorem only_H {f:Nat}{listed:Array Bool}{tmps:Array Value}{w:World}(i:Nat){oi:Oper}(hi:ops[i]?=some oi) (hr:Region.ready md ops listed=[i]) (hw:Region.wanted oi (yielded ops tmps)=true)
  (h:∀ K:Act→World→Prop,Shut (∀ a' w',S w'→wpAnyH P md ops Q S f (listed.setIfInBounds i true) a' w'→K a' w')→Oper.wp P oi { tmps:=tmps,defers:=[] } w K Q):wpAnyH P md ops Q S (f+1) listed { tmps:=tmps,defers:=[] } w:=by
 refine⟨fun h0=>(by rw [hr] at h0;cases h0),fun j hj=>?_⟩;rw [hr] at hj;have hji:j=i:=by simpa using hj
 subst hji;refine wpOp_step hi fun K' hK=>?_
 rw [if_pos hw];exact h K' (fun a w hS hW=>hK a w ⟨hS,hW⟩)
theorem done_T {listed:Array Bool}{a:Act}{w:World}{tail:List Oper}(hq:Region.seqB md ops tail.length n listed=true) (h:wpList P ops Q tail a w):wpAnyT P md ops Q S n (Tl P md ops Q n tail) 0 listed a w:=⟨hq,h⟩
end
end Go.Proofs.YtopepebcnaikiaaGreatDoor.Rg
namespace Go.Proofs.YtopepebcnaikiaaGreatDoor.Di
open Lib (hid)
open Go.ChangeShapes Go.WideShapes Go.ChangeAt Go.RowKit
open BigFrame
open Ar Rg
open Ino
open It (Itm)
variable {w w':World}{g bi be bn ba N bb:Nat}{it o1 o2 o3 rv pv m1 m2 m3 m4 v:Value}{s s':Vo}{ps:List Pt}
theorem infoP:(Tryz.prog.info? 133).map (fun i=>(i.zero,i.size,i.bytes))=some (some (.agg #[.int .u8 0,.int .u32 0,.string ByteArray.empty,.int .u32 0,.string ByteArray.empty]),5,48):=by kernel_rfl
def PA (bb:Nat) (w:World) (v:Value) (ps:List Pt):Prop:=w.ownsRow bb 133 5 v ps.length (ps.flatMap encP)
theorem PA.nil (bb:Nat) (w:World):PA bb w (.slice none 0 0) []:=World.ownsRow_nil _ _ _ _
theorem PA.off {X:Nat→Prop}(h:PA bb w v ps) (ho:Off X w w') (hX:∀ j,X j→j<bb):PA bb w' v ps:=by
 refine⟨h.1,?_⟩;rcases h.2 with h0 | ⟨q,cap,cur,rfl,hb,hq,rest⟩
 ·exact .inl h0
 ·have hlt:q<w.heap.size:=(Array.getElem?_eq_some_iff.1 hq).1;exact .inr ⟨q,cap,cur,rfl,hb,(ho.block q hlt fun hx=>by have:=hX q hx;omega).trans hq,rest⟩
theorem PA.go (h:PA bb w v ps) (hb:Below w.heap.size w w'):PA bb w' v ps:=h.off (Off.of_below (X:=fun _=>False) hb) (fun _ h=>h.elim)
theorem PA.ls (h:PA bb w v ps):∃ A c,v=.slice A ps.length c∧ps.length≤c∧c≤maxLen∧Ls encP 5 w w.heap.size A ps:=by
 rcases h.2 with ⟨rfl,h0⟩ | ⟨q,cap,cur,rfl,hb,hq,hn,hc,hcs,ht⟩
 ·have:ps=[]:=List.eq_nil_of_length_eq_zero h0;subst this;exact⟨_,_,rfl,Nat.le_refl _,Nat.zero_le _,Ls.nil⟩
 ·refine⟨_,_,rfl,hn,hc,fun i x hx=>⟨q,0,rfl,(Array.getElem?_eq_some_iff.1 hq).1,fun j u hu=>?_⟩⟩;rw [Nat.zero_add];have:=h.cells (g:=q) rfl _ _ (flat_get encP_len hx hu);rw [Ar.add_plain,Nat.zero_add] at this;exact this
theorem PA.own (h:PA bb w v ps) (k:Nat) (hk:v.ownBlock=some k):bb≤k∧k<w.heap.size:=h.lt k hk
theorem op_catP {o:Oper}{a:Act}{K:Act→World→Prop}{Q:Exit→Act→World→Prop}(h:PA bb w v ps) (hb:bb≤w.heap.size) (y:Pt) (q c:Nat) (hrow:w.heap[q]?=some (.cells (encP y).toArray 133 (0,0))) (hlen:ps.length+1≤1099511627776)
  (s x:Operand) (ho:o.op=.call { callee:=.builtin .append,args:=#[s,x],argTypes:=#[76,76] }) (hs:a.eval s=v) (hx:a.eval x=.slice (some ⟨q,0,none⟩) 1 c)
  (hK:∀ v' w',PA bb w' v' (ps++[y])→w.grownBy w' v.ownBlock→(v'.ownBlock=v.ownBlock∨v'.ownBlock=some w.heap.size)→K (a.put o.dst v') w'):Oper.wp Tryz.prog o a w K Q:=by
 obtain⟨i0,hi,hz0,hz1,hz2⟩:=info_parts infoP;obtain⟨v',w',hr,h2,h3,_,h5⟩:=run_append_own_at (P:=Tryz.prog) w bb 76 o.type 133 i0 _ 5 48 Tryz.underlying76 hi hz0 hz1 hz2 rfl (by decide) v ps.length (ps.flatMap encP) h ⟨q,0,none⟩ 1 c (encP y) rfl
  (fun j u hu=>by
   rw [Ar.add_plain,Nat.zero_add];exact (cell_of_row w q j (encP y).toArray 133 (0,0) hrow).trans (by rw [List.getElem?_toArray];exact hu)) (encP_one y) (by unfold maxLen;omega) (by omega) hb
 have hM':PA bb w' v' (ps++[y]):=by
  unfold PA;have e:(ps++[y]).flatMap encP=ps.flatMap encP++encP y:=by simp
  rw [List.length_append,e];exact h2
 unfold Oper.wp execOp;simp only [ho,List.map_toArray,List.map_cons,List.map_nil,hs,hx,resolve,invoke,builtin,Sem.run_bind,Sem.run_pure,Result.andThen_ok,hr];exact hK _ _ hM' h3 h5
theorem pts_snoc {L:List Itm}{i:Nat}{x:Itm}(h:L[i]?=some x):pts (L.take (i+1))=pts (L.take i)++[ptOf x]:=by
 unfold pts;rw [List.take_add_one,h,List.map_append];rfl
theorem all_snoc {L:List Itm}{i:Nat}{x:Itm}(h:L[i]?=some x) (h1:∀ y∈L.take i,okX y=true) (h2:okX x=true):∀ y∈L.take (i+1),okX y=true:=by
 intro y hy;rw [List.take_add_one,h] at hy;rcases List.mem_append.1 hy with h3 | h3
 ·exact h1 y h3
 ·obtain rfl:y=x:=by simpa using h3
  exact h2
theorem deI_lim (v:ByteArray) (h:v.size≤maxLen):(deI v).lim∧(deI v).T.size≤maxLen:=by
 unfold deI;split
 ·rename_i h1;exact⟨tkI_lim v,by have:=(okI_size h1.1).1;unfold maxLen;omega⟩
 ·exact⟨⟨by decide,by decide,by decide,by decide⟩,Nat.zero_le _⟩
def XG (g bi be bn ba j:Nat):Prop:=j=g∨XM bi be bn ba j
theorem Off.wide {X Y:Nat→Prop}(h:Off X w w') (hX:∀ j,X j→Y j):Off Y w w':=⟨h.os,h.tape,h.output,h.size,fun j hj hy=>h.block j hj fun hx=>hy (hX j hx)⟩
theorem off_set {X:Nat→Prop}(w:World) (a:Addr) (u:Value) (h:X a.block):Off X w (w.setCell a u):=by
 refine⟨rfl,rfl,rfl,by simp,fun j hj hx=>?_⟩;exact Below.heap_setCell w a u j fun e=>hx (by rw [e];exact h)
theorem VC.set5 (h:VC w g it o1 o2 o3 rv pv m1 m2 m3 m4) (u:Value):VC (w.setCell ⟨g,5,none⟩ u) g it o1 o2 o3 rv u m1 m2 m3 m4:=by
 unfold VC at h ⊢;simp [World.setCell,h,Array.getElem?_modify]
theorem VC.set4 (h:VC w g it o1 o2 o3 rv pv m1 m2 m3 m4) (u:Value):VC (w.setCell ⟨g,4,none⟩ u) g it o1 o2 o3 u pv m1 m2 m3 m4:=by
 unfold VC at h ⊢;simp [World.setCell,h,Array.getElem?_modify]
theorem VC.set6 (h:VC w g it o1 o2 o3 rv pv m1 m2 m3 m4) (u:Value):VC (w.setCell ⟨g,6,none⟩ u) g it o1 o2 o3 rv pv u m2 m3 m4:=by
 unfold VC at h ⊢;simp [World.setCell,h,Array.getElem?_modify]
theorem VC.set7 (h:VC w g it o1 o2 o3 rv pv m1 m2 m3 m4) (u:Value):VC (w.setCell ⟨g,7,none⟩ u) g it o1 o2 o3 rv pv m1 u m3 m4:=by
 unfold VC at h ⊢;simp [World.setCell,h,Array.getElem?_modify]
theorem VC.set8 (h:VC w g it o1 o2 o3 rv pv m1 m2 m3 m4) (u:Value):VC (w.setCell ⟨g,8,none⟩ u) g it o1 o2 o3 rv pv m1 m2 u m4:=by
 unfold VC at h ⊢;simp [World.setCell,h,Array.getElem?_modify]
theorem VC.set9 (h:VC w g it o1 o2 o3 rv pv m1 m2 m3 m4) (u:Value):VC (w.setCell ⟨g,9,none⟩ u) g it o1 o2 o3 rv pv m1 m2 m3 u:=by
 unfold VC at h ⊢;simp [World.setCell,h,Array.getElem?_modify]
theorem VC.fz (h:VC w g it o1 o2 o3 rv pv m1 m2 m3 m4) (i:Nat):w.frozen? ⟨g,i,none⟩=false:=frozen_of_row w g i _ _ h
def TaPost (g bi be bn ba bb:Nat) (it o1 o2 o3 rv:Value) (L:List Itm) (w:World) (e:Ending) (w':World):Prop :=
 ∃ pv,e=.returned (.bool (L.all okX))∧VC w' g it o1 o2 o3 rv pv (.map (some bi)) (.map (some be)) (.map (some bn)) (.map (some ba))∧(L.all okX=true→Ms w' bi be bn ba (3*L.length) (vo (pts L))∧PA bb w' pv (pts L))∧Off (XG g bi be bn ba) w w'
theorem takeAll_any (L:List Itm) (A:Option Addr) (n c:Nat) (hV:VW w g bi be bn ba 0 (.slice A n c) o1 o2 o3 rv (.slice none 0 0) vo0) (hn:n=L.length) (hm:n≤1390000) (hD:Ls It.enc 2 w g A L) (hsz:∀ x∈L,x.k.size≤48∧x.v.size≤160) :
  Calls Tryz.prog 54 #[.pointer (some ⟨g,0,none⟩)] w (TaPost g bi be bn ba w.heap.size (.slice A n c) o1 o2 o3 rv L w):=by
 have HD:=hid hD;have HN:=hid hn;have HSZ:=hid hsz;have HG:=hid (show ∀ j,XG g bi be bn ba j→j<w.heap.size from fun j hj=>by
  rcases hj with rfl | hj
  ·exact hV.c.lt
  ·exact hV.m.xlt j hj)
 have HO:=hid hV.o;have c0:=hV.c.cells.1;have HV:=hid hV;clear hD hn hsz hV
 go_enter Tryz.func54,Tryz.ntmps54
 go_wp2_with fail
 go_loopw [13] (fun v wr=>∃ (i:Nat) (pw:Value),i≤n∧v=.int .i64 i∧Hid (VW wr g bi be bn ba (3*i) (.slice A n c) o1 o2 o3 rv pw (vo (pts (L.take i))))∧Hid (PA w.heap.size wr pw (pts (L.take i)))∧Hid (∀ y∈L.take i,okX y=true)∧Hid (Off (XG g bi be bn ba) w wr)) (fun v _=>n-(intOf v).toNat)
 case atStart=>exact⟨0,_,Nat.zero_le _,by go_num,HV.out,PA.nil _ _,fun y hy=>(by cases hy),Off.refl _ _⟩
 case round =>
  obtain⟨i,pw,hi,rfl,hv,hp,ha,ho⟩:=hrel;have HV1:=hid (Hid.out hv);have HP1:=hid (Hid.out hp);have HA1:=hid (Hid.out ha);have HO1:=hid (Hid.out ho);clear hv hp ha ho c0 HV;by_cases hlt:i<n
  ·obtain⟨x,hx⟩:∃ x,L[i]?=some x:=⟨_,List.getElem?_eq_getElem (by rw [← HN.out];exact hlt)⟩;obtain⟨b,o,hAe,hbs,hr⟩:=HD.out i x hx;have HSX:=hid (HSZ.out x (List.mem_of_getElem? hx));have HPS:=hid (pts_snoc hx);have HAS:=hid (fun h2=>all_snoc hx HA1.out h2);have HMX:=hid (List.mem_of_getElem? hx);have hbw:b<w.heap.size:=by have:=HG.out g (.inl rfl);omega
   have hkb:wr.heap[b]?=w.heap[b]?:=HO1.out.block b hbw (fun hx=>by
    have:=HO.out;rcases hx with h | h | h | h | h<;>omega)
   have e0:wr.cell? ⟨b,o+i*2,none⟩=some (.string x.k):=(World.cell?_of_block (a:=⟨b,_,none⟩) hkb).trans (hr 0 _ rfl);have e1:wr.cell? ⟨b,o+i*2+1,none⟩=some (.string x.v):=(World.cell?_of_block (a:=⟨b,_,none⟩) hkb).trans (hr 1 _ rfl);clear hr hx hkb;subst hAe;have hal:Below wr.heap.size wr (wr.alloc (.cells #[.string x.k,.string x.v] 90)):=(Below.refl _ _).alloc (Nat.le_refl _) _;have HIT:=hid (heap_alloc_new wr (.cells #[.string x.k,.string x.v] 90));have HV2:=hid (HV1.out.go hal);have HP2:=hid (HP1.out.go hal);have HO2:=hid (HO1.out.trans (Off.of_below hal));have d0:(wr.alloc (.cells #[.string x.k,.string x.v] 90)).cell? ⟨wr.heap.size,0,none⟩=some (.string x.k):=by simp
   have hszI:(wr.alloc (.cells #[.string x.k,.string x.v] 90)).heap.size=wr.heap.size+1:=by simp
   have HZI:=hid hszI;have HO1L:=hid HO1.out.size;clear hal hszI HV1 HP1 HO1;have HPC:=hid (fun w=>parse_in x.k (by have:=HSX.out.1;unfold maxLen;omega) w);obtain⟨kk,hkk⟩:∃ kk,deK x.k=kk:=⟨_,rfl⟩;obtain⟨y,hy⟩:∃ y,deKE x.k=y:=⟨_,rfl⟩;rw [hkk,hy] at HPC;have HKL:=hid (show y=0→kk.lim∧kokK kk from fun h=>by
    have h2:=deK_ok (hy.trans h);rw [hkk] at h2;refine⟨h2.2.2,h2.2.2,?_⟩;have:=okK_size h2.1;unfold maxLen;omega)
   have HPT:=hid (show ptOf x=⟨kk,x.v⟩ by unfold ptOf;rw [hkk]);have HOX:=hid (show okX x=(decide (y=0)&&okP ⟨kk,x.v⟩) by unfold okX ptOf;rw [hkk,hy]);clear hkk hy;obtain⟨xk,xv⟩:=x;dsimp only at *;obtain⟨kK,I,Nm,C⟩:=kk;unfold vK at HPC;dsimp only at HPC
   go_wp2_with fail
   generalize wr.alloc (.cells #[.string xk,.string xv] 90)=W at *;refine (HPC.out W).mono ?_;rintro e w1 ⟨rfl,hb⟩;have hl0:wr.heap.size<W.heap.size:=by rw [HZI.out];omega
   have HV3:=hid (HV2.out.go hb);have HP3:=hid (HP2.out.go hb);have HO3:=hid (HO2.out.trans (Off.of_below hb));have HIT3:=hid (row_bel HIT.out hb hl0);have hl1:wr.heap.size<w1.heap.size:=Nat.lt_of_lt_of_le hl0 hb.size;have HLW:=hid (show w.heap.size≤wr.heap.size from HO1L.out);have HLX:=hid hl1;have HPL:=hid (fun k (hk:pw.ownBlock=some k)=>(HP3.out.own k hk).2);clear hb HV2 HP2 HO2 HIT d0 e0 e1 HZI HPC hl0;have hak:Below w1.heap.size w1 (w1.alloc (.cells #[.int .u8 kK,.int .u32 I,.string Nm,.int .u32 C] 99)):=(Below.refl _ _).alloc (Nat.le_refl _) _;have hzk:(w1.alloc (.cells #[.int .u8 kK,.int .u32 I,.string Nm,.int .u32 C] 99)).heap.size=w1.heap.size+1:=by simp
   have hap:Below (w1.heap.size+1) (w1.alloc (.cells #[.int .u8 kK,.int .u32 I,.string Nm,.int .u32 C] 99)) ((w1.alloc (.cells #[.int .u8 kK,.int .u32 I,.string Nm,.int .u32 C] 99)).alloc (.cells #[.int .u8 kK,.int .u32 I,.string Nm,.int .u32 C,.string xv] 133)):=(Below.refl _ _).alloc (by rw [hzk];exact Nat.le_refl _) _;have rk:=heap_alloc_new w1 (.cells #[.int .u8 kK,.int .u32 I,.string Nm,.int .u32 C] 99);have rp:((w1.alloc (.cells #[.int .u8 kK,.int .u32 I,.string Nm,.int .u32 C] 99)).alloc (.cells #[.int .u8 kK,.int .u32 I,.string Nm,.int .u32 C,.string xv] 133)).heap[w1.heap.size+1]?=some (.cells #[.int .u8 kK,.int .u32 I,.string Nm,.int .u32 C,.string xv] 133):=by have:=heap_alloc_new (w1.alloc (.cells #[.int .u8 kK,.int .u32 I,.string Nm,.int .u32 C] 99)) (.cells #[.int .u8 kK,.int .u32 I,.string Nm,.int .u32 C,.string xv] 133);rw [hzk] at this;exact this
   have ri:=row_bel HIT3.out hak hl1;have k0:(w1.alloc (.cells #[.int .u8 kK,.int .u32 I,.string Nm,.int .u32 C] 99)).cell? ⟨w1.heap.size,0,none⟩=some (.int .u8 kK):=cell_of_row _ _ 0 _ _ _ rk;have k1:(w1.alloc (.cells #[.int .u8 kK,.int .u32 I,.string Nm,.int .u32 C] 99)).cell? ⟨w1.heap.size,1,none⟩=some (.int .u32 I):=cell_of_row _ _ 1 _ _ _ rk;have k2:(w1.alloc (.cells #[.int .u8 kK,.int .u32 I,.string Nm,.int .u32 C] 99)).cell? ⟨w1.heap.size,2,none⟩=some (.string Nm):=cell_of_row _ _ 2 _ _ _ rk;have k3:(w1.alloc (.cells #[.int .u8 kK,.int .u32 I,.string Nm,.int .u32 C] 99)).cell? ⟨w1.heap.size,3,none⟩=some (.int .u32 C):=cell_of_row _ _ 3 _ _ _ rk;have i1:(w1.alloc (.cells #[.int .u8 kK,.int .u32 I,.string Nm,.int .u32 C] 99)).cell? ⟨wr.heap.size,1,none⟩=some (.string xv):=cell_of_row _ _ 1 _ _ _ ri;have p0:((w1.alloc (.cells #[.int .u8 kK,.int .u32 I,.string Nm,.int .u32 C] 99)).alloc (.cells #[.int .u8 kK,.int .u32 I,.string Nm,.int .u32 C,.string xv] 133)).cell? ⟨w1.heap.size+1,0,none⟩=some (.int .u8 kK):=cell_of_row _ _ 0 _ _ _ rp;have p1:((w1.alloc (.cells #[.int .u8 kK,.int .u32 I,.string Nm,.int .u32 C] 99)).alloc (.cells #[.int .u8 kK,.int .u32 I,.string Nm,.int .u32 C,.string xv] 133)).cell? ⟨w1.heap.size+1,1,none⟩=some (.int .u32 I):=cell_of_row _ _ 1 _ _ _ rp;have p2:((w1.alloc (.cells #[.int .u8 kK,.int .u32 I,.string Nm,.int .u32 C] 99)).alloc (.cells #[.int .u8 kK,.int .u32 I,.string Nm,.int .u32 C,.string xv] 133)).cell? ⟨w1.heap.size+1,2,none⟩=some (.string Nm):=cell_of_row _ _ 2 _ _ _ rp;have p3:((w1.alloc (.cells #[.int .u8 kK,.int .u32 I,.string Nm,.int .u32 C] 99)).alloc (.cells #[.int .u8 kK,.int .u32 I,.string Nm,.int .u32 C,.string xv] 133)).cell? ⟨w1.heap.size+1,3,none⟩=some (.int .u32 C):=cell_of_row _ _ 3 _ _ _ rp;have p4:((w1.alloc (.cells #[.int .u8 kK,.int .u32 I,.string Nm,.int .u32 C] 99)).alloc (.cells #[.int .u8 kK,.int .u32 I,.string Nm,.int .u32 C,.string xv] 133)).cell? ⟨w1.heap.size+1,4,none⟩=some (.string xv):=cell_of_row _ _ 4 _ _ _ rp;have hab:Below w1.heap.size w1 ((w1.alloc (.cells #[.int .u8 kK,.int .u32 I,.string Nm,.int .u32 C] 99)).alloc (.cells #[.int .u8 kK,.int .u32 I,.string Nm,.int .u32 C,.string xv] 133)):=hak.trans (hap.mono (Nat.le_succ _));have HV4:=hid (HV3.out.go hab);have HP4:=hid (HP3.out.go hab);have HO4:=hid (HO3.out.trans (Off.of_below hab));have HRP:=hid rp;have HZP:=hid (show ((w1.alloc (.cells #[.int .u8 kK,.int .u32 I,.string Nm,.int .u32 C] 99)).alloc (.cells #[.int .u8 kK,.int .u32 I,.string Nm,.int .u32 C,.string xv] 133)).heap.size=w1.heap.size+2 by simp);clear hak hap hab hzk rk rp ri HV3 HP3 HO3 HIT3;by_cases hy:y=0
   ·subst hy;have HCT:=hid (take_any (⟨⟨kK,I,Nm,C⟩,xv⟩:Pt) HV4.out (by unfold maxLen;omega) (HKL.out rfl).1 (HKL.out rfl).2 (by have:=HSX.out.2;unfold maxLen;dsimp only;omega) (deI_lim xv (by have:=HSX.out.2;unfold maxLen;omega)));obtain⟨q,hq⟩:∃ q,okP ⟨⟨kK,I,Nm,C⟩,xv⟩=q:=⟨_,rfl⟩;rw [hq] at HCT HOX;clear hq;unfold vP at HCT;dsimp only [encP] at HCT;cases q
    ·go_wp2_with (go_at_call 91;refine HCT.out.mono ?_;rintro e w2 ⟨rfl,hm2,ho2⟩;have HM2:=hid hm2;have HO5:=hid (HO4.out.trans (ho2.wide (fun _ h=>.inr h)));have HC5:=hid (HV4.out.c.keep (ho2.block g HV4.out.c.lt HV4.out.off));clear hm2 ho2)
     go_ret
     have hno:L.all okX=false:=by
      rw [Bool.eq_false_iff];intro h;have:=List.all_eq_true.1 h _ HMX.out;rw [HOX.out] at this;cases this
     exact⟨pw,by rw [hno];rfl,HC5.out,fun h=>by (rw [hno] at h;cases h),HO5.out⟩
    ·go_wp2_with (go_at_call 91;refine HCT.out.mono ?_;rintro e w2 ⟨rfl,hm2,ho2⟩;have HM2:=hid hm2;have HOM:=hid ho2;clear hm2 ho2)
     have HM3:=hid (show Ms w2 bi be bn ba (3*i+3) (vo (pts (L.take (i+1)))) by rw [HPS.out,vo_snoc,HPT.out];exact HM2.out);have HC3:=hid (HV4.out.c.keep (HOM.out.block g HV4.out.c.lt HV4.out.off));have HP5:=hid (HP4.out.off HOM.out (fun j hj=>HG.out j (.inr hj)));have HO5:=hid (HO4.out.trans (HOM.out.wide (fun _ h=>.inr h)));have HR5:=hid ((HOM.out.block (w1.heap.size+1) (by rw [HZP.out];omega) (fun hj=>by have h1:=HG.out _ (.inr hj);have h2:=HLW.out;have h3:=HLX.out;omega)).trans HRP.out);have HZ5:=hid (show w1.heap.size+1<w2.heap.size by have:=HOM.out.size;rw [HZP.out] at this;omega);have HPX:=hid (show pw.ownBlock=some (w1.heap.size+1)→False from fun e=>by have:=(HPL.out _ e);have h3:=HLX.out;omega);clear HV4 HP4 HO4 HM2 HOM HRP HCT HZP;generalize w1.heap.size+1=pb at *;refine wp_region_T (fun w':World=>VC w' g (.slice (some ⟨b,o,none⟩) n c) o1 o2 o3 rv pw (.map (some bi)) (.map (some be)) (.map (some bn)) (.map (some ba))∧w'.heap[pb]?=some (.cells #[.int .u8 kK,.int .u32 I,.string Nm,.int .u32 C,.string xv] 133 (0,0))) 8 (by kernel_rfl) (by kernel_rfl) ?_;have HM4:=hid (HM3.out.keep (w':=w2.drew) fun _ _=>rfl);have HC4:=hid (HC3.out.keep (w':=w2.drew) rfl);have HP6:=hid (HP5.out.go (Below.refl _ _).drew);have HO6:=hid (HO5.out.trans (Off.of_below (Below.refl _ _).drew));have HR6:=hid (show w2.drew.heap[pb]?=some (.cells #[.int .u8 kK,.int .u32 I,.string Nm,.int .u32 C,.string xv] 133 (0,0)) from HR5.out);have HZ6:=hid (show pb<w2.drew.heap.size from HZ5.out);clear HM3 HC3 HP5 HO5 HR5 HZ5;generalize w2.drew=w3 at *;have hS:VC w3 g (.slice (some ⟨b,o,none⟩) n c) o1 o2 o3 rv pw (.map (some bi)) (.map (some be)) (.map (some bn)) (.map (some ba))∧w3.heap[pb]?=some (.cells #[.int .u8 kK,.int .u32 I,.string Nm,.int .u32 C,.string xv] 133 (0,0)):=⟨HC4.out,HR6.out⟩;refine take_T 0 35 (.pointer (some ⟨g,0,none⟩)) rfl (by rfl) (by kernel_rfl) (by decide) (by kernel_rfl) (by kernel_rfl) (by kernel_rfl) (fun _ _ _ h=>h) (Or.inl ⟨by rfl,fun w' hSw=>by obtain⟨s0,s1⟩:=hSw;go_simp⟩) hS ?_;simp only [Gb2a,Gb2b,Gb2c];refine take_T 1 36 (.pointer (some ⟨g,0,none⟩)) rfl (by rfl) (by kernel_rfl) (by decide) (by kernel_rfl) (by kernel_rfl) (by kernel_rfl) (fun _ _ _ h=>h) (Or.inl ⟨by rfl,fun w' hSw=>by obtain⟨s0,s1⟩:=hSw;go_simp⟩) hS ?_;simp only [Gb2a,Gb2b,Gb2c];refine take_T 2 37 (.pointer (some ⟨g,0,none⟩)) rfl (by rfl) (by kernel_rfl) (by decide) (by kernel_rfl) (by kernel_rfl) (by kernel_rfl) (fun _ _ _ h=>h) (Or.inl ⟨by rfl,fun w' hSw=>by obtain⟨s0,s1⟩:=hSw;have c5:=s0.cells.2.2.1;go_simp⟩) hS ?_;simp only [Gb2a,Gb2b,Gb2c];refine take_T 3 38 (.pointer (some ⟨g,5,none⟩)) rfl (by rfl) (by kernel_rfl) (by decide) (by kernel_rfl) (by kernel_rfl) (by kernel_rfl) (fun _ _ _ h=>h) (Or.inl ⟨by rfl,fun w' hSw=>by obtain⟨s0,s1⟩:=hSw;go_simp⟩) hS ?_;simp only [Gb2a,Gb2b,Gb2c];refine take_T 4 39 (pw) rfl (by rfl) (by kernel_rfl) (by decide) (by kernel_rfl) (by kernel_rfl) (by kernel_rfl) (fun _ _ _ h=>h) (Or.inl ⟨by rfl,fun w' hSw=>by obtain⟨s0,s1⟩:=hSw;have c5:=s0.cells.2.2.1;go_simp⟩) hS ?_
     simp only [Gb2a,Gb2b,Gb2c];refine take_T 5 40 (.agg #[.int .u8 kK,.int .u32 I,.string Nm,.int .u32 C,.string xv]) rfl (by rfl) (by kernel_rfl) (by decide) (by kernel_rfl) (by kernel_rfl) (by kernel_rfl) (fun _ _ _ h=>h) (Or.inl ⟨by rfl,fun w' hSw=>by obtain⟨s0,s1⟩:=hSw;exact row_run 133 rfl pb rfl _ _ (0,0) _ s1 Tryz.underlying133 rfl (by kernel_rfl)⟩) hS ?_;simp only [Gb2a,Gb2b,Gb2c];refine only_T 6 rfl (by kernel_rfl) (by decide) (by rfl) (fun K hK=>?_)
     go_simp
     have hal:Below w3.heap.size w3 (w3.alloc (.cells #[.int .u8 kK,.int .u32 I,.string Nm,.int .u32 C,.string xv] 133)):=(Below.refl _ _).alloc (Nat.le_refl _) _;have HM7:=hid (HM4.out.keep (w':=w3.alloc (.cells #[.int .u8 kK,.int .u32 I,.string Nm,.int .u32 C,.string xv] 133)) fun j hj=>hal.block j (HM4.out.xlt j hj));have HC7:=hid (HC4.out.keep (hal.block g HC4.out.lt));have HP7:=hid (HP6.out.go hal);have HO7:=hid (HO6.out.trans (Off.of_below hal));have HR7:=hid (row_bel HR6.out hal HZ6.out);have HNB:=hid (heap_alloc_new w3 (.cells #[.int .u8 kK,.int .u32 I,.string Nm,.int .u32 C,.string xv] 133));have HZ7:=hid (show (w3.alloc (.cells #[.int .u8 kK,.int .u32 I,.string Nm,.int .u32 C,.string xv] 133)).heap.size=w3.heap.size+1 by simp);have hS2:VC (w3.alloc (.cells #[.int .u8 kK,.int .u32 I,.string Nm,.int .u32 C,.string xv] 133)) g (.slice (some ⟨b,o,none⟩) n c) o1 o2 o3 rv pw (.map (some bi)) (.map (some be)) (.map (some bn)) (.map (some ba))∧(w3.alloc (.cells #[.int .u8 kK,.int .u32 I,.string Nm,.int .u32 C,.string xv] 133)).heap[pb]?=some (.cells #[.int .u8 kK,.int .u32 I,.string Nm,.int .u32 C,.string xv] 133 (0,0)):=⟨HC7.out,HR7.out⟩;clear hal;refine hK.out _ _ hS2 ?_;clear hK K;try simp only [Act.put,Gb2a,Gb2b,Gb2c]
     clear hS;have hS:=hS2;clear hS2;refine only_T 7 rfl (by kernel_rfl) (by decide) (by rfl) (fun K hK=>?_);refine op_catP HP7.out (by have h1:=HO6.out.size;rw [HZ7.out];omega) ⟨⟨kK,I,Nm,C⟩,xv⟩ w3.heap.size 1 HNB.out (by unfold pts;rw [List.length_map,List.length_take];omega) _ _ rfl rfl rfl ?_;intro v6 w6 hp6 hg6 hat;obtain⟨A6,c6,rfl,_⟩:=hp6.ls;have hoff:∀ j,j<w3.heap.size→w.heap.size>j→w6.heap[j]?=(w3.alloc (.cells #[.int .u8 kK,.int .u32 I,.string Nm,.int .u32 C,.string xv] 133)).heap[j]?:=fun j h1 h2=>hg6.block j (by rw [HZ7.out];omega) (fun e=>by have:=(HP7.out.own j e.symm).1;omega)
     have HM8:=hid (HM7.out.keep (w':=w6) fun j hj=>hoff j (by have h1:=HO6.out.size;have h2:=HG.out j (.inr hj);omega) (HG.out j (.inr hj)));have HC8:=hid (HC7.out.keep (hoff g (by have h1:=HO6.out.size;have h2:=HG.out g (.inl rfl);omega) (HG.out g (.inl rfl))));have HP8:=hid (show PA w.heap.size w6 (.slice A6 _ c6) (pts (L.take (i+1))) by rw [HPS.out,HPT.out];exact hp6);have HO8:=hid (show Off (XG g bi be bn ba) w w6 from⟨hg6.os.trans HO7.out.os,hg6.tape.trans HO7.out.tape,hg6.output.trans HO7.out.output,Nat.le_trans HO7.out.size hg6.size,fun j hj hx=>(hoff j (Nat.lt_of_lt_of_le hj HO6.out.size) hj).trans (HO7.out.block j hj hx)⟩);have HR8:=hid ((hg6.block pb (by rw [HZ7.out];have:=HZ6.out;omega) (fun e=>HPX.out e.symm)).trans HR7.out);have hS2:VC w6 g (.slice (some ⟨b,o,none⟩) n c) o1 o2 o3 rv pw (.map (some bi)) (.map (some be)) (.map (some bn)) (.map (some ba))∧w6.heap[pb]?=some (.cells #[.int .u8 kK,.int .u32 I,.string Nm,.int .u32 C,.string xv] 133 (0,0)):=⟨HC8.out,HR8.out⟩;clear hp6 hg6 hat hoff HM4 HC4 HP6 HO6 HR6 HM7 HC7 HP7 HO7 HR7 HNB HZ7 HZ6;refine hK.out _ _ hS2 ?_;clear hK K;try simp only [Act.put,Gb2a,Gb2b,Gb2c]
     refine done_T (by kernel_rfl) ?_;simp only [List.drop_succ_cons,List.drop_zero];have f5:=HC8.out.fz 5;have c5:w6.cell? ⟨g,5,none⟩=some pw:=HC8.out.cells.2.2.1
     go_wp2_with fail
     have hoc:∀ u,Off (fun j=>j=g) w6 (w6.setCell ⟨g,5,none⟩ u):=fun u=>off_set w6 _ _ rfl
     have hp9:=HP8.out;rw [List.length_append,List.length_singleton] at hp9;have hok:okX ⟨xk,xv⟩=true:=HOX.out;exact⟨⟨i+1,_,by omega,by go_num,⟨HC8.out.set5 _,(HM8.out.keep fun j hj=>(hoc _).block j (HM8.out.xlt j hj) (fun e=>by have:=HO.out;unfold XM at hj;omega)).mono (show 3*i+3≤3*(i+1) by omega),HO.out⟩,hp9.off (hoc _) (fun j hj=>by rw [hj];exact HG.out g (.inl rfl)),HAS.out hok,HO8.out.trans ((hoc _).wide (Y:=XG g bi be bn ba) (fun j hj=>Or.inl hj))⟩,by simp [intOf]<;>omega⟩
   ·have hy1:(y==0)=false:=by rw [eq0];exact decide_eq_false hy
    have hy2:(y != 0)=true:=by rw [bne,hy1];rfl
    have HY:=hid hy
    go_wp2_with fail
    go_ret
    have hno:L.all okX=false:=by
     rw [Bool.eq_false_iff];intro h;have:=List.all_eq_true.1 h _ HMX.out;rw [HOX.out,decide_eq_false HY.out] at this;cases this
    exact⟨pw,by rw [hno];rfl,HV4.out.c,fun h=>by (rw [hno] at h;cases h),HO4.out⟩
  ·have hin:i=n:=by omega
   have HT:=hid (show L.take i=L by rw [hin,HN.out,List.take_length])
   go_wp2
   go_ret
   have hT:=HT.out;have hall:L.all okX=true:=List.all_eq_true.2 (by have:=HA1.out;rw [hT] at this;exact this);have hV9:=HV1.out;have hP9:=HP1.out;rw [hT] at hV9 hP9;exact⟨pw,by rw [hall];rfl,hV9.c,fun _=>⟨by have:=hV9.m;rwa [hin,HN.out] at this,hP9⟩,HO1.out⟩
end Go.Proofs.YtopepebcnaikiaaGreatDoor.Di
namespace Go.Proofs.YtopepebcnaikiaaGreatDoor.Di
open Lib (hid)
open Go.ChangeShapes Go.WideShapes Go.ChangeAt Go.RowKit
open BigFrame
open Ar Rg
open Ino
variable {w w':World}{g bi be bn ba N bb:Nat}{it o1 o2 o3 rv pv m1 m2 m3 m4 v:Value}{s s':Vo}{ps:List Pt}
theorem strays_any (p:Pt) (hV:VW w g bi be bn ba N it o1 o2 o3 rv pv s) (hl:p.k.lim) (hk:kokK p.k) (hs:p.v.size≤160) (hc:p.k.C<512) :
  Calls Tryz.prog 56 #[.pointer (some ⟨g,0,none⟩),vP p] w fun e w'=>e=.returned (.bool (stray s p))∧Below w.heap.size w w':=by
 obtain⟨⟨kK,I,Nm,C⟩,xv⟩:=p;have hI:I<4294967296:=hl.2.1;have HKK:=hid hk;have HSZ:=hid hs;obtain⟨q0,hq0⟩:∃ q0,stray s ⟨⟨kK,I,Nm,C⟩,xv⟩=q0:=⟨_,rfl⟩;rw [hq0];have HQ0:=hid hq0;unfold stray at HQ0;dsimp only at HQ0 hc;have hal0:Below w.heap.size w (w.alloc (.cells (encP ⟨⟨kK,I,Nm,C⟩,xv⟩).toArray 133)):=(Below.refl _ _).alloc (Nat.le_refl _) _;have HVa:=hid (hV.go hal0);have HBa:=hid hal0;have HRa:=hid (heap_alloc_new w (.cells (encP ⟨⟨kK,I,Nm,C⟩,xv⟩).toArray 133));clear hq0 hal0 hV hk hs hl;unfold vP;dsimp only [encP] at HVa HBa HRa ⊢;obtain⟨n,hn⟩:∃ n,(s.ino I).getD zIn=n:=⟨_,rfl⟩;obtain⟨th,hth⟩:∃ th,(s.ino I).isSome=th:=⟨_,rfl⟩;have HNN:=hid hn;have HTH:=hid hth;obtain⟨nK,nM,nL,nS,nT⟩:=n;have HLK:=hid (fun (wx:World) (h:Ms wx bi be bn ba N s)=>(show (Instr.lookup 77 (.map (some bi)) (.int .u32 (I:Int)) true).run Tryz.prog wx=.ok (.tuple #[.agg #[.int .u8 nK,.int .u16 nM,.int .u32 nL,.int .u32 nS,.string nT],.bool th]) wx by have:=lookI_ok h.i hI;rw [hn,hth] at this;exact this));clear hn hth;generalize hqq:w.heap.size=q at *
 go_enter Tryz.func56,Tryz.ntmps56
 go_wp2_with fail
 generalize w.alloc (.cells #[.int .u8 kK,.int .u32 I,.string Nm,.int .u32 C,.string xv] 133)=wa at *;have HQQ:=hid hqq;clear hqq;have HVda:=hid (HVa.out.drew);have HRda:=hid (show wa.drew.heap[q]?=some (.cells #[.int .u8 kK,.int .u32 I,.string Nm,.int .u32 C,.string xv] 133 (0,0)) from HRa.out);have HBda:=hid (HBa.out.drew);refine wp_region_held_drew (S:=fun w':World=>VC w' g it o1 o2 o3 rv pv (.map (some bi)) (.map (some be)) (.map (some bn)) (.map (some ba))∧Ms w' bi be bn ba N s∧w'.heap[q]?=some (.cells #[.int .u8 kK,.int .u32 I,.string Nm,.int .u32 C,.string xv] 133 (0,0))) (by kernel_rfl) ⟨HVda.out.c,HVda.out.m,HRda.out⟩ (fun hHeld=>?_);clear hHeld HVa HRa HBa;generalize wa.drew=wad at *;have hS:VC wad g it o1 o2 o3 rv pv (.map (some bi)) (.map (some be)) (.map (some bn)) (.map (some ba))∧Ms wad bi be bn ba N s∧wad.heap[q]?=some (.cells #[.int .u8 kK,.int .u32 I,.string Nm,.int .u32 C,.string xv] 133 (0,0)):=⟨HVda.out.c,HVda.out.m,HRda.out⟩;refine take_at 0 10 (.pointer (some ⟨g,0,none⟩)) rfl (by rfl) (by kernel_rfl) (by kernel_rfl) (by kernel_rfl) (fun _ _ _ h=>h) (Or.inl ⟨by rfl,fun w' hSw=>by obtain⟨s0,s1,s2⟩:=hSw;go_simp⟩) hS ?_;simp only [Gb2a,Gb2b,Gb2c];refine take_at 1 11 (.pointer (some ⟨g,0,none⟩)) rfl (by rfl) (by kernel_rfl) (by kernel_rfl) (by kernel_rfl) (fun _ _ _ h=>h) (Or.inl ⟨by rfl,fun w' hSw=>by obtain⟨s0,s1,s2⟩:=hSw;have c6:=s0.cells.2.2.2.1;go_simp⟩) hS ?_;simp only [Gb2a,Gb2b,Gb2c];refine take_at 2 12 (.pointer (some ⟨g,6,none⟩)) rfl (by rfl) (by kernel_rfl) (by kernel_rfl) (by kernel_rfl) (fun _ _ _ h=>h) (Or.inl ⟨by rfl,fun w' hSw=>by obtain⟨s0,s1,s2⟩:=hSw;go_simp⟩) hS ?_;simp only [Gb2a,Gb2b,Gb2c];refine take_at 3 13 (.map (some bi)) rfl (by rfl) (by kernel_rfl) (by kernel_rfl) (by kernel_rfl) (fun _ _ _ h=>h) (Or.inl ⟨by rfl,fun w' hSw=>by obtain⟨s0,s1,s2⟩:=hSw;have c6:=s0.cells.2.2.2.1;go_simp⟩) hS ?_;simp only [Gb2a,Gb2b,Gb2c];refine take_at 4 14 (.pointer (some ⟨q,0,none⟩)) rfl (by rfl) (by kernel_rfl) (by kernel_rfl) (by kernel_rfl) (fun _ _ _ h=>h) (Or.inl ⟨by rfl,fun w' hSw=>by obtain⟨s0,s1,s2⟩:=hSw;go_simp⟩) hS ?_;simp only [Gb2a,Gb2b,Gb2c];refine take_at 5 15 (.pointer (some ⟨q,1,none⟩)) rfl (by rfl) (by kernel_rfl) (by kernel_rfl) (by kernel_rfl) (fun _ _ _ h=>h) (Or.inl ⟨by rfl,fun w' hSw=>by obtain⟨s0,s1,s2⟩:=hSw;go_simp⟩) hS ?_;simp only [Gb2a,Gb2b,Gb2c];refine take_at 6 16 (.int .u32 I) rfl (by rfl) (by kernel_rfl) (by kernel_rfl) (by kernel_rfl) (fun _ _ _ h=>h) (Or.inl ⟨by rfl,fun w' hSw=>by obtain⟨s0,s1,s2⟩:=hSw;have c1:w'.cell? ⟨q,1,none⟩=some (.int .u32 I):=cell_of_row _ _ 1 _ _ _ s2;go_simp⟩) hS ?_;simp only [Gb2a,Gb2b,Gb2c];refine take_at 7 17 (.tuple #[.agg #[.int .u8 nK,.int .u16 nM,.int .u32 nL,.int .u32 nS,.string nT],.bool th]) rfl (by rfl) (by kernel_rfl) (by kernel_rfl) (by kernel_rfl) (fun _ _ _ h=>h) (Or.inl ⟨by rfl,fun w' hSw=>by obtain⟨s0,s1,s2⟩:=hSw;have hlk:=HLK.out _ s1;go_simp⟩) hS ?_;simp only [Gb2a,Gb2b,Gb2c];refine take_at 8 9 (.tuple #[.agg #[.int .u8 nK,.int .u16 nM,.int .u32 nL,.int .u32 nS,.string nT],.bool th]) rfl (by rfl) (by kernel_rfl) (by kernel_rfl) (by kernel_rfl) (fun _ _ _ h=>h) (Or.inl ⟨by rfl,fun w' hSw=>by obtain⟨s0,s1,s2⟩:=hSw;go_simp⟩) hS ?_
 simp only [Gb2a,Gb2b,Gb2c];refine take_at 9 18 (.agg #[.int .u8 nK,.int .u16 nM,.int .u32 nL,.int .u32 nS,.string nT]) rfl (by rfl) (by kernel_rfl) (by kernel_rfl) (by kernel_rfl) (fun _ _ _ h=>h) (Or.inl ⟨by rfl,fun w' hSw=>by obtain⟨s0,s1,s2⟩:=hSw;go_simp⟩) hS ?_;simp only [Gb2a,Gb2b,Gb2c];refine take_at 10 19 (.bool th) rfl (by rfl) (by kernel_rfl) (by kernel_rfl) (by kernel_rfl) (fun _ _ _ h=>h) (Or.inl ⟨by rfl,fun w' hSw=>by obtain⟨s0,s1,s2⟩:=hSw;go_simp⟩) hS ?_;simp only [Gb2a,Gb2b,Gb2c];refine only_H 11 rfl (by kernel_rfl) (by rfl) (fun K hK=>?_)
 go_simp
 have hal:Below wad.heap.size wad (wad.alloc (.cells #[.int .u8 0,.int .u16 0,.int .u32 0,.int .u32 0,.string ⟨#[]⟩] 35)):=(Below.refl _ _).alloc (Nat.le_refl _) _;have hva:=HVda.out.go hal;have hra:=row_bel HRda.out hal (Array.getElem?_eq_some_iff.1 HRda.out).1;have hnew:=heap_alloc_new wad (.cells #[.int .u8 0,.int .u16 0,.int .u32 0,.int .u32 0,.string ⟨#[]⟩] 35);refine hK.out _ _ ⟨hva.c,hva.m,hra⟩ ?_;clear hK K;try simp only [Act.put,Gb2a,Gb2b,Gb2c]
 refine only_H 12 rfl (by kernel_rfl) (by rfl) (fun K hK=>?_);refine wp_store_row 35 (.tmp 5) (.tmp 18) rfl wad.heap.size #[.int .u8 nK,.int .u16 nM,.int .u32 nL,.int .u32 nS,.string nT] rfl rfl 35 #[.int .u8 0,.int .u16 0,.int .u32 0,.int .u32 0,.string ⟨#[]⟩] hnew (by kernel_rfl) rfl (row5 _ _ _ _ _) ?_;have hset:Below wad.heap.size wad ((wad.alloc (.cells #[.int .u8 0,.int .u16 0,.int .u32 0,.int .u32 0,.string ⟨#[]⟩] 35)).setRow wad.heap.size #[.int .u8 nK,.int .u16 nM,.int .u32 nL,.int .u32 nS,.string nT]):=below_setRow hal (Nat.le_refl _) _;have hrn:=setRow_heap' (cs:=#[.int .u8 nK,.int .u16 nM,.int .u32 nL,.int .u32 nS,.string nT]) hnew;have HVwb:=hid (HVda.out.go hset);have HRwb:=hid (row_bel HRda.out hset (Array.getElem?_eq_some_iff.1 HRda.out).1);have HBwb:=hid (HBda.out.trans (hset.mono (by have h1:=HBda.out.size;have h2:=HQQ.out;omega)));have HNwb:=hid hrn;have hS3:_∧_∧_:=⟨HVwb.out.c,HVwb.out.m,HRwb.out⟩;refine hK.out _ _ hS3 ?_;clear hK K hal hva hra hnew hset hrn hS HVda HRda HBda;try simp only [Act.put,Gb2a,Gb2b,Gb2c]
 refine take_at 13 6 (.bool th) rfl (by rfl) (by kernel_rfl) (by kernel_rfl) (by kernel_rfl) (fun _ _ _ h=>h) (Or.inl ⟨by rfl,fun w' hSw=>by obtain⟨s0,s1,s2⟩:=hSw;go_simp⟩) hS3 ?_;simp only [Gb2a,Gb2b,Gb2c];refine wpAnyH_done (by kernel_rfl) ?_ _;clear hS3;generalize (wad.alloc (.cells #[.int .u8 0,.int .u16 0,.int .u32 0,.int .u32 0,.string ⟨#[]⟩] 35)).setRow wad.heap.size #[.int .u8 nK,.int .u16 nM,.int .u32 nL,.int .u32 nS,.string nT]=wb at *;generalize wad.heap.size=nb at *;cases th
 ·have HE:=hid (show true=q0 by
   rw [← HQ0.out];cases e:s.ino I with
   | none=>rfl
   | some m=>have:=HTH.out;rw [e] at this;cases this)
  obtain rfl:=HE.out
  go_wp2_with fail
  go_ret
  exact⟨rfl,HBwb.out⟩
 ·have HIN:=hid (show s.ino I=some ⟨nK,nM,nL,nS,nT⟩ by
   cases e:s.ino I with
   | none=>have:=HTH.out;rw [e] at this;cases this
   | some m=>have:=HNN.out;rw [e] at this;rw [← this];rfl)
  have hq1:=HQ0.out;rw [HIN.out] at hq1;dsimp only at hq1;have HQ1:=hid hq1;have HNL:=hid (HVwb.out.m.ok.ino I _ HIN.out).1;clear hq1 HQ0 HNN HTH HLK;have p0:wb.cell? ⟨q,0,none⟩=some (.int .u8 kK):=cell_of_row _ _ 0 _ _ _ HRwb.out;by_cases k1:kK=1
  ·subst k1;have hq2:=HQ1.out;rw [if_pos rfl] at hq2;have HQ2:=hid hq2;have p1:wb.cell? ⟨q,1,none⟩=some (.int .u32 I):=cell_of_row _ _ 1 _ _ _ HRwb.out;have n2:wb.cell? ⟨nb,2,none⟩=some (.int .u32 nL):=cell_of_row _ _ 2 _ _ _ HNwb.out;have c8:wb.cell? ⟨g,8,none⟩=some (.map (some bn)):=HVwb.out.c.cells.2.2.2.2.2.1;obtain⟨F,hF,hFe⟩:=HVwb.out.m.n;have hlk:=lookN_d hF hI;rw [← hFe I] at hlk;have HNM:=hid (HVwb.out.m.ok.nmd I);clear hq2 HQ1 hF hFe F;by_cases i1:I=1
   ·have e1:((I:Int) != 1)=false:=by rw [bne,eqz1 (decide_eq_true i1)];rfl
    have HE:=hid (show false=q0 by rw [← HQ2.out,i1];rfl);obtain rfl:=HE.out;clear i1
    go_wp2_with fail
    go_quiet (fail)
    have HB9:=hid (It.below_drewN HBwb.out nq)
    go_wp2
    go_ret
    exact⟨rfl,HB9.out⟩
   ·have e1:((I:Int) != 1)=true:=by rw [bne,eqz1 (decide_eq_false i1)];rfl
    have HE:=hid (show decide (s.nmd I≠nL)=q0 by rw [← HQ2.out,decide_eq_true i1,Bool.true_and]);have HE2:=hid (show (((s.nmd I:Nat):Int) != (nL:Int))=q0 by rw [← HE.out,bne,eqz rfl];simp);clear i1 HE
    go_wp2_with fail
    go_still_tail 17,(by kernel_rfl)
    have HB9:=hid HBwb.out.drew;change wpList _ _ _ _ _ wb.drew;generalize wb.drew=wb9 at *
    go_wp2
    go_ret
    exact⟨by rw [← HE2.out];rfl,HB9.out⟩
  ·have g1:((kK:Int)==1)=false:=eqz1 (decide_eq_false k1);by_cases k2:kK=2
   ·subst k2;have hq2:=HQ1.out;rw [if_neg (by decide),if_pos rfl] at hq2;have HQ2:=hid hq2;have HKY:=hid HKK.out;obtain⟨j,hj⟩:∃ j,(s.ent ⟨2,I,Nm,C⟩).getD 0=j:=⟨_,rfl⟩;have HJ:=hid hj;have hjl:j<4294967296:=by
     rw [← hj];cases e:s.ent ⟨2,I,Nm,C⟩ with
     | none=>exact (by decide:(0:Nat)<4294967296)
     | some c=>exact HVwb.out.m.ok.ent _ _ e
    have HLE:=hid (fun (wx:World) (h:Ms wx bi be bn ba N s)=>(show (Instr.lookup 78 (.map (some be)) (.agg #[.int .u8 2,.int .u32 I,.string Nm,.int .u32 C]) false).run Tryz.prog wx=.ok (.int .u32 (j:Int)) wx by have:=lookE h.e HKY.out;rw [hj] at this;exact this));obtain⟨m,hm⟩:∃ m,(s.ino j).getD zIn=m:=⟨_,rfl⟩;obtain⟨th,hth⟩:∃ th,(s.ino j).isSome=th:=⟨_,rfl⟩;obtain⟨mK,mM,mL,mS,mT⟩:=m;have HLJ:=hid (fun (wx:World) (h:Ms wx bi be bn ba N s)=>(show (Instr.lookup 77 (.map (some bi)) (.int .u32 (j:Int)) true).run Tryz.prog wx=.ok (.tuple #[.agg #[.int .u8 mK,.int .u16 mM,.int .u32 mL,.int .u32 mS,.string mT],.bool th]) wx by have:=lookI_ok h.i hjl;rw [hm,hth] at this;exact this));rw [hj] at hq2;have HQ3:=hid (show (decide (nK≠1)||!th)=q0 by rw [← hq2,← hth];cases s.ino j<;>rfl);have HNR:=hid HNwb.out;clear hq2 HQ1 HQ2 hj hm hth g1;have hnl:nb<wb.heap.size:=(Array.getElem?_eq_some_iff.1 HNwb.out).1
    go_wp2_with fail
    have HNd:=hid (show wb.drew.heap[nb]?=some (.cells #[.int .u8 nK,.int .u16 nM,.int .u32 nL,.int .u32 nS,.string nT] 35 (0,0)) from HNwb.out);clear HNwb HNR p0;have HVdwb:=hid (HVwb.out.drew);have HRdwb:=hid (show wb.drew.heap[q]?=some (.cells #[.int .u8 2,.int .u32 I,.string Nm,.int .u32 C,.string xv] 133 (0,0)) from HRwb.out);have HBdwb:=hid (HBwb.out.drew);refine wp_region_held_drew (S:=fun w':World=>VC w' g it o1 o2 o3 rv pv (.map (some bi)) (.map (some be)) (.map (some bn)) (.map (some ba))∧Ms w' bi be bn ba N s∧w'.heap[q]?=some (.cells #[.int .u8 2,.int .u32 I,.string Nm,.int .u32 C,.string xv] 133 (0,0))) (by kernel_rfl) ⟨HVdwb.out.c,HVdwb.out.m,HRdwb.out⟩ (fun hHeld=>?_);clear hHeld HVwb HRwb HBwb;generalize wb.drew=wbd at *;have hS:VC wbd g it o1 o2 o3 rv pv (.map (some bi)) (.map (some be)) (.map (some bn)) (.map (some ba))∧Ms wbd bi be bn ba N s∧wbd.heap[q]?=some (.cells #[.int .u8 2,.int .u32 I,.string Nm,.int .u32 C,.string xv] 133 (0,0)):=⟨HVdwb.out.c,HVdwb.out.m,HRdwb.out⟩;refine take_at 0 47 (.pointer (some ⟨g,0,none⟩)) rfl (by rfl) (by kernel_rfl) (by kernel_rfl) (by kernel_rfl) (fun _ _ _ h=>h) (Or.inl ⟨by rfl,fun w' hSw=>by obtain⟨s0,s1,s2⟩:=hSw;go_simp⟩) hS ?_;simp only [Gb2a,Gb2b,Gb2c];refine take_at 1 48 (.pointer (some ⟨g,0,none⟩)) rfl (by rfl) (by kernel_rfl) (by kernel_rfl) (by kernel_rfl) (fun _ _ _ h=>h) (Or.inl ⟨by rfl,fun w' hSw=>by obtain⟨s0,s1,s2⟩:=hSw;have c6:=s0.cells.2.2.2.1;go_simp⟩) hS ?_;simp only [Gb2a,Gb2b,Gb2c];refine take_at 2 49 (.pointer (some ⟨g,6,none⟩)) rfl (by rfl) (by kernel_rfl) (by kernel_rfl) (by kernel_rfl) (fun _ _ _ h=>h) (Or.inl ⟨by rfl,fun w' hSw=>by obtain⟨s0,s1,s2⟩:=hSw;go_simp⟩) hS ?_;simp only [Gb2a,Gb2b,Gb2c];refine take_at 3 50 (.map (some bi)) rfl (by rfl) (by kernel_rfl) (by kernel_rfl) (by kernel_rfl) (fun _ _ _ h=>h) (Or.inl ⟨by rfl,fun w' hSw=>by obtain⟨s0,s1,s2⟩:=hSw;have c6:=s0.cells.2.2.2.1;go_simp⟩) hS ?_;simp only [Gb2a,Gb2b,Gb2c];refine take_at 4 51 (.pointer (some ⟨g,0,none⟩)) rfl (by rfl) (by kernel_rfl) (by kernel_rfl) (by kernel_rfl) (fun _ _ _ h=>h) (Or.inl ⟨by rfl,fun w' hSw=>by obtain⟨s0,s1,s2⟩:=hSw;go_simp⟩) hS ?_;simp only [Gb2a,Gb2b,Gb2c];refine take_at 5 52 (.pointer (some ⟨g,0,none⟩)) rfl (by rfl) (by kernel_rfl) (by kernel_rfl) (by kernel_rfl) (fun _ _ _ h=>h) (Or.inl ⟨by rfl,fun w' hSw=>by obtain⟨s0,s1,s2⟩:=hSw;have c6:=s0.cells.2.2.2.1;go_simp⟩) hS ?_;simp only [Gb2a,Gb2b,Gb2c];refine take_at 6 53 (.pointer (some ⟨g,7,none⟩)) rfl (by rfl) (by kernel_rfl) (by kernel_rfl) (by kernel_rfl) (fun _ _ _ h=>h) (Or.inl ⟨by rfl,fun w' hSw=>by obtain⟨s0,s1,s2⟩:=hSw;go_simp⟩) hS ?_;simp only [Gb2a,Gb2b,Gb2c];refine take_at 7 54 (.map (some be)) rfl (by rfl) (by kernel_rfl) (by kernel_rfl) (by kernel_rfl) (fun _ _ _ h=>h) (Or.inl ⟨by rfl,fun w' hSw=>by obtain⟨s0,s1,s2⟩:=hSw;have c7:=s0.cells.2.2.2.2.1;go_simp⟩) hS ?_;simp only [Gb2a,Gb2b,Gb2c];refine take_at 8 55 (.pointer (some ⟨q,0,none⟩)) rfl (by rfl) (by kernel_rfl) (by kernel_rfl) (by kernel_rfl) (fun _ _ _ h=>h) (Or.inl ⟨by rfl,fun w' hSw=>by obtain⟨s0,s1,s2⟩:=hSw;go_simp⟩) hS ?_
    simp only [Gb2a,Gb2b,Gb2c];refine take_at 9 56 (.agg #[.int .u8 2,.int .u32 I,.string Nm,.int .u32 C]) rfl (by rfl) (by kernel_rfl) (by kernel_rfl) (by kernel_rfl) (fun _ _ _ h=>h) (Or.inl ⟨by rfl,fun w' hSw=>by obtain⟨s0,s1,s2⟩:=hSw;have c0:w'.cell? ⟨q,0,none⟩=some (.int .u8 2):=cell_of_row _ _ 0 _ _ _ s2;have c1:w'.cell? ⟨q,1,none⟩=some (.int .u32 I):=cell_of_row _ _ 1 _ _ _ s2;have c2:w'.cell? ⟨q,2,none⟩=some (.string Nm):=cell_of_row _ _ 2 _ _ _ s2;have c3:w'.cell? ⟨q,3,none⟩=some (.int .u32 C):=cell_of_row _ _ 3 _ _ _ s2;go_simp⟩) hS ?_;simp only [Gb2a,Gb2b,Gb2c];refine take_at 10 57 (.int .u32 (j:Int)) rfl (by rfl) (by kernel_rfl) (by kernel_rfl) (by kernel_rfl) (fun _ _ _ h=>h) (Or.inl ⟨by rfl,fun w' hSw=>by obtain⟨s0,s1,s2⟩:=hSw;have hlk:=HLE.out _ s1;go_simp⟩) hS ?_;simp only [Gb2a,Gb2b,Gb2c];refine take_at 11 58 (.tuple #[.agg #[.int .u8 mK,.int .u16 mM,.int .u32 mL,.int .u32 mS,.string mT],.bool th]) rfl (by rfl) (by kernel_rfl) (by kernel_rfl) (by kernel_rfl) (fun _ _ _ h=>h) (Or.inl ⟨by rfl,fun w' hSw=>by obtain⟨s0,s1,s2⟩:=hSw;have hlk:=HLJ.out _ s1;go_simp⟩) hS ?_;simp only [Gb2a,Gb2b,Gb2c];refine take_at 12 46 (.tuple #[.agg #[.int .u8 mK,.int .u16 mM,.int .u32 mL,.int .u32 mS,.string mT],.bool th]) rfl (by rfl) (by kernel_rfl) (by kernel_rfl) (by kernel_rfl) (fun _ _ _ h=>h) (Or.inl ⟨by rfl,fun w' hSw=>by obtain⟨s0,s1,s2⟩:=hSw;go_simp⟩) hS ?_;simp only [Gb2a,Gb2b,Gb2c];refine take_at 13 59 (.agg #[.int .u8 mK,.int .u16 mM,.int .u32 mL,.int .u32 mS,.string mT]) rfl (by rfl) (by kernel_rfl) (by kernel_rfl) (by kernel_rfl) (fun _ _ _ h=>h) (Or.inl ⟨by rfl,fun w' hSw=>by obtain⟨s0,s1,s2⟩:=hSw;go_simp⟩) hS ?_;simp only [Gb2a,Gb2b,Gb2c];refine take_at 14 60 (.bool th) rfl (by rfl) (by kernel_rfl) (by kernel_rfl) (by kernel_rfl) (fun _ _ _ h=>h) (Or.inl ⟨by rfl,fun w' hSw=>by obtain⟨s0,s1,s2⟩:=hSw;go_simp⟩) hS ?_;simp only [Gb2a,Gb2b,Gb2c];refine only_H 15 rfl (by kernel_rfl) (by rfl) (fun K hK=>?_)
    go_simp
    have hal:Below wbd.heap.size wbd (wbd.alloc (.cells #[.int .u8 0,.int .u16 0,.int .u32 0,.int .u32 0,.string ⟨#[]⟩] 35)):=(Below.refl _ _).alloc (Nat.le_refl _) _;have hva:=HVdwb.out.go hal;have hra:=row_bel HRdwb.out hal (Array.getElem?_eq_some_iff.1 HRdwb.out).1;have hnew:=heap_alloc_new wbd (.cells #[.int .u8 0,.int .u16 0,.int .u32 0,.int .u32 0,.string ⟨#[]⟩] 35);refine hK.out _ _ ⟨hva.c,hva.m,hra⟩ ?_;clear hK K;try simp only [Act.put,Gb2a,Gb2b,Gb2c]
    refine only_H 16 rfl (by kernel_rfl) (by rfl) (fun K hK=>?_);refine wp_store_row 35 (.tmp 7) (.tmp 59) rfl wbd.heap.size #[.int .u8 mK,.int .u16 mM,.int .u32 mL,.int .u32 mS,.string mT] rfl rfl 35 #[.int .u8 0,.int .u16 0,.int .u32 0,.int .u32 0,.string ⟨#[]⟩] hnew (by kernel_rfl) rfl (row5 _ _ _ _ _) ?_;have hset:Below wbd.heap.size wbd ((wbd.alloc (.cells #[.int .u8 0,.int .u16 0,.int .u32 0,.int .u32 0,.string ⟨#[]⟩] 35)).setRow wbd.heap.size #[.int .u8 mK,.int .u16 mM,.int .u32 mL,.int .u32 mS,.string mT]):=below_setRow hal (Nat.le_refl _) _;have hrn:=setRow_heap' (cs:=#[.int .u8 mK,.int .u16 mM,.int .u32 mL,.int .u32 mS,.string mT]) hnew;have HNc0:=hid (row_bel HNd.out hset (Array.getElem?_eq_some_iff.1 HNd.out).1);have HVwc:=hid (HVdwb.out.go hset);have HRwc:=hid (row_bel HRdwb.out hset (Array.getElem?_eq_some_iff.1 HRdwb.out).1);have HBwc:=hid (HBdwb.out.trans (hset.mono (by have h1:=HBdwb.out.size;have h2:=HQQ.out;omega)));have HNwc:=hid hrn;have hS3:_∧_∧_:=⟨HVwc.out.c,HVwc.out.m,HRwc.out⟩;refine hK.out _ _ hS3 ?_;clear hK K hal hva hra hnew hset hrn hS HVdwb HRdwb HBdwb;try simp only [Act.put,Gb2a,Gb2b,Gb2c]
    refine take_at 17 8 (.bool th) rfl (by rfl) (by kernel_rfl) (by kernel_rfl) (by kernel_rfl) (fun _ _ _ h=>h) (Or.inl ⟨by rfl,fun w' hSw=>by obtain⟨s0,s1,s2⟩:=hSw;go_simp⟩) hS3 ?_;simp only [Gb2a,Gb2b,Gb2c];refine wpAnyH_done (by kernel_rfl) ?_ _;clear hS3;have HNc:=hid HNc0.out;clear HNc0 HNd;generalize (wbd.alloc (.cells #[.int .u8 0,.int .u16 0,.int .u32 0,.int .u32 0,.string ⟨#[]⟩] 35)).setRow wbd.heap.size #[.int .u8 mK,.int .u16 mM,.int .u32 mL,.int .u32 mS,.string mT]=wc at *;generalize wbd.heap.size=nc at *;clear HLE HLJ;have n0:wc.cell? ⟨nb,0,none⟩=some (.int .u8 nK):=cell_of_row _ _ 0 _ _ _ HNc.out;by_cases i1:nK=1
    ·have e1:((nK:Int) != 1)=false:=by rw [bne,eqz1 (decide_eq_true i1)];rfl
     have HE:=hid (show (!th)=q0 by rw [← HQ3.out,i1];rfl);clear i1;cases th
     ·go_wp2_with fail
      go_ret
      exact⟨by rw [← HE.out];rfl,HBwc.out⟩
     ·go_wp2_with fail
      go_ret
      exact⟨by rw [← HE.out];rfl,HBwc.out⟩
    ·have e1:((nK:Int) != 1)=true:=by rw [bne,eqz1 (decide_eq_false i1)];rfl
     have HE:=hid (show true=q0 by rw [← HQ3.out,decide_eq_true i1];rfl);clear i1
     go_wp2_with fail
     go_ret
     exact⟨by rw [← HE.out];rfl,HBwc.out⟩
   ·have g2:((kK:Int)==2)=false:=eqz2 (decide_eq_false k2);by_cases k3:kK=3
    ·subst k3;have hq2:=HQ1.out;rw [if_neg (by decide),if_neg (by decide),if_pos rfl] at hq2;have HQ2:=hid hq2;have n0:wb.cell? ⟨nb,0,none⟩=some (.int .u8 nK):=cell_of_row _ _ 0 _ _ _ HNwb.out;have n3:wb.cell? ⟨nb,3,none⟩=some (.int .u32 nS):=cell_of_row _ _ 3 _ _ _ HNwb.out;have p3:wb.cell? ⟨q,3,none⟩=some (.int .u32 C):=cell_of_row _ _ 3 _ _ _ HRwb.out;have p4:wb.cell? ⟨q,4,none⟩=some (.string xv):=cell_of_row _ _ 4 _ _ _ HRwb.out;clear hq2 HQ1 g1 g2;by_cases i1:nK=2
     ·have e1:((nK:Int) != 2)=false:=by rw [bne,eqz2 (decide_eq_true i1)];rfl
      have hx:xv.size≤160:=HSZ.out;have hnl:nS<4294967296:=HNL.out.2.2.2;have w1:IntKind.i64.wrap (nS:Int)=(nS:Int):=IntWalk.i64_in _ ⟨by omega,by omega⟩;have w2:IntKind.i64.wrap (C:Int)=(C:Int):=IntWalk.i64_in _ ⟨by omega,by omega⟩;have w3:IntKind.i64.wrap ((C:Int)*128)=(C:Int)*128:=IntWalk.i64_in _ ⟨by omega,by omega⟩;have w4:IntKind.i64.wrap ((C:Int)*128+(xv.size:Int))=(C:Int)*128+(xv.size:Int):=IntWalk.i64_in _ ⟨by omega,by omega⟩;have HE:=hid (show decide ((nS:Int)<(C:Int)*128+(xv.size:Int))=q0 by rw [← HQ2.out,i1,show decide ((2:Nat)≠2)=false from rfl,Bool.false_or];apply decide_eq_decide.2;omega);clear i1 hx hnl
      go_wp2_with fail
      go_ret
      exact⟨by rw [← HE.out];rfl,HBwb.out⟩
     ·have e1:((nK:Int) != 2)=true:=by rw [bne,eqz2 (decide_eq_false i1)];rfl
      have HE:=hid (show true=q0 by rw [← HQ2.out,decide_eq_true i1];rfl);clear i1
      go_wp2_with fail
      go_ret
      exact⟨by rw [← HE.out];rfl,HBwb.out⟩
    ·have g3:((kK:Int)==3)=false:=eqz3 (decide_eq_false k3);have hq2:=HQ1.out;rw [if_neg k1,if_neg k2,if_neg k3] at hq2;have HQ2:=hid hq2;clear hq2 HQ1
     go_wp2_with fail
     go_ret
     exact⟨by rw [← HQ2.out];rfl,HBwb.out⟩
variable {w w':World}{g bi be bn ba N bb:Nat}{it o1 o2 o3 rv pv m1 m2 m3 m4 v:Value}{s s':Vo}{ps:List Pt}
def PtOk (p:Pt):Prop:=p.k.lim∧kokK p.k∧p.v.size≤160∧p.k.C<512
theorem row_at {b o:Nat}{p:Pt}{A:Option Addr}(hr:w.rangeAt b o (encP p)):w.cell? ⟨b,o,none⟩=some (.int .u8 p.k.K)∧w.cell? ⟨b,o+1,none⟩=some (.int .u32 p.k.I)∧w.cell? ⟨b,o+2,none⟩=some (.string p.k.N)∧w.cell? ⟨b,o+3,none⟩=some (.int .u32 p.k.C)∧w.cell? ⟨b,o+4,none⟩=some (.string p.v) :=
 ⟨hr 0 _ rfl,hr 1 _ rfl,hr 2 _ rfl,hr 3 _ rfl,hr 4 _ rfl⟩
theorem any_take {ps:List Pt}{f:Pt→Bool}{i:Nat}{p:Pt}(hp:ps[i]?=some p) (h:∀ x∈ps.take i,f x=false) (h2:f p=false):∀ x∈ps.take (i+1),f x=false:=by
 intro x hx;rw [List.take_add_one,hp] at hx;rcases List.mem_append.1 hx with h3 | h3
 ·exact h x h3
 ·obtain rfl:x=p:=by simpa using h3
  exact h2
def IxPost (b:Bool) (w:World) (e:Ending) (w':World):Prop:=(∃ j:Int,e=.returned (.int .i64 j)∧decide (0≤j)=b)∧Below w.heap.size w w'
theorem indexFunc_any (hV:VW w g bi be bn ba N it o1 o2 o3 rv pv s) (A:Option Addr) (n c:Nat) (hn:n=ps.length) (hm:n≤1390000) (hL:Ls encP 5 w w.heap.size A ps) (hok:∀ p∈ps,PtOk p) :
  Calls Tryz.prog 92 #[.slice A n c,.func (.func 56) #[.pointer (some ⟨g,0,none⟩)] #[]] w (IxPost (ps.any (stray s)) w):=by
 have HN:=hid hn;have HL:=hid hL;have HOK:=hid hok;have HV:=hid hV;clear hn hL hok hV
 go_enter Tryz.func92,Tryz.ntmps92
 go_wp2_with fail
 go_loopw [8] (fun v wr=>∃ i:Nat,i≤n∧v=.int .i64 i∧Hid (∀ x∈ps.take i,stray s x=false)∧Hid (Below w.heap.size w wr)) (fun v _=>n-(intOf v).toNat)
 case atStart=>exact⟨0,Nat.zero_le _,by go_num,fun x hx=>(by cases hx),Below.refl _ _⟩
 case round =>
  obtain⟨i,hi,rfl,ha,hb⟩:=hrel;have HA:=hid (Hid.out ha);have HB:=hid (Hid.out hb);clear ha hb;by_cases hlt:i<n
  ·obtain⟨p,hp⟩:∃ p,ps[i]?=some p:=⟨_,List.getElem?_eq_getElem (by rw [← HN.out];exact hlt)⟩;obtain⟨b,o,hAe,hbs,hr⟩:=(HL.out.below HB.out) i p hp;obtain⟨r0,r1,r2,r3,r4⟩:=row_at (A:=A) hr;have hpo:=HOK.out p (List.mem_of_getElem? hp);have HC:=hid (strays_any p (HV.out.go HB.out) hpo.1 hpo.2.1 hpo.2.2.1 hpo.2.2.2);have HAT:=hid (fun h=>any_take hp HA.out h);have HMP:=hid (List.mem_of_getElem? hp);clear hr hp hpo;subst hAe;obtain⟨q,hq⟩:∃ q,stray s p=q:=⟨_,rfl⟩;rw [hq] at HC;have HQ:=hid hq;clear hq;obtain⟨⟨K,I,Nm,C⟩,xv⟩:=p;dsimp only at r0 r1 r2 r3 r4;unfold vP at HC;dsimp only [encP] at HC;cases q
   ·go_wp2_with (go_at_call 56;refine HC.out.mono ?_;rintro e w1 ⟨rfl,hb⟩;have HB1:=hid (HB.out.trans (hb.mono HB.out.size));clear hb)
    exact⟨⟨i+1,by omega,by go_num,HAT.out HQ.out,HB1.out⟩,by simp [intOf]<;>omega⟩
   ·go_wp2_with (go_at_call 56;refine HC.out.mono ?_;rintro e w1 ⟨rfl,hb⟩;have HB1:=hid (HB.out.trans (hb.mono HB.out.size));clear hb)
    go_ret
    exact⟨⟨i,rfl,by rw [List.any_eq_true.2 ⟨_,HMP.out,HQ.out⟩];exact decide_eq_true (by omega)⟩,HB1.out⟩
  ·have hin:i=n:=by omega
   have HT:=hid (show ps.any (stray s)=false by
    rw [Bool.eq_false_iff];intro h;obtain⟨x,hx,h2⟩:=List.any_eq_true.1 h;have h3:=HA.out;rw [hin,HN.out,List.take_length] at h3;rw [h3 x hx] at h2;cases h2)
   go_wp2
   go_ret
   exact⟨⟨-1,rfl,by rw [HT.out];rfl⟩,HB.out⟩
theorem containsFunc_any (hV:VW w g bi be bn ba N it o1 o2 o3 rv pv s) (A:Option Addr) (n c:Nat) (hn:n=ps.length) (hm:n≤1390000) (hL:Ls encP 5 w w.heap.size A ps) (hok:∀ p∈ps,PtOk p) :
  Calls Tryz.prog 55 #[.slice A n c,.func (.func 56) #[.pointer (some ⟨g,0,none⟩)] #[]] w fun e w'=>e=.returned (.bool (ps.any (stray s)))∧Below w.heap.size w w':=by
 have HC:=hid (indexFunc_any hV A n c hn hm hL hok);clear hV hn hL hok;generalize ps.any (stray s)=q at *
 go_enter Tryz.func55,Tryz.ntmps55
 go_wp2_with (go_at_call 92;refine HC.out.mono ?_;rintro e w1 ⟨⟨j,rfl,hj⟩,hb⟩;have HJ:=hid hj;have HB:=hid hb;clear hj hb)
 go_ret
 exact⟨by rw [← HJ.out];rfl,HB.out⟩
variable {w w' wr:World}{g bi be bn ba bu N M bb:Nat}{it o1 o2 o3 rv pv m1 m2 m3 m4 v:Value}{s s':Vo}{ps:List Pt}{U:Nat→Option Unit}
def encU (j:Nat):List Value:=[.int .u32 (j:Int)]
theorem encU_len (j:Nat):(encU j).length=1:=rfl
theorem encU_one (j:Nat):∀ u∈encU j,u.oneCell'=true:=by
 intro u hu;obtain rfl:u=.int .u32 (j:Int):=by simpa [encU] using hu
 rfl
theorem infoU:(Tryz.prog.info? 29).map (fun i=>(i.zero,i.size,i.bytes))=some (some (.int .u32 0),1,4):=by kernel_rfl
abbrev MkU (w wr:World) (v:Value) (D:List Nat):Prop:=Mk encU 1 29 w wr v D
theorem catU {ops:Array Oper}{rest:List Oper}{o:Oper}{a:Act}{Q:Exit→Act→World→Prop}{D:List Nat}(hM:MkU w wr v D) (E:List Nat) (A:Option Addr) (m c:Nat){B:Nat}(hm:m=E.length) (hL:Ls encU 1 wr B A E) (hlen:D.length+m≤1099511627776)
  (hgd:o.guard=none) (s x:Operand) (ho:o.op=.call { callee:=.builtin .append,args:=#[s,x],argTypes:=#[201,201] }) (hs:a.eval s=v) (hx:a.eval x=.slice A m c)
  (h:∀ v' w',MkU w w' v' (D++E)→wr.grownBy w' v.ownBlock→wpList Tryz.prog ops Q rest (a.put o.dst v') w'):wpList Tryz.prog ops Q (o::rest) a wr:=by
 obtain⟨i0,hi,hz0,hz1,hz2⟩:=info_parts infoU;exact wpList_cat 201 i0 _ 4 Tryz.underlying201 hi hz0 hz1 hz2 rfl (by decide) encU_len encU_one hM m c hm hL (by unfold maxLen;omega) (by omega) hgd s x ho hs hx h
theorem newU (w:World) (x:Nat) (e:TypeId) (k B:Nat) (hk:w.heap.size=k) (hB:k<B):Ls encU 1 (w.alloc (.cells #[.int .u32 (x:Int)] e)) B (some ⟨k,0,none⟩) [x]:=by
 subst hk;exact Ls.new w x e B hB
def Known (s:Vo) (U:Nat→Option Unit):Prop:=(U 1).isSome=true∧∀ j,(U j).isSome=true→Up s j
noncomputable def upB (s:Vo) (i:Nat):Bool:=@decide (Up s i) (Classical.propDecidable _)
theorem upB_yes {s:Vo}{i:Nat}(h:Up s i):upB s i=true:=by unfold upB;exact @decide_eq_true _ (Classical.propDecidable _) h
theorem upB_no {s:Vo}{i:Nat}(h:¬ Up s i):upB s i=false:=by unfold upB;exact @decide_eq_false _ (Classical.propDecidable _) h
def way (s:Vo) (i t:Nat):List Nat:=(List.range t).map fun k=>up s k i
theorem way_len (s:Vo) (i t:Nat):(way s i t).length=t:=by simp [way]
theorem way_snoc (s:Vo) (i t:Nat):way s i (t+1)=way s i t++[up s t i]:=by unfold way;rw [List.range_succ,List.map_append];rfl
theorem way_at (s:Vo) (i t k:Nat) (h:k<t):(way s i t)[k]?=some (up s k i):=by simp [way,h]
def addW (U:Nat→Option Unit) (W:List Nat) (k:Nat) (j:Nat):Option Unit:=if j∈W.take k then some () else U j
theorem addW_zero (U:Nat→Option Unit) (W:List Nat):addW U W 0=U:=by funext j;unfold addW;rw [List.take_zero,if_neg (by simp)]
theorem addW_same (U:Nat→Option Unit){W:List Nat}{k x:Nat}(h:W[k]?=some x):addW U W (k+1) x=some ():=by
 unfold addW;rw [List.take_add_one,h,if_pos (by simp)]
theorem addW_ne (U:Nat→Option Unit){W:List Nat}{k x:Nat}(h:W[k]?=some x) (z:Nat) (hz:z≠x):addW U W (k+1) z=addW U W k z:=by
 unfold addW;rw [List.take_add_one,h];by_cases e:z∈W.take k
 ·rw [if_pos e,if_pos (List.mem_append_left _ e)]
 ·rw [if_neg e,if_neg (by
   intro h2;rcases List.mem_append.1 h2 with h3 | h3
   ·exact e h3
   ·exact hz (by simpa using h3))]
theorem known_add {i t:Nat}(h:Known s U) (hu:(U (up s t i)).isSome=true):Known s (addW U (way s i t) t):=by
 have key:∀ k,k≤t→Up s (up s k i):=fun k hk=>by
  have h1:=h.2 _ hu;have e:up s t i=up s (t-k) (up s k i):=by rw [← up_add,Nat.sub_add_cancel hk]
  rw [e] at h1;exact Up.of_up h1
 refine⟨?_,fun j hj=>?_⟩
 ·unfold addW;split
  ·rfl
  ·exact h.1
 ·unfold addW at hj;split at hj
  ·rename_i hm;rw [List.take_of_length_le (by rw [way_len];exact Nat.le_refl _)] at hm;obtain⟨k,hk,rfl⟩:=List.mem_map.1 hm;exact key k (Nat.le_of_lt (List.mem_range.1 hk))
  ·exact h.2 j hj
def slN:Value→Nat
 | .slice _ m _=>m
 | _=>0
def ClPost (s:Vo) (bu M N i:Nat) (w:World) (e:Ending) (w':World):Prop:=e=.returned (.bool (upB s i))∧(upB s i=true→∃ U' M',M'≤M+N∧mU.At w' bu M' U'∧Known s U')∧Off (fun j=>j=bu) w w'
theorem climb_any (hV:VW w g bi be bn ba N it o1 o2 o3 rv pv s) (hN:N≤4194304) (hch:Chn s) (hkey:∀ j,(s.ino j).isSome=true→j<4294967296) (i:Nat) (hi:i<4294967296) (hk:kind s i=1) (hU:mU.At w bu M U) (hKn:Known s U) (hM:M≤35184372088832) (hbu:ba<bu) :
  Calls Tryz.prog 93 #[.pointer (some ⟨g,0,none⟩),.int .u32 (i:Int),.map (some bu)] w (ClPost s bu M N i w):=by
 obtain⟨n,hn,hlen,hnd⟩:=hV.m.i.len;have HLEN:=hid hlen;have HSOON:=hid (fun (h:Up s i)=>up_soon hch (N:=n) (fun ks h1 h2=>hnd ks h1 (fun j hj=>⟨hkey j (h2 j hj),h2 j hj⟩)) hk h);have HV:=hid hV;have HU:=hid hU;have HKN:=hid hKn;have HUP:=hid (show ∀ t,up s t i<4294967296 from fun t=>by
  cases t with
  | zero=>exact hi
  | succ t=>rw [up_succ];exact hV.m.ok.abv _)
 have HUL:=hid hU.lt;clear hlen hnd hV hU hKn hkey hch hk hi
 go_enter Tryz.func93,Tryz.ntmps93
 go_wp2_with fail
 go_loopw [1,7] (fun v1 v7 wr=>∃ (t:Nat),t≤n∧v1=.int .u32 (up s t i:Nat)∧Hid (MkU w wr v7 (way s i t))∧Hid (∀ k,k<t→U (up s k i)=none)) (fun _ v7 _=>n-slN v7)
 case atStart=>exact⟨0,Nat.zero_le _,rfl,Mk.nil (Below.refl _ _),fun k hk=>by omega⟩
 case round =>
  obtain⟨t,ht,rfl,hm,hu⟩:=hrel;have HM:=hid (Hid.out hm);have HF:=hid (Hid.out hu);clear hm hu;obtain⟨A,c,hv,h1,h2,hl⟩:=HM.out.ls encU_len;rw [way_len] at hv h1;subst hv;have HLS:=hid hl;have HC1:=hid h1;clear hl h1 h2;have hlk:=lookU_ok (HU.out.go HUL.out HM.out.2) (HUP.out t);have HV1:=hid (HV.out.go HM.out.2);have hal:Below wr.heap.size wr (wr.alloc (.cells #[] 65)):=(Below.refl _ _).alloc (Nat.le_refl _) _;have HVa:=hid (HV1.out.go hal);have HMa:=hid (HM.out.alloc (.cells #[] 65));have c6:(wr.alloc (.cells #[] 65)).cell? ⟨g,6,none⟩=some (.map (some bi)):=HVa.out.c.cells.2.2.2.1;have hle:∀ ty,(Builtin.len_ #[77] ty #[.map (some bi)]).run Tryz.prog (wr.alloc (.cells #[] 65))=.ok (.int .i64 (n:Nat)) (wr.alloc (.cells #[] 65)):=HLEN.out _ ((HM.out.2.trans (hal.mono HM.out.2.size)).block bi (HV.out.m.xlt _ (.inl rfl)));have hza:(wr.alloc (.cells #[] 65)).heap.size=wr.heap.size+1:=by simp
  have HZA:=hid hza;clear hal hza HV1;cases hq:(U (up s t i)).isSome
  ·rw [hq] at hlk;have HQ:=hid (show U (up s t i)=none by cases e:U (up s t i) with | none=>rfl | some x=>rw [e] at hq;cases hq);clear hq;by_cases htn:t=n
   ·have e1:((t:Int)==(n:Int))=true:=eqz (decide_eq_true htn);have HTN:=hid htn;clear htn
    go_wp2_with fail
    go_ret
    have hno:upB s i=false:=upB_no fun h=>by
     obtain⟨k,hk,h1⟩:=HSOON.out h;have h2:=HF.out k (by have:=HTN.out;omega);rw [h1] at h2;have h3:=HKN.out.1;rw [h2] at h3;cases h3
    exact⟨by rw [hno];rfl,fun h=>by (rw [hno] at h;cases h),Off.of_below HMa.out.2⟩
   ·have e1:((t:Int)==(n:Int))=false:=eqz (decide_eq_false htn);have hlt:t<n:=by omega
    have HLT:=hid hlt;have HFS:=hid (show ∀ k,k<t+1→U (up s k i)=none from fun k hk=>by
     by_cases e:k=t
     ·rw [e];exact HQ.out
     ·exact HF.out k (by omega))
    obtain⟨x,hx⟩:∃ x,up s t i=x:=⟨_,rfl⟩;have HMb:=hid (HMa.out.alloc (.cells #[.int .u32 (x:Int)] 29));have HNL:=hid (newU (wr.alloc (.cells #[] 65)) x 29 (wr.heap.size+1) (wr.heap.size+2) HZA.out (Nat.lt_succ_self _));have HX:=hid hx;have HXL:=hid (show x<4294967296 by rw [← hx];exact HUP.out t);rw [hx] at hlk ⊢;clear htn hlt hx HQ
    go_wp2_with (refine catU HMb.out [x] _ 1 1 rfl HNL.out (by rw [way_len];omega) rfl _ _ rfl rfl rfl ?_;intro v2 w2 hm2 hg2;have HM2:=hid (show MkU w w2 v2 (way s i (t+1)) by rw [way_snoc,HX.out];exact hm2);have HV2:=hid (HV.out.go hm2.2);have c9:w2.cell? ⟨g,9,none⟩=some (.map (some ba)):=HV2.out.c.cells.2.2.2.2.2.2;obtain⟨G,hG,hGe⟩:=HV2.out.m.a;have hlk2:=lookN hG HXL.out;rw [← hGe x] at hlk2;clear hm2 hg2 hG hGe)
    have hs2:slN v2=t+1:=by
     obtain⟨A2,c2,hv2,_⟩:=HM2.out.ls encU_len;rw [hv2,way_len];rfl
    exact⟨⟨t+1,by have:=HLT.out;omega,by rw [up_succ,HX.out],HM2.out,HFS.out⟩,by have:=HLT.out;simp only [slN] at hs2 ⊢;omega⟩
  ·rw [hq] at hlk;have HK2:=hid (known_add HKN.out hq);have HYES:=hid (show upB s i=true from upB_yes (Up.of_up (k:=t) (HKN.out.2 _ hq)));clear hq;have HLa:=hid (show Ls encU 1 (wr.alloc (.cells #[] 65)) (wr.alloc (.cells #[] 65)).heap.size A (way s i t) by
    obtain⟨A',c',e,_,_,hl⟩:=HMa.out.ls encU_len;have e2:=(Value.slice.inj e).1;rw [e2];exact hl)
   have HBA:=hid (show ∀ b o,A=some ⟨b,o,none⟩→bu≠b from fun b o e h=>by
    have h1:=(HMa.out.1.lt b (by rw [e];rfl)).1;have h2:=HUL.out;omega)
   have HOa:=hid (Off.of_below (X:=fun j=>j=bu) HMa.out.2);have HUa:=hid (HU.out.go HUL.out HMa.out.2);clear HF HM HLS HC1 HVa HZA HMa c6 hle
   go_wp2_with fail
   clear hlk;generalize wr.alloc (.cells #[] 65)=wa at *;obtain⟨wr0,hwr0⟩:∃ w0,w0=wr:=⟨_,rfl⟩;subst hwr0
   go_loopw [39] (fun v wr=>∃ (k:Nat),k≤t∧v=.int .i64 k∧Hid (mU.At wr bu (M+k) (addW U (way s i t) k))∧Hid (Off (fun j=>j=bu) wa wr)) (fun v _=>t-(intOf v).toNat)
   case atStart=>exact⟨0,Nat.zero_le _,by go_num,by rw [addW_zero];exact HUa.out,Off.refl _ _⟩
   case round =>
    obtain⟨k,hk,rfl,hu,ho⟩:=hrel;have HU2:=hid (Hid.out hu);have HO2:=hid (Hid.out ho);clear hu ho;by_cases hlt:k<t
    ·have hx:=way_at s i t k hlt;obtain⟨b,o,hAe,hbs,hr⟩:=HLa.out k _ hx;have e0:wr.cell? ⟨b,o+k,none⟩=some (.int .u32 (up s k i:Nat)):=by
      have h1:=hr 0 _ rfl;rw [Nat.mul_one,Nat.add_zero] at h1;exact (World.cell?_of_block (a:=⟨b,_,none⟩) (HO2.out.block b hbs (fun e=>HBA.out b o hAe e.symm))).trans h1
     have HW:=hid hx;have HXL:=hid (HUP.out k);clear hr hx hbs;subst hAe;generalize up s k i=x at *
     go_wp2_with (refine Mq.wpList_put mU rfl _ _ _ (.inl rfl) bu (M+k) _ (addW U (way s i t) (k+1)) rfl HU2.out (by unfold maxLen;omega) x HXL.out rfl () rfl (addW_same U HW.out) (addW_ne U HW.out) ?_;intro w4 ha hg;have HU4:=hid ha;have HO4:=hid (HO2.out.trans (Off.of_grown (X:=fun j=>j=bu) hg rfl));clear ha hg)
     exact⟨⟨k+1,by omega,by go_num,HU4.out,HO4.out⟩,by simp [intOf]<;>omega⟩
    ·have hkt:k=t:=by omega
     subst hkt
     go_wp2
     go_ret
     exact⟨by rw [HYES.out];rfl,fun _=>⟨_,_,by omega,HU2.out,HK2.out⟩,HOa.out.trans HO2.out⟩
variable {w w' wr:World}{g bi be bn ba bu N M bb:Nat}{it o1 o2 o3 rv pv m1 m2 m3 m4 v:Value}{s s':Vo}{ps:List Pt}{U:Nat→Option Unit}
noncomputable def allB (s:Vo):Bool:=@decide (AllUp s) (Classical.propDecidable _)
theorem allB_yes {s:Vo}(h:AllUp s):allB s=true:=by unfold allB;exact @decide_eq_true _ (Classical.propDecidable _) h
theorem allB_no {s:Vo}(h:¬ AllUp s):allB s=false:=by unfold allB;exact @decide_eq_false _ (Classical.propDecidable _) h
theorem upB_up {s:Vo}{i:Nat}(h:upB s i=true):Up s i:=by unfold upB at h;exact @of_decide_eq_true _ (Classical.propDecidable _) h
theorem upB_not {s:Vo}{i:Nat}(h:upB s i=false):¬ Up s i:=fun h2=>by rw [upB_yes h2] at h;cases h
theorem wpList_nextI {ops:Array Oper}{rest:List Oper}{o:Oper}{a:Act}{Q:Exit→Act→World→Prop}(hg:o.guard=none) (it:Operand) (hop:o.op=Op.next it false) (b r n:Nat) (F:Nat→Option In) (left:Nat→Bool) (cnt:Nat)
  (hit:a.eval it=.pointer (some ⟨r,0,none⟩)) (h:mI.Rng w b r n F left cnt)
  (hDone:cnt=0→(∀ x,x<4294967296→left x=false)→wpList Tryz.prog ops Q rest (a.put o.dst (.tuple #[.bool false])) w)
  (hMore:∀ (x nK nM nL nS:Nat) (nT:ByteArray) (w':World) (cnt':Nat),x<4294967296→F x=some ⟨nK,nM,nL,nS,nT⟩→mI.Rng w' b r n F (fun y=>left y&&decide (y≠x)) cnt'→cnt'<cnt→w.grownBy w' (some r)→w'.heap.size=w.heap.size →
   (Instr.entry (.pointer (some ⟨r,0,none⟩))).run Tryz.prog w'=.ok (.tuple #[.int .u32 (x:Int),.agg #[.int .u8 nK,.int .u16 nM,.int .u32 nL,.int .u32 nS,.string nT]]) w'→wpList Tryz.prog ops Q rest (a.put o.dst (.tuple #[.bool true,.int .u32 (x:Int),.agg #[.int .u8 nK,.int .u16 nM,.int .u32 nL,.int .u32 nS,.string nT]])) w'):wpList Tryz.prog ops Q (o::rest) a w :=
 Mq.wpList_nextM mI hg it hop allU b r n F left cnt hit h hDone fun x c w' cnt' hx hl hF hr hlt hg hs hen=>by
  obtain⟨nK,nM,nL,nS,nT⟩:=c;exact hMore x nK nM nL nS nT w' cnt' hx hF hr hlt hg hs hen
theorem known_root (s:Vo):Known s (fun j=>if j=1 then some () else none):=⟨rfl,fun j hj=>by
 dsimp only at hj;split at hj
 ·rename_i h;rw [h];exact Up.one s
 ·cases hj⟩
theorem allUnderRoot_any (hV:VW w g bi be bn ba N it o1 o2 o3 rv pv s) (hN:N≤4194304) (hch:Chn s) (hkey:∀ j,(s.ino j).isSome=true→j<4294967296) :
  Calls Tryz.prog 57 #[.pointer (some ⟨g,0,none⟩)] w fun e w'=>e=.returned (.bool (allB s))∧Below w.heap.size w w':=by
 have HV:=hid hV;have HKEY:=hid hkey;have HCL:=hid (fun (wx:World) (h:VW wx g bi be bn ba N it o1 o2 o3 rv pv s) (i bu M:Nat) (U:Nat→Option Unit) (hi:i<4294967296) (hk:kind s i=1) (hU:mU.At wx bu M U) (hKn:Known s U) (hM:M≤35184372088832) (hbu:ba<bu)=>climb_any h hN hch hkey i hi hk hU hKn hM hbu);have HMD:=hid (Mq.MT.At.made mU w);have hal:Below w.heap.size w (w.alloc (.map #[] 0)):=(Below.refl _ _).alloc (Nat.le_refl _) _;have HVa:=hid (hV.go hal);have HBa:=hid hal;have HKR:=hid (known_root s);have HZ:=hid (show ba<w.heap.size from hV.m.lt.2.2.2);have hmm:=@run_makeMap Tryz.prog;clear hal hV hkey hch;obtain⟨q,hq⟩:∃ q,allB s=q:=⟨_,rfl⟩;rw [hq];have HQ:=hid hq;clear hq;obtain⟨w2,hrun,ha2,hg2⟩:=HMD.out.put (by unfold maxLen;omega) (x:=1) (show (1:Nat)<4294967296 by decide) () (G:=fun j=>if j=1 then some () else none) (if_pos rfl) (fun z hz=>if_neg hz);have hrun2:(Instr.mapUpdate 158 (.map (some w.heap.size)) (.int .u32 1) (.agg #[])).run Tryz.prog (w.alloc (.map #[] 0))=.ok () w2:=hrun;have HU2:=hid ha2;have HB2:=hid (show Below w.heap.size w w2 from HBa.out.grown hg2 HBa.out.size (fun k hk=>by cases hk;exact Nat.le_refl _));have HV2:=hid (HV.out.go HB2.out);have c6:w2.cell? ⟨g,6,none⟩=some (.map (some bi)):=HV2.out.c.cells.2.2.2.1;clear hrun ha2 hg2 HMD HBa HVa
 go_enter Tryz.func57,Tryz.ntmps57
 go_wp2_with (first
  | (refine Mq.wpList_range mI rfl _ rfl bi N _ rfl HV2.out.m.i ?_
     intro w3 cnt hc hr hg hs;have HR3:=hid hr;have HCN:=hid hc;have HB3:=hid (show Below w2.heap.size w2 w3 from (Below.refl _ _).grown hg (Nat.le_refl _) (fun k hk=>by cases hk));clear hr hg hs hc))
 have HV3:=hid (HV2.out.go HB3.out);have HU3:=hid (HU2.out.go HU2.out.lt HB3.out);have HB4:=hid (HB2.out.trans (HB3.out.mono HB2.out.size));have HRL:=hid (show w.heap.size≤w2.heap.size from HB2.out.size);have HUL:=hid (show w.heap.size<w2.heap.size from HU2.out.lt);obtain⟨r,hr⟩:∃ r,w2.heap.size=r:=⟨_,rfl⟩;rw [hr] at HR3 HRL HUL;simp only [hr];clear hrun2 c6 hmm HU2 HB2 HV2 HB3 hr
 go_frame
 go_loopw [14] (fun v wr=>∃ (left:Nat→Bool) (cn M:Nat) (U:Nat→Option Unit),Hid (mI.Rng wr bi r N s.ino left cn)∧Hid (mU.At wr w.heap.size M U)∧Hid (Known s U)∧Hid (∀ j n,s.ino j=some n→n.K=1→left j=false→Up s j)∧Hid (Below w.heap.size w wr)∧Hid (M+cn*N≤1+cnt*N)) (fun _ wr=>wr.rangeLeft bi r)
 case atStart=>exact⟨_,cnt,1,_,HR3.out,HU3.out,HKR.out,fun j n h1 h2 h3=>by (rw [h1] at h3;cases h3),HB4.out,Nat.le_refl _⟩
 case round =>
  obtain⟨left,cn,M,U,hr,hu,hkn,hl,hb,hm⟩:=hrel;have HR:=hid (Hid.out hr);have HU:=hid (Hid.out hu);have HK:=hid (Hid.out hkn);have HL:=hid (Hid.out hl);have HB:=hid (Hid.out hb);have HM:=hid (Hid.out hm);clear hr hu hkn hl hb hm;have HV5:=hid (HV.out.go HB.out);have hrne:=HR.out.lt
  go_wp2_with (refine wpList_nextI rfl _ rfl bi r N s.ino left cn rfl HR.out ?_ ?_)
  ·intro hc0 hl0;have HL0:=hid hl0;clear hc0 hl0
   go_wp2
   go_ret
   have hall:allB s=true:=allB_yes fun j n h1 h2=>HL.out j n h1 h2 (HL0.out j (HKEY.out j (by rw [h1];rfl)))
   exact⟨by rw [← HQ.out,hall];rfl,HB.out⟩
  ·intro x nK nM nL nS nT w5 cn5 hx hF hr5 hlt hg5 hs5 hen;have HX:=hid hx;have HF:=hid hF;have HLT:=hid hlt;have HBr:=hid (show Off (fun j=>j=r) wr w5 from Off.of_grown hg5 rfl);have HVr:=hid (show VW w5 g bi be bn ba N it o1 o2 o3 rv pv s from (HV.out.go (HB.out.grown hg5 HB.out.size (fun k hk=>by cases hk;exact HRL.out))));have HUr:=hid (HU.out.keep (hg5.block _ HU.out.lt (fun e=>by have:=HUL.out;cases e;omega)));have HB5:=hid (HB.out.grown hg5 HB.out.size (fun k hk=>by cases hk;exact HRL.out));have hal:Below w5.heap.size w5 (w5.alloc (.cells #[.int .u8 nK,.int .u16 nM,.int .u32 nL,.int .u32 nS,.string nT] 35)):=(Below.refl _ _).alloc (Nat.le_refl _) _;have n0:(w5.alloc (.cells #[.int .u8 nK,.int .u16 nM,.int .u32 nL,.int .u32 nS,.string nT] 35)).cell? ⟨w5.heap.size,0,none⟩=some (.int .u8 nK):=by simp
   have HV6:=hid (HVr.out.go hal);have HU6:=hid (HUr.out.go HUr.out.lt hal);have HR6:=hid (hr5.keep (w':=w5.alloc (.cells #[.int .u8 nK,.int .u16 nM,.int .u32 nL,.int .u32 nS,.string nT] 35)) (hal.block bi (HVr.out.m.xlt _ (.inl rfl))) (hal.block r hr5.lt.1));have HB6:=hid (HB5.out.trans (hal.mono HB5.out.size));have HM6:=hid (show M+N+cn5*N≤1+cnt*N from by
    have h1:=HM.out;have h2:(cn5+1)*N≤cn*N:=Nat.mul_le_mul_right N hlt;rw [Nat.add_mul,Nat.one_mul] at h2;omega)
   have HBD:=hid (show 1+cnt*N≤35184372088832 from by
    have h1:=Nat.mul_le_mul (Nat.le_trans HCN.out hN) hN;omega)
   have HLN:=hid (fun (hup:nK=1→Up s x)=>(show ∀ j n,s.ino j=some n→n.K=1→(left j&&decide (j≠x))=false→Up s j from fun j n h1 h2 h3=>by
    by_cases e:j=x
    ·subst e;rw [HF.out] at h1;cases h1;exact hup h2
    ·rw [show decide (j≠x)=true from decide_eq_true e,Bool.and_true] at h3;exact HL.out j n h1 h2 h3))
   clear hx hF hr5 hlt hg5 hs5 hal HVr HUr HB5 HV5;by_cases hk:nK=1
   ·subst hk;have HC:=hid (HCL.out _ HV6.out x w.heap.size M U HX.out (by unfold kind;rw [HF.out]) HU6.out HK.out (by have h1:=HBD.out;have h2:=HM6.out;omega) HZ.out);unfold ClPost at HC;cases hq:upB s x
    ·rw [hq] at HC
     go_wp2_with (go_at_call 93;refine HC.out.mono ?_;rintro e w7 ⟨rfl,_,ho⟩;have HO:=hid ho;clear ho)
     go_ret
     have hall:allB s=false:=allB_no fun h=>upB_not hq (h x _ HF.out rfl)
     exact⟨by rw [← HQ.out,hall];rfl,HB6.out.trans (HO.out.below HB6.out.size (fun j hj=>by rw [hj];exact Nat.le_refl _))⟩
    ·rw [hq] at HC;have HYU:=hid (upB_up hq);clear hq
     go_wp2_with (go_at_call 93;refine HC.out.mono ?_;rintro e w7 ⟨rfl,hx7,ho⟩;obtain⟨U7,M7,hM7,hU7,hK7⟩:=hx7 rfl;have HM7:=hid hM7;have HU7:=hid hU7;have HK7:=hid hK7;have HO:=hid ho;clear ho hx7 hM7 hU7 hK7)
     have HR7:=hid (HR6.out.keep (HO.out.block bi (HV6.out.m.xlt _ (.inl rfl)) (fun e=>by have h1:=HV6.out.o;have h2:=HZ.out;omega)) (HO.out.block r HR6.out.lt.1 (fun e=>by have h1:=HUL.out;omega)));have HB7:=hid (HB6.out.trans (HO.out.below HB6.out.size (fun j hj=>by rw [hj];exact Nat.le_refl _)));exact⟨⟨_,cn5,M7,U7,HR7.out,HU7.out,HK7.out,(fun j n h1 h2 h3=>HLN.out (fun _=>HYU.out) j n h1 h2 (by rw [show decide (j≠x)=!decide (j=x) from decide_not];exact h3)),HB7.out,by have h1:=HM7.out;have h2:=HM6.out;show _≤_;omega⟩,by rw [HR7.out.left_eq,HR.out.left_eq];exact HLT.out⟩
   ·have e1:((nK:Int)==1)=false:=eqz1 (decide_eq_false hk);have HNK:=hid hk;clear hk
    go_wp2_with fail
    exact⟨⟨_,cn5,M,U,HR6.out,HU6.out,HK.out,(fun j n h1 h2 h3=>HLN.out (fun e=>absurd e HNK.out) j n h1 h2 (by rw [show decide (j≠x)=!decide (j=x) from decide_not];exact h3)),HB6.out,by have h2:=HM6.out;show _≤_;omega⟩,by rw [HR6.out.left_eq,HR.out.left_eq];exact HLT.out⟩
end Go.Proofs.YtopepebcnaikiaaGreatDoor.Di
namespace Go.Proofs.YtopepebcnaikiaaGreatDoor.Di
open Lib (hid)
open Ino
open It (Itm)
open Ph (nb)
theorem rtFrom_some:∀ (D:List Itm) (y:Itm),It.rtFrom (some y) D=true→(∀ x∈D,By.bl (It.key y) (It.key x)=true∧It.okI x=true)∧D.Pairwise (fun a b=>By.bl (It.key a) (It.key b)=true)
 | [],y,_=>⟨fun x hx=>(by cases hx),List.Pairwise.nil⟩
 | z::D,y,h=>by
  simp only [It.rtFrom,Bool.and_eq_true] at h;obtain⟨h1,h2,h3⟩:=h;obtain⟨h4,h5⟩:=rtFrom_some D z h3;refine⟨fun x hx=>?_,List.pairwise_cons.2 ⟨fun x hx=>(h4 x hx).1,h5⟩⟩;rcases List.mem_cons.1 hx with rfl | hx
  ·exact⟨h2,h1⟩
  ·exact⟨By.bl_trans _ _ _ h2 (h4 x hx).1,(h4 x hx).2⟩
theorem rt_all {D:List Itm}(h:It.rt D=true):(∀ x∈D,It.okI x=true)∧D.Pairwise (fun a b=>By.bl (It.key a) (It.key b)=true):=by
 unfold It.rt at h;cases D with
 | nil=>exact⟨fun x hx=>(by cases hx),List.Pairwise.nil⟩
 | cons z D =>
  simp only [It.rtFrom,Bool.and_eq_true] at h;obtain⟨h1,h2⟩:=rtFrom_some D z h.2;refine⟨fun x hx=>?_,List.pairwise_cons.2 ⟨fun x hx=>(h1 x hx).1,h2⟩⟩;rcases List.mem_cons.1 hx with rfl | hx
  ·exact h.1
  ·exact (h1 x hx).2
theorem rt_sizes {D:List Itm}(h:It.rt D=true):∀ x∈D,x.k.size≤48∧x.v.size≤160:=fun x hx=>by
 have:=(rt_all h).1 x hx;simp only [It.okI,It.okKey,Bool.and_eq_true,decide_eq_true_iff] at this;exact⟨this.1.2,this.2⟩
theorem okX_1 {x:Itm}(h:okX x=true):deKE x.k=0∧okP (ptOf x)=true:=by
 unfold okX at h;rw [Bool.and_eq_true,decide_eq_true_iff] at h;exact h
theorem pt_ok {x:Itm}(h:okX x=true) (hv:x.v.size≤160):PtOk (ptOf x)∧okK (ptOf x).k=true:=by
 have h1:=deK_ok (okX_1 h).1;refine⟨⟨h1.2.2,⟨h1.2.2,?_⟩,hv,?_⟩,h1.1⟩
 ·have:=okK_size h1.1;unfold maxLen;show (deK x.k).N.size≤_
  omega
 ·show (deK x.k).C<512
  rcases (okK_iff.1 h1.1).2 with h2 | h2 | h2
  ·rw [h2.2.2];decide
  ·rw [h2.2.2];decide
  ·exact h2.2.2
theorem pts_mem {L:List Itm}{p:Pt}(h:p∈pts L):∃ x∈L,ptOf x=p:=List.mem_map.1 h
theorem pts_ok {L:List Itm}(h:It.rt L=true) (hok:∀ x∈L,okX x=true):∀ p∈pts L,PtOk p∧okP p=true∧okK p.k=true:=fun p hp=>by
 obtain⟨x,hx,rfl⟩:=pts_mem hp;have h1:=pt_ok (hok x hx) (rt_sizes h x hx).2;exact⟨h1.1,(okX_1 (hok x hx)).2,h1.2⟩
theorem kind_get (s:Vo) (i:Nat):kind s i=((s.ino i).getD zIn).K:=by
 unfold kind;cases s.ino i<;>rfl
theorem key_lt {ps:List Pt}(h:∀ p∈ps,PtOk p) (j:Nat) (hj:((vo ps).ino j).isSome=true):j<4294967296:=by
 cases e:(vo ps).ino j with
 | none=>rw [e] at hj;cases hj
 | some n =>
  obtain⟨p,hp,_,rfl,_⟩:=ino_of ps e;exact (h p hp).1.2.1
theorem rgt_eq (L:List Itm):rgt L=(It.rt L&&(L.all okX&&(decide (kind (vo (pts L)) 1=1)&&(!(pts L).any (stray (vo (pts L)))&&allB (vo (pts L)))))):=by
 rw [Bool.eq_iff_iff,rgt_iff];simp only [Bool.and_eq_true,decide_eq_true_iff,Bool.not_eq_true'];constructor
 ·rintro ⟨h1,h2,h3,h4,h5⟩;refine⟨h1,List.all_eq_true.2 h2,h3,?_,allB_yes h5⟩;rw [Bool.eq_false_iff];intro h;obtain⟨p,hp,h6⟩:=List.any_eq_true.1 h;rw [h4 p hp] at h6;cases h6
 ·rintro ⟨h1,h2,h3,h4,h5⟩;refine⟨h1,List.all_eq_true.1 h2,h3,fun p hp=>?_,?_⟩
  ·rw [Bool.eq_false_iff] at h4 ⊢;exact fun h=>h4 (List.any_eq_true.2 ⟨p,hp,h⟩)
  ·unfold allB at h5;exact @of_decide_eq_true _ (Classical.propDecidable _) h5
end Go.Proofs.YtopepebcnaikiaaGreatDoor.Di
namespace Go.Proofs.YtopepebcnaikiaaGreatDoor.Di
open Lib (hid)
open Go.ChangeShapes Go.WideShapes Go.ChangeAt Go.RowKit
open BigFrame
open Ar Rg
open Ino
open It (Itm)
variable {w w' wr:World}{g bi be bn ba bu N M bb:Nat}{it o1 o2 o3 rv pv m1 m2 m3 m4 v:Value}{s s':Vo}{ps:List Pt}{U:Nat→Option Unit}
theorem At.empty {κ α:Type}{P:Program}(M:Mq.MT P κ α){b:Nat}(h:w.heap[b]?=some (.map #[] 0)):M.At w b 0 (fun _=>none):=by
 obtain⟨D,⟨es,clock,h1,r⟩,h2⟩:=Mq.MT.At.made M ⟨#[],w.tape,w.drawn,w.os,w.output⟩;have h3:some (Obj.map es clock)=some (.map #[] 0):=h1.symm.trans rfl;exact⟨D,⟨es,clock,h.trans h3.symm,r⟩,h2⟩
structure Stp (w w1:World) (g:Nat):Prop where
 new:w1.heap[w.heap.size]?=some (.map #[] 0)
 size:w1.heap.size=w.heap.size+1
 off:Off (fun j=>j=g) w w1
theorem stp_of (w:World) (i:Nat) (u:Value) (hg:g<w.heap.size):Stp w ((w.alloc (.map #[] 0)).setCell ⟨g,i,none⟩ u) g:=by
 refine⟨?_,by simp,?_⟩
 ·exact (Below.heap_setCell _ _ _ _ (show w.heap.size≠g by omega)).trans (heap_alloc_new w _)
 ·exact (Off.of_below ((Below.refl w.heap.size w).alloc (Nat.le_refl _) _)).trans (off_set _ _ _ rfl)
theorem VC.al (h:VC w g it o1 o2 o3 rv pv m1 m2 m3 m4) (o:Obj):VC (w.alloc o) g it o1 o2 o3 rv pv m1 m2 m3 m4:=h.keep (((Below.refl w.heap.size w).alloc (Nat.le_refl _) o).block g h.lt)
theorem vo0_ok:VoOk vo0:=⟨fun i n h=>(by cases h),fun k j h=>(by cases h),fun _=>(by decide:(0:Nat)<4294967296),fun _=>(by decide:(0:Nat)<4294967296)⟩
def VolAt (w:World) (g lo:Nat) (it o1 o2 o3:Value) (L:List Itm):Prop :=
 ∃ bi be bn ba A c,VW w g bi be bn ba (3*L.length) it o1 o2 o3 (.bool true) (.slice A L.length c) (vo (pts L))∧L.length≤c∧c≤maxLen∧Ls encP 5 w w.heap.size A (pts L)∧(∀ b o,A=some ⟨b,o,none⟩→lo≤b)∧lo≤bi∧g<lo
theorem pts_length (L:List Itm):(pts L).length=L.length:=List.length_map _
theorem stray_none {ps:List Pt}{s:Vo}(h:ps.any (stray s)=false):∀ p∈ps,stray s p=false:=fun p hp=>by
 rw [Bool.eq_false_iff] at h ⊢;exact fun h2=>h (List.any_eq_true.2 ⟨p,hp,h2⟩)
theorem ls_off {A:Option Addr}(h:Ls encP 5 w w.heap.size A ps) (hA:∀ b o,A=some ⟨b,o,none⟩→b≠g) (ho:Off (fun j=>j=g) w w'):Ls encP 5 w' w'.heap.size A ps:=fun i x hx=>by
 obtain⟨b,o,e,h1,h2⟩:=h i x hx;exact⟨b,o,e,Nat.lt_of_lt_of_le h1 ho.size,fun j v hv=>(World.cell?_of_block (a:=⟨b,_,none⟩) (ho.block b h1 (hA b o e))).trans (h2 j v hv)⟩
theorem Off.trans' {X Y:Nat→Prop}{a b c:World}(h:Off X a b) (k:Off Y b c) (hY:∀ j,Y j→X j∨a.heap.size≤j):Off X a c :=
 ⟨k.os.trans h.os,k.tape.trans h.tape,k.output.trans h.output,Nat.le_trans h.size k.size,fun j hj hx=>(k.block j (Nat.lt_of_lt_of_le hj h.size) fun hy=>(hY j hy).elim hx (by omega)).trans (h.block j hj hx)⟩
def LkPost (g:Nat) (it o1 o2 o3:Value) (L:List Itm) (w:World) (e:Ending) (w':World):Prop :=
 e=.returned (.tuple #[])∧(∃ pv m1 m2 m3 m4,VC w' g it o1 o2 o3 (.bool (rgt L)) pv m1 m2 m3 m4)∧(rgt L=true→VolAt w' g w.heap.size it o1 o2 o3 L)∧Off (fun j=>j=g) w w'
theorem look_any (L:List Itm) (A:Option Addr) (n c:Nat) (hC:VC w g (.slice A n c) o1 o2 o3 (.bool false) (.slice none 0 0) m1 m2 m3 m4) (hn:n=L.length) (hm:n≤1390000) (hD:Ls It.enc 2 w g A L) :
  Calls Tryz.prog 33 #[.pointer (some ⟨g,0,none⟩)] w (LkPost g (.slice A n c) o1 o2 o3 L w):=by
 have hmm:=@run_makeMap Tryz.prog;have HN:=hid hn;have HD:=hid hD;have HBg:=hid (Below.refl g w);have HG0:=hid hC.lt;clear hn hD
 go_enter Tryz.func33,Tryz.ntmps33
 have Va:=hC.al (.map #[] 0);have ca:(w.alloc (.map #[] 0)).cell? ⟨g,6,none⟩=some m1:=Va.cells.2.2.2.1;have fa:=Va.fz 6;have Vb:=Va.set6 (.map (some w.heap.size));have Sb:=stp_of w 6 (.map (some w.heap.size)) hC.lt
 go_upto_region 1 with fail
 clear ca fa Va;have HV1:=hid Vb;have HS1:=hid Sb;clear Vb Sb hC;generalize (w.alloc (.map #[] 0)).setCell ⟨g,6,none⟩ (.map (some w.heap.size))=W1 at *;have hV1:=HV1.out;have Va:=hV1.al (.map #[] 0);have ca:(W1.alloc (.map #[] 0)).cell? ⟨g,7,none⟩=some m2:=Va.cells.2.2.2.2.1;have fa:=Va.fz 7;have Vb:=Va.set7 (.map (some W1.heap.size));have Sb:=stp_of W1 7 (.map (some W1.heap.size)) hV1.lt
 go_upto_region 2 with fail
 clear ca fa Va;have HV2:=hid Vb;have HS2:=hid Sb;clear Vb Sb hV1;generalize (W1.alloc (.map #[] 0)).setCell ⟨g,7,none⟩ (.map (some W1.heap.size))=W2 at *;have hV2:=HV2.out;have Va:=hV2.al (.map #[] 0);have ca:(W2.alloc (.map #[] 0)).cell? ⟨g,8,none⟩=some m3:=Va.cells.2.2.2.2.2.1;have fa:=Va.fz 8;have Vb:=Va.set8 (.map (some W2.heap.size));have Sb:=stp_of W2 8 (.map (some W2.heap.size)) hV2.lt
 go_upto_region 3 with fail
 clear ca fa Va;have HV3:=hid Vb;have HS3:=hid Sb;clear Vb Sb hV2;generalize (W2.alloc (.map #[] 0)).setCell ⟨g,8,none⟩ (.map (some W2.heap.size))=W3 at *;have hV3:=HV3.out;have Va:=hV3.al (.map #[] 0);have ca:(W3.alloc (.map #[] 0)).cell? ⟨g,9,none⟩=some m4:=Va.cells.2.2.2.2.2.2;have fa:=Va.fz 9;have Vb:=Va.set9 (.map (some W3.heap.size));have Sb:=stp_of W3 9 (.map (some W3.heap.size)) hV3.lt
 go_upto_region 4 with fail
 clear ca fa Va;have HV4:=hid Vb;have HS4:=hid Sb;clear Vb Sb hV3;generalize (W3.alloc (.map #[] 0)).setCell ⟨g,9,none⟩ (.map (some W3.heap.size))=W4 at *;have hV4:=HV4.out;have HO4:=hid (((HS1.out.off.trans HS2.out.off).trans HS3.out.off).trans HS4.out.off);obtain⟨bi,hbi⟩:∃ bi,w.heap.size=bi:=⟨_,rfl⟩;obtain⟨be,hbe⟩:∃ be,W1.heap.size=be:=⟨_,rfl⟩;obtain⟨bn,hbn⟩:∃ bn,W2.heap.size=bn:=⟨_,rfl⟩;obtain⟨ba,hba⟩:∃ ba,W3.heap.size=ba:=⟨_,rfl⟩;have hgw:g<bi:=by
  have h1:=HV1.out.lt;have h2:=HS1.out.size;have h3:=HG0.out;omega
 have e1:=HS1.out.new;have e2:=HS2.out.new;have e3:=HS3.out.new;have e4:=HS4.out.new;have s1:=HS1.out.size;have s2:=HS2.out.size;have s3:=HS3.out.size;have s4:=HS4.out.size;rw [hbi] at e1 s1 hV4;rw [hbe] at e2 s2 s1 hV4;rw [hbn] at e3 s3 s2 hV4;rw [hba] at e4 s4 s3 hV4;have e1':W4.heap[bi]?=some (.map #[] 0):=(HS4.out.off.block bi (by omega) (by omega)).trans ((HS3.out.off.block bi (by omega) (by omega)).trans ((HS2.out.off.block bi (by omega) (by omega)).trans e1));have e2':W4.heap[be]?=some (.map #[] 0):=(HS4.out.off.block be (by omega) (by omega)).trans ((HS3.out.off.block be (by omega) (by omega)).trans e2);have e3':W4.heap[bn]?=some (.map #[] 0):=(HS4.out.off.block bn (by omega) (by omega)).trans e3;have HVW:=hid (show VW W4 g bi be bn ba 0 (.slice A n c) o1 o2 o3 (.bool false) (.slice none 0 0) vo0 from⟨hV4,⟨At.empty mI e1',At.empty mE e2',⟨_,At.empty mN e3',fun _=>rfl⟩,⟨_,At.empty mN e4,fun _=>rfl⟩,vo0_ok⟩,by omega⟩);have HBL:=hid HO4.out;have HD4:=hid (HD.out.below (show Below g w W4 from HO4.out.below (by omega) (fun j hj=>by omega)));have HWB:=hid (show w.heap.size≤bi by omega);have HGW:=hid (show g<w.heap.size from HG0.out);have c0:W4.cell? ⟨g,0,none⟩=some (.slice A n c):=HVW.out.c.cells.1;have HCK:=hid (It.check_any L A n c g HN.out (by omega) W4 (by omega) HD4.out);clear e1 e2 e3 e4 e1' e2' e3' s1 s2 s3 s4 hbi hbe hbn hba hV4 HS1 HS2 HS3 HS4 HV1 HV2 HV3 HV4 HO4 HD hgw HG0 hmm HBg;have HRE:=hid (rgt_eq L);unfold It.errF at HCK;obtain⟨q1,h1⟩:∃ q1,It.rt L=q1:=⟨_,rfl⟩;obtain⟨q2,h2⟩:∃ q2,L.all okX=q2:=⟨_,rfl⟩;obtain⟨q3,h3⟩:∃ q3,decide (kind (vo (pts L)) 1=1)=q3:=⟨_,rfl⟩;obtain⟨q4,h4⟩:∃ q4,(pts L).any (stray (vo (pts L)))=q4:=⟨_,rfl⟩;obtain⟨q5,h5⟩:∃ q5,allB (vo (pts L))=q5:=⟨_,rfl⟩;rw [h1,h2,h3,h4,h5] at HRE;rw [h1] at HCK;have H1:=hid h1;have H2:=hid h2;have H3:=hid h3;have H4:=hid h4;have H5:=hid h5;clear h1 h2 h3 h4 h5;cases q1
 ·go_wp2_with (first|(go_at_call 53;refine HCK.out.mono ?_;rintro e w5 ⟨rfl,hb5⟩;have V5:=hid (HVW.out.go hb5);have B5:=hid (HBL.out.trans (Off.of_below hb5));have D5:=hid (HD4.out.below (hb5.mono (Nat.le_of_lt HVW.out.c.lt)));clear hb5;have d4:w5.cell? ⟨g,4,none⟩=some (.bool false):=V5.out.c.cells.2.1;have f4:=V5.out.c.fz 4))
  go_end0
  have hno:rgt L=false:=HRE.out;exact⟨rfl,⟨_,_,_,_,_,by rw [hno];exact V5.out.c.set4 _⟩,fun h=>by (rw [hno] at h;cases h),B5.out.trans (off_set (X:=fun j=>j=g) _ _ _ rfl)⟩
 ·cases q2
  ·go_wp2_with (first|(go_at_call 53;refine HCK.out.mono ?_;rintro e w5 ⟨rfl,hb5⟩;have V5:=hid (HVW.out.go hb5);have B5:=hid (HBL.out.trans (Off.of_below hb5));have D5:=hid (HD4.out.below (hb5.mono (Nat.le_of_lt HVW.out.c.lt)));clear hb5)|(go_at_call 54;refine (takeAll_any L A n c V5.out HN.out hm D5.out (rt_sizes H1.out)).mono ?_;rintro e w6 ⟨pv,rfl,hc6,hm6,ho6⟩;rw [H2.out];have C6:=hid hc6;have M6:=hid (fun h=>hm6 (H2.out.trans h));have B6:=hid (B5.out.trans' ho6 (fun j hj=>by have h1:=V5.out.o;have h2:=HWB.out;rcases hj with h | h | h | h | h<;>omega));clear hc6 hm6 ho6;have d4:w6.cell? ⟨g,4,none⟩=some (.bool false):=C6.out.cells.2.1;have f4:=C6.out.fz 4))
   go_end0
   have hno:rgt L=false:=HRE.out;exact⟨rfl,⟨_,_,_,_,_,by rw [hno];exact C6.out.set4 _⟩,fun h=>by (rw [hno] at h;cases h),B6.out.trans (off_set (X:=fun j=>j=g) _ _ _ rfl)⟩
  ·cases q3
   ·go_wp2_with (first|(go_at_call 53;refine HCK.out.mono ?_;rintro e w5 ⟨rfl,hb5⟩;have V5:=hid (HVW.out.go hb5);have B5:=hid (HBL.out.trans (Off.of_below hb5));have D5:=hid (HD4.out.below (hb5.mono (Nat.le_of_lt HVW.out.c.lt)));clear hb5)|(go_at_call 54;refine (takeAll_any L A n c V5.out HN.out hm D5.out (rt_sizes H1.out)).mono ?_;rintro e w6 ⟨pv,rfl,hc6,hm6,ho6⟩;rw [H2.out];have C6:=hid hc6;have M6:=hid (fun h=>hm6 (H2.out.trans h));have B6:=hid (B5.out.trans' ho6 (fun j hj=>by have h1:=V5.out.o;have h2:=HWB.out;rcases hj with h | h | h | h | h<;>omega));clear hc6 hm6 ho6;obtain⟨hms,hpa⟩:=M6.out rfl;obtain⟨A7,c7,rfl,hl7,hc7,hp7⟩:=hpa.ls;have PL:=hid hp7;have PC:=hid hl7;have PD:=hid hc7;have V6:=hid (show VW w6 g bi be bn ba (3*L.length) (.slice A n c) o1 o2 o3 (.bool false) (.slice A7 (pts L).length c7) (vo (pts L)) from⟨C6.out,hms,V5.out.o⟩);have PO:=hid (show ∀ b o,A7=some ⟨b,o,none⟩→w.heap.size≤b from fun b o e=>by have h1:=(hpa.own b (by rw [e];rfl)).1;have h2:=B5.out.size;omega);clear hms hpa hp7 hl7 hc7;have c6:w6.cell? ⟨g,6,none⟩=some (.map (some bi)):=V6.out.c.cells.2.2.2.1;have c5:w6.cell? ⟨g,5,none⟩=some (.slice A7 (pts L).length c7):=V6.out.c.cells.2.2.1;obtain⟨nr,hnr⟩:∃ nr,((vo (pts L)).ino 1).getD zIn=nr:=⟨_,rfl⟩;obtain⟨nK,nM,nL,nS,nT⟩:=nr;have hlk:(Instr.lookup 77 (.map (some bi)) (.int .u32 1) false).run Tryz.prog w6=.ok (.agg #[.int .u8 nK,.int .u16 nM,.int .u32 nL,.int .u32 nS,.string nT]) w6:=(by have:=lookI (j:=1) V6.out.m.i (by decide);rw [hnr] at this;exact this);have hk1:((nK:Int)==1)=false:=(by rw [eqz1 rfl,← H3.out,kind_get,hnr]);clear hnr;have hfd:∀ wx:World,(Instr.field 35 (.agg #[.int .u8 nK,.int .u16 nM,.int .u32 nL,.int .u32 nS,.string nT]) 0).run Tryz.prog wx=.ok (.int .u8 nK) wx:=(fun _=>by kernel_rfl);have d4:w6.cell? ⟨g,4,none⟩=some (.bool false):=C6.out.cells.2.1;have f4:=C6.out.fz 4))
    go_end0
    have hno:rgt L=false:=HRE.out;exact⟨rfl,⟨_,_,_,_,_,by rw [hno];exact C6.out.set4 _⟩,fun h=>by (rw [hno] at h;cases h),B6.out.trans (off_set (X:=fun j=>j=g) _ _ _ rfl)⟩
   ·cases q4
    ·cases q5
     ·go_wp2_with (first|(go_at_call 53;refine HCK.out.mono ?_;rintro e w5 ⟨rfl,hb5⟩;have V5:=hid (HVW.out.go hb5);have B5:=hid (HBL.out.trans (Off.of_below hb5));have D5:=hid (HD4.out.below (hb5.mono (Nat.le_of_lt HVW.out.c.lt)));clear hb5)|(go_at_call 54;refine (takeAll_any L A n c V5.out HN.out hm D5.out (rt_sizes H1.out)).mono ?_;rintro e w6 ⟨pv,rfl,hc6,hm6,ho6⟩;rw [H2.out];have C6:=hid hc6;have M6:=hid (fun h=>hm6 (H2.out.trans h));have B6:=hid (B5.out.trans' ho6 (fun j hj=>by have h1:=V5.out.o;have h2:=HWB.out;rcases hj with h | h | h | h | h<;>omega));clear hc6 hm6 ho6;obtain⟨hms,hpa⟩:=M6.out rfl;obtain⟨A7,c7,rfl,hl7,hc7,hp7⟩:=hpa.ls;have PL:=hid hp7;have PC:=hid hl7;have PD:=hid hc7;have V6:=hid (show VW w6 g bi be bn ba (3*L.length) (.slice A n c) o1 o2 o3 (.bool false) (.slice A7 (pts L).length c7) (vo (pts L)) from⟨C6.out,hms,V5.out.o⟩);have PO:=hid (show ∀ b o,A7=some ⟨b,o,none⟩→w.heap.size≤b from fun b o e=>by have h1:=(hpa.own b (by rw [e];rfl)).1;have h2:=B5.out.size;omega);clear hms hpa hp7 hl7 hc7;have c6:w6.cell? ⟨g,6,none⟩=some (.map (some bi)):=V6.out.c.cells.2.2.2.1;have c5:w6.cell? ⟨g,5,none⟩=some (.slice A7 (pts L).length c7):=V6.out.c.cells.2.2.1;obtain⟨nr,hnr⟩:∃ nr,((vo (pts L)).ino 1).getD zIn=nr:=⟨_,rfl⟩;obtain⟨nK,nM,nL,nS,nT⟩:=nr;have hlk:(Instr.lookup 77 (.map (some bi)) (.int .u32 1) false).run Tryz.prog w6=.ok (.agg #[.int .u8 nK,.int .u16 nM,.int .u32 nL,.int .u32 nS,.string nT]) w6:=(by have:=lookI (j:=1) V6.out.m.i (by decide);rw [hnr] at this;exact this);have hk1:((nK:Int)==1)=true:=(by rw [eqz1 rfl,← H3.out,kind_get,hnr]);clear hnr;have hfd:∀ wx:World,(Instr.field 35 (.agg #[.int .u8 nK,.int .u16 nM,.int .u32 nL,.int .u32 nS,.string nT]) 0).run Tryz.prog wx=.ok (.int .u8 nK) wx:=(fun _=>by kernel_rfl))|(go_at_call 55;refine (containsFunc_any V6.out A7 _ c7 rfl (by rw [pts_length];have:=HN.out;omega) PL.out (fun p hp=>(pts_ok H1.out (List.all_eq_true.1 H2.out) p hp).1)).mono ?_;rintro e w7 ⟨rfl,hb7⟩;rw [H4.out];have V7:=hid (V6.out.go hb7);have B7:=hid (B6.out.trans (Off.of_below hb7));have PL7:=hid ((PL.out.below hb7).more hb7.size);clear hb7)|(go_at_call 57;refine (allUnderRoot_any V7.out (by have:=HN.out;omega) (chn_of (fun p hp=>(pts_ok H1.out (List.all_eq_true.1 H2.out) p hp).2.1) (stray_none H4.out)) (key_lt (fun p hp=>(pts_ok H1.out (List.all_eq_true.1 H2.out) p hp).1))).mono ?_;rintro e w8 ⟨rfl,hb8⟩;rw [H5.out];have V8:=hid (V7.out.go hb8);have B8:=hid (B7.out.trans (Off.of_below hb8));have PL8:=hid ((PL7.out.below hb8).more hb8.size);clear hb8;have d4:w8.cell? ⟨g,4,none⟩=some (.bool false):=V8.out.c.cells.2.1;have f4:=V8.out.c.fz 4))
      go_end0
      have hno:rgt L=false:=HRE.out;exact⟨rfl,⟨_,_,_,_,_,by rw [hno];exact V8.out.c.set4 _⟩,fun h=>by (rw [hno] at h;cases h),B8.out.trans (off_set (X:=fun j=>j=g) _ _ _ rfl)⟩
     ·go_wp2_with (first|(go_at_call 53;refine HCK.out.mono ?_;rintro e w5 ⟨rfl,hb5⟩;have V5:=hid (HVW.out.go hb5);have B5:=hid (HBL.out.trans (Off.of_below hb5));have D5:=hid (HD4.out.below (hb5.mono (Nat.le_of_lt HVW.out.c.lt)));clear hb5)|(go_at_call 54;refine (takeAll_any L A n c V5.out HN.out hm D5.out (rt_sizes H1.out)).mono ?_;rintro e w6 ⟨pv,rfl,hc6,hm6,ho6⟩;rw [H2.out];have C6:=hid hc6;have M6:=hid (fun h=>hm6 (H2.out.trans h));have B6:=hid (B5.out.trans' ho6 (fun j hj=>by have h1:=V5.out.o;have h2:=HWB.out;rcases hj with h | h | h | h | h<;>omega));clear hc6 hm6 ho6;obtain⟨hms,hpa⟩:=M6.out rfl;obtain⟨A7,c7,rfl,hl7,hc7,hp7⟩:=hpa.ls;have PL:=hid hp7;have PC:=hid hl7;have PD:=hid hc7;have V6:=hid (show VW w6 g bi be bn ba (3*L.length) (.slice A n c) o1 o2 o3 (.bool false) (.slice A7 (pts L).length c7) (vo (pts L)) from⟨C6.out,hms,V5.out.o⟩);have PO:=hid (show ∀ b o,A7=some ⟨b,o,none⟩→w.heap.size≤b from fun b o e=>by have h1:=(hpa.own b (by rw [e];rfl)).1;have h2:=B5.out.size;omega);clear hms hpa hp7 hl7 hc7;have c6:w6.cell? ⟨g,6,none⟩=some (.map (some bi)):=V6.out.c.cells.2.2.2.1;have c5:w6.cell? ⟨g,5,none⟩=some (.slice A7 (pts L).length c7):=V6.out.c.cells.2.2.1;obtain⟨nr,hnr⟩:∃ nr,((vo (pts L)).ino 1).getD zIn=nr:=⟨_,rfl⟩;obtain⟨nK,nM,nL,nS,nT⟩:=nr;have hlk:(Instr.lookup 77 (.map (some bi)) (.int .u32 1) false).run Tryz.prog w6=.ok (.agg #[.int .u8 nK,.int .u16 nM,.int .u32 nL,.int .u32 nS,.string nT]) w6:=(by have:=lookI (j:=1) V6.out.m.i (by decide);rw [hnr] at this;exact this);have hk1:((nK:Int)==1)=true:=(by rw [eqz1 rfl,← H3.out,kind_get,hnr]);clear hnr;have hfd:∀ wx:World,(Instr.field 35 (.agg #[.int .u8 nK,.int .u16 nM,.int .u32 nL,.int .u32 nS,.string nT]) 0).run Tryz.prog wx=.ok (.int .u8 nK) wx:=(fun _=>by kernel_rfl))|(go_at_call 55;refine (containsFunc_any V6.out A7 _ c7 rfl (by rw [pts_length];have:=HN.out;omega) PL.out (fun p hp=>(pts_ok H1.out (List.all_eq_true.1 H2.out) p hp).1)).mono ?_;rintro e w7 ⟨rfl,hb7⟩;rw [H4.out];have V7:=hid (V6.out.go hb7);have B7:=hid (B6.out.trans (Off.of_below hb7));have PL7:=hid ((PL.out.below hb7).more hb7.size);clear hb7)|(go_at_call 57;refine (allUnderRoot_any V7.out (by have:=HN.out;omega) (chn_of (fun p hp=>(pts_ok H1.out (List.all_eq_true.1 H2.out) p hp).2.1) (stray_none H4.out)) (key_lt (fun p hp=>(pts_ok H1.out (List.all_eq_true.1 H2.out) p hp).1))).mono ?_;rintro e w8 ⟨rfl,hb8⟩;rw [H5.out];have V8:=hid (V7.out.go hb8);have B8:=hid (B7.out.trans (Off.of_below hb8));have PL8:=hid ((PL7.out.below hb8).more hb8.size);clear hb8;have d4:w8.cell? ⟨g,4,none⟩=some (.bool false):=V8.out.c.cells.2.1;have f4:=V8.out.c.fz 4))
      go_end0
      have hyes:rgt L=true:=HRE.out;have hoc:=off_set (X:=fun j=>j=g) w8 ⟨g,4,none⟩ (.bool true) rfl;refine⟨rfl,⟨_,_,_,_,_,by rw [hyes];exact V8.out.c.set4 _⟩,fun _=>⟨bi,be,bn,ba,A7,c7,⟨by have:=V8.out.c.set4 (.bool true);rw [pts_length] at this;exact this,V8.out.m.keep (fun j hj=>hoc.block j (V8.out.m.xlt j hj) (fun e=>V8.out.off (e▸hj))),V8.out.o⟩,by have:=PC.out;rwa [pts_length] at this,PD.out,ls_off PL8.out (fun b o e=>by have h1:=PO.out b o e;have h2:=HGW.out;omega) hoc,PO.out,HWB.out,HGW.out⟩,B8.out.trans (off_set (X:=fun j=>j=g) _ _ _ rfl)⟩
    ·go_wp2_with (first|(go_at_call 53;refine HCK.out.mono ?_;rintro e w5 ⟨rfl,hb5⟩;have V5:=hid (HVW.out.go hb5);have B5:=hid (HBL.out.trans (Off.of_below hb5));have D5:=hid (HD4.out.below (hb5.mono (Nat.le_of_lt HVW.out.c.lt)));clear hb5)|(go_at_call 54;refine (takeAll_any L A n c V5.out HN.out hm D5.out (rt_sizes H1.out)).mono ?_;rintro e w6 ⟨pv,rfl,hc6,hm6,ho6⟩;rw [H2.out];have C6:=hid hc6;have M6:=hid (fun h=>hm6 (H2.out.trans h));have B6:=hid (B5.out.trans' ho6 (fun j hj=>by have h1:=V5.out.o;have h2:=HWB.out;rcases hj with h | h | h | h | h<;>omega));clear hc6 hm6 ho6;obtain⟨hms,hpa⟩:=M6.out rfl;obtain⟨A7,c7,rfl,hl7,hc7,hp7⟩:=hpa.ls;have PL:=hid hp7;have PC:=hid hl7;have PD:=hid hc7;have V6:=hid (show VW w6 g bi be bn ba (3*L.length) (.slice A n c) o1 o2 o3 (.bool false) (.slice A7 (pts L).length c7) (vo (pts L)) from⟨C6.out,hms,V5.out.o⟩);have PO:=hid (show ∀ b o,A7=some ⟨b,o,none⟩→w.heap.size≤b from fun b o e=>by have h1:=(hpa.own b (by rw [e];rfl)).1;have h2:=B5.out.size;omega);clear hms hpa hp7 hl7 hc7;have c6:w6.cell? ⟨g,6,none⟩=some (.map (some bi)):=V6.out.c.cells.2.2.2.1;have c5:w6.cell? ⟨g,5,none⟩=some (.slice A7 (pts L).length c7):=V6.out.c.cells.2.2.1;obtain⟨nr,hnr⟩:∃ nr,((vo (pts L)).ino 1).getD zIn=nr:=⟨_,rfl⟩;obtain⟨nK,nM,nL,nS,nT⟩:=nr;have hlk:(Instr.lookup 77 (.map (some bi)) (.int .u32 1) false).run Tryz.prog w6=.ok (.agg #[.int .u8 nK,.int .u16 nM,.int .u32 nL,.int .u32 nS,.string nT]) w6:=(by have:=lookI (j:=1) V6.out.m.i (by decide);rw [hnr] at this;exact this);have hk1:((nK:Int)==1)=true:=(by rw [eqz1 rfl,← H3.out,kind_get,hnr]);clear hnr;have hfd:∀ wx:World,(Instr.field 35 (.agg #[.int .u8 nK,.int .u16 nM,.int .u32 nL,.int .u32 nS,.string nT]) 0).run Tryz.prog wx=.ok (.int .u8 nK) wx:=(fun _=>by kernel_rfl))|(go_at_call 55;refine (containsFunc_any V6.out A7 _ c7 rfl (by rw [pts_length];have:=HN.out;omega) PL.out (fun p hp=>(pts_ok H1.out (List.all_eq_true.1 H2.out) p hp).1)).mono ?_;rintro e w7 ⟨rfl,hb7⟩;rw [H4.out];have V7:=hid (V6.out.go hb7);have B7:=hid (B6.out.trans (Off.of_below hb7));have PL7:=hid ((PL.out.below hb7).more hb7.size);clear hb7;have d4:w7.cell? ⟨g,4,none⟩=some (.bool false):=V7.out.c.cells.2.1;have f4:=V7.out.c.fz 4))
     go_end0
     have hno:rgt L=false:=HRE.out;exact⟨rfl,⟨_,_,_,_,_,by rw [hno];exact V7.out.c.set4 _⟩,fun h=>by (rw [hno] at h;cases h),B7.out.trans (off_set (X:=fun j=>j=g) _ _ _ rfl)⟩
end Go.Proofs.YtopepebcnaikiaaGreatDoor.Di
namespace Go.Proofs.YtopepebcnaikiaaGreatDoor.Dq
open Lib (hid)
open Go.ChangeShapes Go.WideShapes Go.ChangeAt Go.RowKit
theorem once_disable (w:World):(callFunc 153 #[]).run Tryz.prog w=.ok (.value (.tuple #[])) w:=run_call_mark0 Tryz.func153 (by kernel_rfl) (by kernel_rfl) (by kernel_rfl) .disable (by kernel_rfl) w
theorem once_enable (w:World):(callFunc 155 #[]).run Tryz.prog w=.ok (.value (.tuple #[])) w:=run_call_mark0 Tryz.func155 (by kernel_rfl) (by kernel_rfl) (by kernel_rfl) .enable (by kernel_rfl) w
theorem once_acquire (a:Addr) (w:World):(callFunc 156 #[.pointer (some a)]).run Tryz.prog w=.ok (.value (.tuple #[])) w:=run_call_marked Tryz.func156 (by kernel_rfl) (by kernel_rfl) (by kernel_rfl) .acquire (by kernel_rfl) a w
theorem once_release (a:Addr) (w:World):(callFunc 158 #[.pointer (some a)]).run Tryz.prog w=.ok (.value (.tuple #[])) w:=run_call_marked Tryz.func158 (by kernel_rfl) (by kernel_rfl) (by kernel_rfl) .releaseMerge (by kernel_rfl) a w
theorem store_deferred (a:Addr) (x:Value) (u:FrameMode) (w:World) (hc:w.cell? a=some x) (hz:w.frozen? a=false) :
  CallsD Tryz.prog 89 #[.pointer (some a),.bool true] u w fun e u' w'=>u'=u∧(e=.returned (.tuple #[])∧w'=w.drew.setCell a (.int .u32 1)):=by
 have hc':w.drew.cell? a=some x:=by go_simp
 have hz':w.drew.frozen? a=false:=by go_simp
 have hst:=run_call_store (P:=Tryz.prog) Tryz.func128 (by kernel_rfl) (by kernel_rfl) (by kernel_rfl) (by kernel_rfl) (k:=.u32) (y:=1) hc' hz'
 go_enter_d Tryz.func89,Tryz.ntmps89
 go_wp2
 go_region_calls
 all_goals (go_end0;exact⟨rfl,rfl⟩)
theorem unlock_deferred (a:Addr) (u:FrameMode) (w:World) (hc:w.cell? a=some (.int .i32 1)) (hz:w.frozen? a=false) :
  CallsD Tryz.prog 88 #[.pointer (some a)] u w fun e u' w'=>u'=u∧(e=.returned (.tuple #[])∧w'=w.setCell a (.int .i32 0)):=by
 have hd:=once_disable;have he:=once_enable;have hr:=once_release;have hadd:=run_call_add (P:=Tryz.prog) Tryz.func159 (by kernel_rfl) (by kernel_rfl) (by kernel_rfl) .i32 (by kernel_rfl) (y:=-1) (s:=0) hc hz (by simp [go_sem];rfl);have hcv0:=run_convert_to_unsafe (P:=Tryz.prog) (src:=197) (dst:=189) Tryz.underlying197 Tryz.underlying189 (by kernel_rfl) hc;have hcv1:=run_convert_to_unsafe (P:=Tryz.prog) (src:=223) (dst:=189) Tryz.underlying223 Tryz.underlying189 (by kernel_rfl) hc
 go_enter_d Tryz.func88,Tryz.ntmps88
 go_wp2
 go_end0
 go_wp2
theorem lock_free (a:Addr) (w:World) (hc:w.cell? a=some (.int .i32 0)) (hz:w.frozen? a=false) :
  Calls Tryz.prog 87 #[.pointer (some a)] w fun e w'=>e=.returned (.tuple #[])∧w'=w.setCell a (.int .i32 1):=by
 have hd:=once_disable;have he:=once_enable;have ha:=once_acquire;have hcas:=run_call_cas_hit (P:=Tryz.prog) Tryz.func154 (by kernel_rfl) (by kernel_rfl) (by kernel_rfl) .i32 (by kernel_rfl) (y:=1) hc hz;have hc':(w.setCell a (.int .i32 1)).cell? a=some (.int .i32 1):=World.cell?_setCell_same w a _ hc;have hcv0:=run_convert_to_unsafe (P:=Tryz.prog) (src:=197) (dst:=189) Tryz.underlying197 Tryz.underlying189 (by kernel_rfl) hc';have hcv1:=run_convert_to_unsafe (P:=Tryz.prog) (src:=223) (dst:=189) Tryz.underlying223 Tryz.underlying189 (by kernel_rfl) hc'
 go_enter Tryz.func87,Tryz.ntmps87
 go_wp2
 first | go_end0 | (simp only [Exit.inBlock,Exit.then];refine bodyPost_ret (results_none rfl _ _ _) rfl ?_) | refine bodyPost_ret (results_none rfl _ _ _) rfl ?_
 go_wp2
def oncEnd (w1:World) (g:Nat):World:=(w1.drew.setCell ⟨g,1,none⟩ (.int .u32 1)).setCell ⟨g,2,none⟩ (.int .i32 0)
def oncBeg (w:World) (g:Nat):World:=w.setCell ⟨g,2,none⟩ (.int .i32 1)
def OncHeld (w:World) (g:Nat):Prop:=(w.cell? ⟨g,1,none⟩=some (.int .u32 0)∧w.cell? ⟨g,2,none⟩=some (.int .i32 1))∧w.frozen? ⟨g,1,none⟩=false∧w.frozen? ⟨g,2,none⟩=false
theorem slow_first (g:Nat) (w:World) (R:World→Prop) (h0:w.cell? ⟨g,1,none⟩=some (.int .u32 0)) (h1:w.cell? ⟨g,2,none⟩=some (.int .i32 0)) (f1:w.frozen? ⟨g,2,none⟩=false)
  (hf:Calls Tryz.prog 33 #[.pointer (some ⟨g,0,none⟩)] (oncBeg w g) fun e w'=>e=.returned (.tuple #[])∧OncHeld w' g∧R w') :
  Calls Tryz.prog 52 #[.pointer (some ⟨g,1,none⟩),.func (.func 33) #[.pointer (some ⟨g,0,none⟩)] #[]] w fun e w'=>e=.returned (.tuple #[])∧∃ w1,R w1∧w'=oncEnd w1 g:=by
 have HF:=hid hf;clear hf;have hl:=run_call_load (P:=Tryz.prog) Tryz.func86 (by kernel_rfl) (by kernel_rfl) (by kernel_rfl) .u32 (by kernel_rfl) (w:=oncBeg w g) (a:=⟨g,1,none⟩) (x:=0) ((World.cell?_setCell_other _ ⟨g,2,none⟩ ⟨g,1,none⟩ _ (by simp)).trans h0);have hnot:∀ (x:Bool) (w:World),(Op.unary .not (.bool x)).run Tryz.prog w=.ok (.bool (!x)) w:=fun _ _=>rfl
 go_enter_defers Tryz.func52,Tryz.ntmps52
 go_wp2_with (go_at_call 87;refine (lock_free ⟨g,2,none⟩ _ (by go_simp) (by go_simp)).mono ?_;rintro e w' ⟨rfl,rfl⟩)
 change Calls _ _ _ (oncBeg w g) _
 go_at_call 51
 go_in
 go_wp2_with (first | (go_at_call 33;refine HF.out.mono ?_;rintro e w1 ⟨rfl,hk,hR⟩))
 obtain⟨⟨k0,k1⟩,g0,g1⟩:=hk;have HR:=hid hR;clear hR HF;refine leaves_cons (f:=89) (args:=#[.pointer (some ⟨g,1,none⟩),.bool true]) (by simp) (by simp [go_sem]) ?_;refine (store_deferred ⟨g,1,none⟩ (.int .u32 0) .returning _ k0 g0).mono ?_;rintro e u' w'' ⟨rfl,rfl,rfl⟩;refine leaves_cons (f:=88) (args:=#[.pointer (some ⟨g,2,none⟩)]) (by simp [settle]) (by simp [go_sem]) ?_;refine (unlock_deferred ⟨g,2,none⟩ _ _ ?_ (by simp [g1])).mono ?_
 ·refine (World.cell?_setCell_other _ ⟨g,1,none⟩ ⟨g,2,none⟩ _ (by simp)).trans ?_;rw [World.cell?_drew];exact k1
 rintro e u' w'' ⟨rfl,rfl,rfl⟩;simp [Leaves,settle,results,Tryz.results52];exact⟨w1,HR.out,rfl⟩
theorem do_first (g:Nat) (w:World) (R:World→Prop) (h0:w.cell? ⟨g,1,none⟩=some (.int .u32 0)) (h1:w.cell? ⟨g,2,none⟩=some (.int .i32 0)) (f1:w.frozen? ⟨g,2,none⟩=false)
  (hf:Calls Tryz.prog 33 #[.pointer (some ⟨g,0,none⟩)] (oncBeg w g) fun e w'=>e=.returned (.tuple #[])∧OncHeld w' g∧R w') :
  Calls Tryz.prog 32 #[.pointer (some ⟨g,1,none⟩),.func (.func 33) #[.pointer (some ⟨g,0,none⟩)] #[]] w fun e w'=>e=.returned (.tuple #[])∧∃ w1,R w1∧w'=oncEnd w1 g:=by
 have hnot:∀ (x:Bool) (w:World),(Op.unary .not (.bool x)).run Tryz.prog w=.ok (.bool (!x)) w:=fun _ _=>rfl
 have hl:=run_call_load (P:=Tryz.prog) Tryz.func86 (by kernel_rfl) (by kernel_rfl) (by kernel_rfl) .u32 (by kernel_rfl) h0;have HS:=hid (slow_first g w R h0 h1 f1 hf);clear hf
 go_enter Tryz.func32,Tryz.ntmps32
 go_wp2_with (first | (go_at_call 52;refine HS.out.mono ?_;rintro e w' ⟨rfl,w1,hR,rfl⟩) | (go_at_call 51;go_in))
 go_end0
 exact⟨rfl,w1,hR,rfl⟩
end Go.Proofs.YtopepebcnaikiaaGreatDoor.Dq
namespace Go.Proofs.YtopepebcnaikiaaGreatDoor.Di
open Lib (hid)
open Go.ChangeShapes Go.WideShapes Go.ChangeAt Go.RowKit
open BigFrame
open Ar Rg
open Ino
open It (Itm)
variable {w w' wr:World}{g bi be bn ba bu N M bb:Nat}{it o1 o2 o3 rv pv m1 m2 m3 m4 v:Value}{s s':Vo}{ps:List Pt}{U:Nat→Option Unit}
theorem VC.set1 (h:VC w g it o1 o2 o3 rv pv m1 m2 m3 m4) (u:Value):VC (w.setCell ⟨g,1,none⟩ u) g it u o2 o3 rv pv m1 m2 m3 m4:=by
 unfold VC at h ⊢;simp [World.setCell,h,Array.getElem?_modify]
theorem VC.set2 (h:VC w g it o1 o2 o3 rv pv m1 m2 m3 m4) (u:Value):VC (w.setCell ⟨g,2,none⟩ u) g it o1 u o3 rv pv m1 m2 m3 m4:=by
 unfold VC at h ⊢;simp [World.setCell,h,Array.getElem?_modify]
theorem VolAt.off {L:List Itm}{lo:Nat}(h:VolAt w g lo it o1 o2 o3 L){o1' o2':Value}(ho:Off (fun j=>j=g) w w') (hc:∀ rv pv m1 m2 m3 m4,VC w g it o1 o2 o3 rv pv m1 m2 m3 m4→VC w' g it o1' o2' o3 rv pv m1 m2 m3 m4):VolAt w' g lo it o1' o2' o3 L:=by
 obtain⟨bi,be,bn,ba,A,c,hV,h1,h2,h3,hA,hb,hg⟩:=h;exact⟨bi,be,bn,ba,A,c,⟨hc _ _ _ _ _ _ hV.c,hV.m.keep (fun j hj=>ho.block j (hV.m.xlt j hj) (fun e=>hV.off (e▸hj))),hV.o⟩,h1,h2,ls_off h3 (fun b o e=>by have:=hA b o e;omega) ho,hA,hb,hg⟩
theorem VolAt.go {L:List Itm}{lo:Nat}(h:VolAt w g lo it o1 o2 o3 L) (hb:Below w.heap.size w w'):VolAt w' g lo it o1 o2 o3 L:=by
 obtain⟨bi,be,bn,ba,A,c,hV,h1,h2,h3,hA⟩:=h;exact⟨bi,be,bn,ba,A,c,hV.go hb,h1,h2,(h3.below hb).more hb.size,hA⟩
theorem VolAt.out {L:List Itm}{lo r:Nat}(h:VolAt w g lo it o1 o2 o3 L) (ho:Off (fun j=>j=r) w w') (hr:r<lo) (hg:r≠g):VolAt w' g lo it o1 o2 o3 L:=by
 obtain⟨bi,be,bn,ba,A,c,hV,h1,h2,h3,hA,hb,hgl⟩:=h;have hv:=hV.o;exact⟨bi,be,bn,ba,A,c,⟨hV.c.keep (ho.block g hV.c.lt (fun e=>hg e.symm)),hV.m.keep (fun j hj=>ho.block j (hV.m.xlt j hj) (fun e=>by rcases hj with h | h | h | h<;>omega)),hV.o⟩,h1,h2,ls_off h3 (fun b o e=>by have:=hA b o e;omega) ho,hA,hb,hgl⟩
noncomputable def ckE (L:List Itm):Int:=if rgt L then 0 else 9
def CkPost (g:Nat) (it:Value) (L:List Itm) (w:World) (e:Ending) (w':World):Prop :=
 e=.returned (.int .i64 (ckE L))∧(rgt L=true→VolAt w' g w.heap.size it (.int .u32 1) (.int .i32 0) (.int .u32 0) L)∧Off (fun j=>j=g) w w'
theorem check_any (L:List Itm) (A:Option Addr) (n c:Nat) (hC:VC w g (.slice A n c) (.int .u32 0) (.int .i32 0) (.int .u32 0) (.bool false) (.slice none 0 0) m1 m2 m3 m4) (hn:n=L.length) (hm:n≤1390000) (hD:Ls It.enc 2 w g A L) :
  Calls Tryz.prog 22 #[.pointer (some ⟨g,0,none⟩)] w (CkPost g (.slice A n c) L w):=by
 have hsz0:(Dq.oncBeg w g).heap.size=w.heap.size:=by simp [Dq.oncBeg]
 have HL:=hid (look_any (w:=Dq.oncBeg w g) L A n c (hC.set2 (.int .i32 1)) hn hm (hD.below ((Below.refl g w).setCell (Nat.le_refl _) _)));have HO:=hid (Dq.do_first g w (fun w1=>(∃ pv m1 m2 m3 m4,VC w1 g (.slice A n c) (.int .u32 0) (.int .i32 1) (.int .u32 0) (.bool (rgt L)) pv m1 m2 m3 m4)∧(rgt L=true→VolAt w1 g w.heap.size (.slice A n c) (.int .u32 0) (.int .i32 1) (.int .u32 0) L)∧Off (fun j=>j=g) w w1) (cell_of_row _ _ 1 _ _ _ hC) (cell_of_row _ _ 2 _ _ _ hC) (hC.fz 2) (HL.out.mono (by
  rintro e w1 ⟨rfl,⟨pv,m1,m2,m3,m4,hc1⟩,hv1,hb1⟩;rw [hsz0] at hv1;exact⟨rfl,⟨⟨cell_of_row _ _ 1 _ _ _ hc1,cell_of_row _ _ 2 _ _ _ hc1⟩,hc1.fz 1,hc1.fz 2⟩,⟨pv,m1,m2,m3,m4,hc1⟩,hv1,(off_set (X:=fun j=>j=g) w _ _ rfl).trans hb1⟩)))
 clear HL hC hn hD hsz0
 go_enter Tryz.func22,Tryz.ntmps22
 go_wp2_with fail
 refine HO.out.mono ?_;rintro e w2 ⟨rfl,w1,⟨⟨pv,m1,m2,m3,m4,hc1⟩,hv1,hb1⟩,rfl⟩;have hof:Off (fun j=>j=g) w1 (Dq.oncEnd w1 g):=(Off.of_below (X:=fun j=>j=g) (Below.refl _ _).drew).trans ((off_set (X:=fun j=>j=g) w1.drew ⟨g,1,none⟩ (.int .u32 1) rfl).trans (off_set (X:=fun j=>j=g) _ ⟨g,2,none⟩ (.int .i32 0) rfl));have hcc:∀ rv pv m1 m2 m3 m4,VC w1 g (.slice A n c) (.int .u32 0) (.int .i32 1) (.int .u32 0) rv pv m1 m2 m3 m4→VC (Dq.oncEnd w1 g) g (.slice A n c) (.int .u32 1) (.int .i32 0) (.int .u32 0) rv pv m1 m2 m3 m4:=fun rv pv m1 m2 m3 m4 h=>((h.keep (w':=w1.drew) rfl).set1 _).set2 _
 have HC2:=hid (hcc _ _ _ _ _ _ hc1);have HV2:=hid (fun h=>(hv1 h).off hof hcc);have HB2:=hid (hb1.trans hof);clear hc1 hv1 hb1 hof hcc HO;generalize Dq.oncEnd w1 g=w2 at *;have c4:w2.cell? ⟨g,4,none⟩=some (.bool (rgt L)):=HC2.out.cells.2.1;have HE:=hid (show ckE L=if rgt L then 0 else 9 from rfl);clear HC2;cases hr:rgt L
 ·rw [hr] at c4;have HR:=hid hr;clear hr
  go_wp2
  go_ret
  exact⟨by rw [HE.out,HR.out];rfl,fun h=>(by rw [HR.out] at h;cases h),HB2.out⟩
 ·rw [hr] at c4;have HR:=hid hr;clear hr
  go_wp2
  go_ret
  exact⟨by rw [HE.out,HR.out];rfl,fun _=>HV2.out HR.out,HB2.out⟩
end Go.Proofs.YtopepebcnaikiaaGreatDoor.Di
namespace Go.Proofs.YtopepebcnaikiaaGreatDoor.Ph
open Lib (hid)
open Go.ChangeShapes Go.WideShapes Go.ChangeAt Go.RowKit
open BigFrame
open Ar
theorem all_take {D:List ByteArray}{i:Nat}{x:ByteArray}(hx:D[i]?=some x) (h:(D.take i).all nb=true):(D.take (i+1)).all nb=nb x:=by
 obtain⟨hi,he⟩:=List.getElem?_eq_some_iff.1 hx;rw [List.take_succ_eq_append_getElem hi,List.all_append,h,he];simp
theorem all_no_of {D:List ByteArray}{i:Nat}{x:ByteArray}(hx:D[i]?=some x) (h:nb x=false):D.all nb=false:=by
 rw [List.all_eq_false];exact⟨x,List.mem_of_getElem? hx,by rw [h];decide⟩
theorem allNames_any (D:List ByteArray) (A:Option Addr) (n c B:Nat) (hn:n=D.length) (hm:n≤9223372036854775807) (w:World) (hB:B≤w.heap.size) (hD:Ls en1 1 w B A D) :
  Calls Tryz.prog 27 #[.slice A n c] w fun e w'=>e=.returned (.bool (D.all nb))∧w=w':=by
 have HN:=hid hn;have HD:=hid hD;clear hn hD
 go_enter Tryz.func27,Tryz.ntmps27
 go_wp2
 go_loop [7] (fun v=>∃ i:Nat,i≤n∧v=.int .i64 i∧Hid ((D.take i).all nb=true)) (fun v=>n-(intOf v).toNat)
 case atStart=>exact⟨0,Nat.zero_le _,rfl,hid rfl⟩
 case round =>
  obtain⟨i,hi,rfl,HI⟩:=hrel;by_cases hlt:i<n
  ·obtain⟨x,hx⟩:∃ x,D[i]?=some x:=⟨_,List.getElem?_eq_getElem (by rw [← HN.out];exact hlt)⟩;obtain⟨b,o,hAe,hb,hc⟩:=one_cell HD.out hx;have hbs:b<w.heap.size:=by omega
   clear HD;subst hAe;have HX:=hid hx;have HC:=hid (fun w=>name_any x w (fun c w=>contains_any x c w));clear hx;cases hq:nb x
   ·rw [hq] at HC;have HE:=hid (all_no_of HX.out hq);clear hq HI
    go_wp2_with (go_at_call 43;refine (HC.out _).mono ?_;rintro e w' ⟨rfl,rfl⟩)
    go_ret
    exact⟨by rw [HE.out];rfl,rfl⟩
   ·rw [hq] at HC;have HE:=hid ((all_take HX.out (Hid.out HI)).trans hq);clear hq HI
    go_wp2_with (go_at_call 43;refine (HC.out _).mono ?_;rintro e w' ⟨rfl,rfl⟩)
    go_round
    case rel=>exact⟨i+1,by omega,by go_num,HE⟩
    case measure=>simp [intOf];omega
  ·obtain rfl:i=n:=by omega
   rw [List.take_of_length_le (by rw [← HN.out];exact Nat.le_refl _)] at HI
   go_wp2
   go_ret
   exact⟨by rw [Hid.out HI];rfl,rfl⟩
abbrev MkS (w wr:World) (v:Value) (D:List ByteArray):Prop:=Mk en1 1 9 w wr v D
theorem infoS:(Tryz.prog.info? 9).map (fun i=>(i.zero,i.size,i.bytes))=some (some (.string ByteArray.empty),1,16):=by kernel_rfl
theorem catS {ops:Array Oper}{rest:List Oper}{o:Oper}{a:Act}{Q:Exit→Act→World→Prop}{w wr:World}{v:Value}{D:List ByteArray}(hM:MkS w wr v D) (E:List ByteArray) (A:Option Addr) (m c:Nat){B:Nat}(hm:m=E.length) (hL:Ls en1 1 wr B A E) (hlen:D.length+m≤8796093022208)
  (hgd:o.guard=none) (s x:Operand) (ho:o.op=.call { callee:=.builtin .append,args:=#[s,x],argTypes:=#[49,49] }) (hs:a.eval s=v) (hx:a.eval x=.slice A m c)
  (h:∀ v' w',MkS w w' v' (D++E)→wr.grownBy w' v.ownBlock→wpList Tryz.prog ops Q rest (a.put o.dst v') w'):wpList Tryz.prog ops Q (o::rest) a wr:=by
 obtain⟨i0,hi,hz0,hz1,hz2⟩:=info_parts infoS;exact wpList_cat 49 i0 _ 16 Tryz.underlying49 hi hz0 hz1 hz2 rfl (by decide) en1_len en1_one hM m c hm hL (by unfold maxLen;omega) (by omega) hgd s x ho hs hx h
theorem ls_new_at {α:Type}{en:α→List Value}{k:Nat}(w:World) (x:α) (e:TypeId){N:Nat}(hN:w.heap.size=N):Ls en k (w.alloc (.cells (en x).toArray e)) (N+1) (some ⟨N,0,none⟩) [x]:=by
 subst hN;exact Ls.new _ x _ _ (Nat.lt_succ_self _)
def bsL (l:List UInt8):ByteArray:=⟨l.toArray⟩
def cutB (s:ByteArray):List ByteArray:=(cut s.data.toList).map bsL
theorem bsL_list (l:List UInt8):(bsL l).data.toList=l:=rfl
theorem extract_list (s:ByteArray) (i j:Nat):(s.extract i j).data.toList=(s.data.toList.drop i).take (j-i):=by
 rw [ByteArray.data_extract,Array.toList_extract,List.extract_eq_take_drop]
theorem cutB_none {s:ByteArray}(h:s.data.toList.contains 47=false):cutB s=[s]:=by
 unfold cutB;rw [cut_none (by intro hm;rw [← List.contains_iff_mem] at hm;rw [h] at hm;cases hm)];rfl
theorem cutB_at {s:ByteArray}{i:Nat}(hi:i<s.size) (h:(s.data.toList.take i).contains 47=false) (hc:(s[i]==47)=true):cutB s=s.extract 0 i::cutB (s.extract (i+1) s.size):=by
 have hl:s.data.toList=s.data.toList.take i++47::s.data.toList.drop (i+1):=by
  have hi':i<s.data.toList.length:=by simpa using hi
  have:s.data.toList[i]=47:=by
   rw [beq_iff_eq] at hc;exact hc
  rw [← this,List.getElem_cons_drop,List.take_append_drop]
 have hn:47 ∉ s.data.toList.take i:=by intro hm;rw [← List.contains_iff_mem] at hm;rw [h] at hm;cases hm
 unfold cutB;have e1:cut s.data.toList=s.data.toList.take i::cut (s.data.toList.drop (i+1)):=by
  conv=>lhs;rw [hl]
  rw [cut_app _ hn]
 rw [e1,List.map_cons,extract_list,List.take_of_length_le (i:=s.size-(i+1)) (by rw [List.length_drop,Array.length_toList];exact Nat.le_refl _)]
 congr 1
 apply ByteArray.ext;apply Array.toList_inj.1;rw [bsL_list,extract_list];simp
def strSz:Value→Nat
 | .string t=>t.size
 | _=>0
theorem parts_any (s:ByteArray) (hs:s.size≤1048576) (w:World) :
  Calls Tryz.prog 42 #[.string s] w fun e w'=>∃ v,e=.returned v∧MkS w w' v (cutB s):=by
 go_enter Tryz.func42,Tryz.ntmps42
 go_wp2_with fail
 go_step3
 go_wp2_with fail
 go_step3
 go_wp2_with fail
 go_loopw [0,3] (fun sv lv wr=>∃ (t:ByteArray) (D:List ByteArray),sv=.string t∧Hid (cutB s=D++cutB t)∧D.length+t.size≤1048576∧Hid (MkS w wr lv D)) (fun sv _ _=>strSz sv)
 case atStart=>exact⟨s,[],rfl,hid rfl,by simpa using hs,hid (Mk.nil (Below.refl _ _))⟩
 case round =>
  obtain⟨t,D,rfl,HC,hD,HM⟩:=hrel
  go_wp2_with fail
  go_loopw [0,3,7] (fun sv lv v wr2=>∃ i:Nat,sv=.string t∧i≤t.size∧v=.int .i64 i∧Hid ((t.data.toList.take i).contains 47=false)∧Hid (MkS w wr2 lv D)) (fun _ _ v _=>t.size-(intOf v).toNat)
  case atStart=>exact⟨0,rfl,Nat.zero_le _,by go_num,hid rfl,HM⟩
  case round =>
   obtain⟨i,rfl,hi,rfl,HI,HM2⟩:=hrel;clear HM;by_cases hlt:i<t.size
   ·have h47:=has_take (c:=47) hlt;rw [Hid.out HI,Bool.false_or] at h47;cases b47:(t[i]==47)
    ·have c47:((t[i].toNat:Int)==(((⟨#[47]⟩:ByteArray)[0]'(by decide)).toNat:Int))=false:=byte_ne (c:=(⟨#[47]⟩:ByteArray)[0]'(by decide)) b47;have HI2:=hid (h47.trans b47);clear h47 b47 HI
     go_wp2_with fail
     go_quiet (fail)
     go_wp2_with fail
     refine⟨⟨i+1,rfl,by omega,by go_num,HI2,hid ((Hid.out HM2).drewN nq)⟩,?_⟩;simp [intOf];omega
    ·have c47:((t[i].toNat:Int)==(((⟨#[47]⟩:ByteArray)[0]'(by decide)).toNat:Int))=true:=byte_eq (c:=(⟨#[47]⟩:ByteArray)[0]'(by decide)) b47;have HC2:=hid (show cutB s=(D++[t.extract 0 i])++cutB (t.extract (i+1) t.size) by rw [Hid.out HC,cutB_at hlt (Hid.out HI) b47,List.append_assoc];rfl);clear h47 b47 HI
     go_wp2_with fail
     go_quiet (fail)
     have HM3:=hid ((Hid.out HM2).drewN nq);clear HM2;generalize World.drewN wr nq=W3 at *
     go_wp2_with (at_builtin;refine catS (HM3.out.alloc _) [t.extract 0 i] _ 1 1 rfl (Ls.new _ _ _ _ (Nat.lt_succ_self _)) (by omega) rfl _ _ rfl rfl rfl ?_;intro v3 w3 hM hG;have HM4:=hid hM;clear hM hG)
     refine⟨⟨t.extract (i+1) t.size,D++[t.extract 0 i],rfl,HC2,?_,HM4⟩,?_⟩
     ·rw [List.length_append,ByteArray.size_extract];simp;omega
     ·show (t.extract (i+1) t.size).size<t.size
      rw [ByteArray.size_extract];omega
   ·obtain rfl:i=t.size:=by omega
    rw [List.take_of_length_le (by simp)] at HI;have HC2:=hid (show D++[t]=cutB s by rw [Hid.out HC,cutB_none (Hid.out HI)]);clear HI
    go_wp2_with (at_builtin;refine catS ((Hid.out HM2).alloc _) [t] _ 1 1 rfl (Ls.new _ _ _ _ (Nat.lt_succ_self _)) (by omega) rfl _ _ rfl rfl rfl ?_;intro v3 w3 hM hG;have HM4:=hid hM;clear hM hG)
    rw [Exit.noGoto_ret]
    go_ret
    exact⟨_,rfl,by rw [← HC2.out];exact HM4.out⟩
end Go.Proofs.YtopepebcnaikiaaGreatDoor.Ph
