import Derived.Test.YtlpejbbmemhloaaGreatDoorNdA
import Derived.Test.YtlpejbbmemhloaaGreatDoorRgT
import Derived.Test.YtlpejbbmemhloaaGreatDoorNdU
import Derived.Test.YtlpejbbmemhloaaGreatDoorNdC
import Derived.Test.YtlpejbbmemhloaaGreatDoorShf
import Derived.Test.YtlpejbbmemhloaaGreatDoorSum
import Derived.Test.YtlpejbbmemhloaaGreatDoorTrm
import Derived.Maps.AppendAt
set_option maxRecDepth 100000
namespace Go.Proofs.YtlpejbbmemhloaaGreatDoor
theorem Gb1a {α:Type}(l:List α)(i:Nat)(x:α):l.toArray.setIfInBounds i x=(l.set i x).toArray:=List.setIfInBounds_toArray ..
theorem Gb1b {α:Type}{a b:α}{l:List α}:(a::l).set 0 b=b::l:=List.set_cons_zero
theorem Gb1c {α:Type}{a b:α}{l:List α}{n:Nat}:(a::l).set (n+1) b=a::l.set n b:=List.set_cons_succ
end Go.Proofs.YtlpejbbmemhloaaGreatDoor
namespace Go.Proofs.YtlpejbbmemhloaaGreatDoor.Nd
open Lib (hid)
set_option linter.unusedVariables false
set_option linter.unusedSimpArgs false
open Go.ChangeShapes Go.WideShapes Go.ChangeAt Go.RowKit
open Ar Rg
open BigFrame
open Pk (u8s u8s_length)
end Go.Proofs.YtlpejbbmemhloaaGreatDoor.Nd
namespace Go.Proofs.YtlpejbbmemhloaaGreatDoor.Ar
open Lib (hid)
open Go.RowKit
section
variable {α:Type}{enc:α→List Value}{k q:Nat}{e:TypeId}{w w' wr:World}{v:Value}{D:List α}
theorem Mk.grownQ (h:Mk enc k e w wr v D) (hg:wr.grownBy w' (some q)) (hq:w.heap.size≤q) (hne:v.ownBlock≠some q):Mk enc k e w w' v D :=
 ⟨h.1.kept hg (Or.inr hne),h.2.grown hg h.2.size (fun k hk=>by cases hk;exact hq)⟩
theorem Mk.off {cs:Array Value}{t:TypeId}{f:Nat×Nat}(h:Mk enc k e w wr v D) (hq:wr.heap[q]?=some (.cells cs t f)) (ht:t≠e):v.ownBlock≠some q:=by
 rcases h.1.2 with ⟨rfl,_⟩ | ⟨g,cap,cur,rfl,_,hg,_⟩
 ·simp [Value.ownBlock]
 ·intro h
  simp only [Value.ownBlock,Option.some.injEq] at h
  subst h
  rw [hg] at hq
  simp only [Option.some.injEq,Obj.cells.injEq] at hq
  exact ht hq.2.1.symm
end
end Go.Proofs.YtlpejbbmemhloaaGreatDoor.Ar
namespace Go.Proofs.YtlpejbbmemhloaaGreatDoor.Nd
open Lib (hid)
set_option linter.unusedVariables false
set_option linter.unusedSimpArgs false
open Go.ChangeShapes Go.WideShapes Go.ChangeAt Go.RowKit
open Ar Rg
open BigFrame
open Pk (u8s u8s_length)
theorem fill1 (Z cs:Array Value) (h:Z.size=cs.size):Instr.fill (fun i=>some (i*cs.size,cs.size)) Z [(0,.agg cs)]=some cs:=by
 rw [Instr.fill.eq_2]
 simp only [Nat.zero_mul,Value.cells]
 rw [if_neg (by simp [h]),Instr.fill.eq_1]
 congr 1
 obtain⟨l⟩:=cs
 obtain⟨zl⟩:=Z
 have:=fold_put l zl [] 0 0 (by simpa using h) rfl
 simp only [List.nil_append] at this
 rw [← Array.foldl_toList]
 simp only [Array.toList_zipIdx]
 exact this
section
variable {P:Program}
theorem run_slice1 (w:World) (S e:TypeId) (i:TypeInfo) (z:Value) (cs:Array Value) (hS:P.underlying S=some (.slice e)) (hi:P.info? e=some i) (hz:i.zero=some z) (hsz:i.size=cs.size) (h0:0<cs.size) (hm:cs.size≤2 ^ 24) :
  (Instr.buildSlice S 1 #[(0,.agg cs)]).run P w=.ok (.slice (some ⟨w.heap.size,0,none⟩) 1 1) (w.alloc (.cells cs e)):=by
 have hu:=run_underlying (P:=P) hS w
 have hcs:P.cellsOf e=cs.size:=by unfold Program.cellsOf;rw [hi];exact hsz
 have hso:=run_sizeOf (P:=P) w hi
 rw [hcs] at hso
 unfold Instr.buildSlice
 rw [Sem.run_bind,hu,Result.andThen_ok]
 simp only []
 rw [Sem.run_bind,hso,Result.andThen_ok]
 simp only [Nat.one_mul]
 rw [if_neg (by omega),if_neg (by omega)]
 have hz':(zeroValue e).run P w=.ok z w:=by simp [zeroValue,typeInfo,hi,hz]
 rw [Sem.run_bind,hz',Result.andThen_ok]
 simp only [pure_bind]
 rw [fill1 _ cs (by simp)]
 simp [newRow,newObj]
 rfl
variable {o:Oper}{a:Act}{K:Act→World→Prop}{Q:Exit→Act→World→Prop}{ops:Array Oper}{rest:List Oper}
theorem op_slice1 {w:World}(S e:TypeId) (x:Operand) (i:TypeInfo) (z:Value) (cs:Array Value) (ho:o.op=.buildSlice S 1 #[(0,x)]) (hx:a.eval x=.agg cs)
  (hS:P.underlying S=some (.slice e)) (hi:P.info? e=some i) (hz:i.zero=some z) (hsz:i.size=cs.size) (h0:0<cs.size) (hm:cs.size≤2 ^ 24)
  (h:K (a.put o.dst (.slice (some ⟨w.heap.size,0,none⟩) 1 1)) (w.alloc (.cells cs e))):Oper.wp P o a w K Q:=by
 unfold Oper.wp execOp
 simp only [ho,List.map_toArray,List.map_cons,List.map_nil,hx,Sem.run_bind,Sem.run_pure,Result.andThen_ok,run_slice1 w S e i z cs hS hi hz hsz h0 hm]
 exact h
section
variable {α:Type}{enc:α→List Value}{k q:Nat}{e:TypeId}{w w' wr:World}{v:Value}{D:List α}
theorem op_cat (S:TypeId) (i:TypeInfo) (z:Value) (bytes:Nat) (hS:P.underlying S=some (.slice e)) (hi:P.info? e=some i) (hz:i.zero=some z) (hsize:i.size=k) (hby:i.bytes=bytes) (hzs:z.cells.size=k) (hk0:0<k)
  (hk:∀ x,(enc x).length=k) (h1:∀ x,∀ u∈enc x,u.oneCell'=true) (hM:Mk enc k e w wr v D) (y:α) (g c:Nat){t:TypeId}{f:Nat×Nat}(hrow:wr.heap[g]?=some (.cells (enc y).toArray t f)) (hlen:D.length+1≤maxLen) (hbytes:(D.length+1)*bytes≤140737488355328)
  (s x:Operand) (ho:o.op=.call { callee:=.builtin .append,args:=#[s,x],argTypes:=#[S,S] }) (hs:a.eval s=v) (hx:a.eval x=.slice (some ⟨g,0,none⟩) 1 c)
  (h:∀ v' w',Mk enc k e w w' v' (D++[y])→wr.grownBy w' v.ownBlock→(v'.ownBlock=v.ownBlock∨v'.ownBlock=some wr.heap.size)→K (a.put o.dst v') w'):Oper.wp P o a wr K Q:=by
 obtain⟨v',w',hr,h2,h3,_,h5⟩:=run_append_own_at (P:=P) wr w.heap.size S o.type e i z k bytes hS hi hz hsize hby hzs hk0 v D.length (D.flatMap enc) hM.1 ⟨g,0,none⟩ 1 c (enc y) (by rw [hk,Nat.one_mul])
  (fun j u hu=>by
   rw [Ar.add_plain,Nat.zero_add,cell_of_row _ _ _ _ _ _ hrow]
   simpa using hu) (h1 y) hlen hbytes hM.2.size
 have hM':Mk enc k e w w' v' (D++[y]):=by
  refine⟨?_,hM.2.grown h3 hM.2.size (fun k hk=>(hM.1.lt k hk).1)⟩
  have e:(D++[y]).flatMap enc=D.flatMap enc++enc y:=by simp
  rw [List.length_append,e]
  exact h2
 unfold Oper.wp execOp
 simp only [ho,resolve,invoke,builtin,Sem.run_bind,Sem.run_pure,Result.andThen_ok,List.map_toArray,List.map_cons,List.map_nil,hs,hx,hr]
 exact h v' w' hM' h3 h5
end
end
theorem enI_one (x:It.Itm):∀ u∈It.enc x,u.oneCell'=true:=by
 intro v hv
 simp [It.enc] at hv
 rcases hv with rfl | rfl<;>rfl
theorem infI:(Tryz.prog.info? 63).map (fun i=>(i.zero,i.size,i.bytes))=some (some (.agg #[.string ByteArray.empty,.string ByteArray.empty]),2,32):=by kernel_rfl
theorem infK:(Tryz.prog.info? 45).map (fun i=>(i.zero,i.size,i.bytes))=some (some (.agg (#[.string ByteArray.empty,.int .u32 0]++zH)),34,56):=by kernel_rfl
theorem infV:(Tryz.prog.info? 121).map (fun i=>(i.zero,i.size,i.bytes))=some (some (.agg (#[.string ByteArray.empty,.int .u8 0,.string ByteArray.empty,.int .u64 0,.int .u32 0]++zH)),37,88):=by kernel_rfl
def enU (n:Nat):List Value:=[.int .u32 n]
theorem enU_one (x:Nat):∀ u∈enU x,u.oneCell'=true:=by
 intro v hv
 simp [enU] at hv
 subst hv;rfl
theorem infU:(Tryz.prog.info? 22).map (fun i=>(i.zero,i.size,i.bytes))=some (some (.int .u32 0),1,4):=by kernel_rfl
abbrev MkU (w wr:World) (v:Value) (D:List Nat):Prop:=Mk enU 1 22 w wr v D
abbrev MkI (w wr:World) (v:Value) (D:List It.Itm):Prop:=Mk It.enc 2 63 w wr v D
abbrev MkK (w wr:World) (v:Value) (D:List Kd):Prop:=Mk ecK 34 45 w wr v D
abbrev MkV (w wr:World) (v:Value) (D:List Vo):Prop:=Mk ecV 37 121 w wr v D
section
variable {o:Oper}{a:Act}{K:Act→World→Prop}{Q:Exit→Act→World→Prop}{ops:Array Oper}{rest:List Oper}{w wr:World}{v:Value}
theorem op_catI {D:List It.Itm}(hM:MkI w wr v D) (y:It.Itm) (g c:Nat){t:TypeId}{f:Nat×Nat}(hrow:wr.heap[g]?=some (.cells (It.enc y).toArray t f)) (hlen:D.length+1≤4398046511104)
  (s x:Operand) (ho:o.op=.call { callee:=.builtin .append,args:=#[s,x],argTypes:=#[27,27] }) (hs:a.eval s=v) (hx:a.eval x=.slice (some ⟨g,0,none⟩) 1 c)
  (h:∀ v' w',MkI w w' v' (D++[y])→wr.grownBy w' v.ownBlock→(v'.ownBlock=v.ownBlock∨v'.ownBlock=some wr.heap.size)→K (a.put o.dst v') w'):Oper.wp Tryz.prog o a wr K Q:=by
 obtain⟨i0,hi,hz0,hz1,hz2⟩:=info_parts infI
 exact op_cat 27 i0 _ 32 Tryz.underlying27 hi hz0 hz1 hz2 rfl (by decide) It.enc_len enI_one hM y g c hrow (by unfold maxLen;omega) (by omega) s x ho hs hx h
theorem op_catK {D:List Kd}(hM:MkK w wr v D) (y:Kd) (g c:Nat){t:TypeId}{f:Nat×Nat}(hrow:wr.heap[g]?=some (.cells (ecK y).toArray t f)) (hlen:D.length+1≤2513169434916)
  (s x:Operand) (ho:o.op=.call { callee:=.builtin .append,args:=#[s,x],argTypes:=#[28,28] }) (hs:a.eval s=v) (hx:a.eval x=.slice (some ⟨g,0,none⟩) 1 c)
  (h:∀ v' w',MkK w w' v' (D++[y])→wr.grownBy w' v.ownBlock→(v'.ownBlock=v.ownBlock∨v'.ownBlock=some wr.heap.size)→K (a.put o.dst v') w'):Oper.wp Tryz.prog o a wr K Q:=by
 obtain⟨i0,hi,hz0,hz1,hz2⟩:=info_parts infK
 exact op_cat 28 i0 _ 56 Tryz.underlying28 hi hz0 hz1 hz2 rfl (by decide) ecK_len ecK_one hM y g c hrow (by unfold maxLen;omega) (by omega) s x ho hs hx h
theorem op_catV {D:List Vo}(hM:MkV w wr v D) (y:Vo) (g c:Nat){t:TypeId}{f:Nat×Nat}(hrow:wr.heap[g]?=some (.cells (ecV y).toArray t f)) (hlen:D.length+1≤1599289640401)
  (s x:Operand) (ho:o.op=.call { callee:=.builtin .append,args:=#[s,x],argTypes:=#[29,29] }) (hs:a.eval s=v) (hx:a.eval x=.slice (some ⟨g,0,none⟩) 1 c)
  (h:∀ v' w',MkV w w' v' (D++[y])→wr.grownBy w' v.ownBlock→(v'.ownBlock=v.ownBlock∨v'.ownBlock=some wr.heap.size)→K (a.put o.dst v') w'):Oper.wp Tryz.prog o a wr K Q:=by
 obtain⟨i0,hi,hz0,hz1,hz2⟩:=info_parts infV
 exact op_cat 29 i0 _ 88 Tryz.underlying29 hi hz0 hz1 hz2 rfl (by decide) ecV_len ecV_one hM y g c hrow (by unfold maxLen;omega) (by omega) s x ho hs hx h
theorem op_catU {D:List Nat}(hM:MkU w wr v D) (y:Nat) (g c:Nat){t:TypeId}{f:Nat×Nat}(hrow:wr.heap[g]?=some (.cells (enU y).toArray t f)) (hlen:D.length+1≤35184372088832)
  (s x:Operand) (ho:o.op=.call { callee:=.builtin .append,args:=#[s,x],argTypes:=#[64,64] }) (hs:a.eval s=v) (hx:a.eval x=.slice (some ⟨g,0,none⟩) 1 c)
  (h:∀ v' w',MkU w w' v' (D++[y])→wr.grownBy w' v.ownBlock→(v'.ownBlock=v.ownBlock∨v'.ownBlock=some wr.heap.size)→K (a.put o.dst v') w'):Oper.wp Tryz.prog o a wr K Q:=by
 obtain⟨i0,hi,hz0,hz1,hz2⟩:=info_parts infU
 exact op_cat 64 i0 _ 4 Tryz.underlying64 hi hz0 hz1 hz2 rfl (by decide) (fun _=>rfl) enU_one hM y g c hrow (by unfold maxLen;omega) (by omega) s x ho hs hx h
theorem op_oneI (x:Operand) (y:It.Itm) (ho:o.op=.buildSlice 27 1 #[(0,x)]) (hx:a.eval x=.agg (It.enc y).toArray) (h:K (a.put o.dst (.slice (some ⟨w.heap.size,0,none⟩) 1 1)) (w.alloc (.cells (It.enc y).toArray 63))):Oper.wp Tryz.prog o a w K Q:=by
 obtain⟨i0,hi,hz0,hz1,hz2⟩:=info_parts infI
 exact op_slice1 _ _ x i0 _ _ ho hx Tryz.underlying27 hi hz0 hz1 (show 0<2 by decide) (show 2≤2 ^ 24 by decide) h
theorem op_oneK (x:Operand) (y:Kd) (ho:o.op=.buildSlice 28 1 #[(0,x)]) (hx:a.eval x=.agg (ecK y).toArray) (h:K (a.put o.dst (.slice (some ⟨w.heap.size,0,none⟩) 1 1)) (w.alloc (.cells (ecK y).toArray 45))):Oper.wp Tryz.prog o a w K Q:=by
 obtain⟨i0,hi,hz0,hz1,hz2⟩:=info_parts infK
 exact op_slice1 _ _ x i0 _ _ ho hx Tryz.underlying28 hi hz0 (hz1.trans (ecK_sz y)) (by rw [← ecK_sz y];decide) (by rw [← ecK_sz y];decide) h
theorem op_oneV (x:Operand) (y:Vo) (ho:o.op=.buildSlice 29 1 #[(0,x)]) (hx:a.eval x=.agg (ecV y).toArray) (h:K (a.put o.dst (.slice (some ⟨w.heap.size,0,none⟩) 1 1)) (w.alloc (.cells (ecV y).toArray 121))):Oper.wp Tryz.prog o a w K Q:=by
 obtain⟨i0,hi,hz0,hz1,hz2⟩:=info_parts infV
 exact op_slice1 _ _ x i0 _ _ ho hx Tryz.underlying29 hi hz0 (hz1.trans (ecV_sz y)) (by rw [← ecV_sz y];decide) (by rw [← ecV_sz y];decide) h
end
set_option linter.unusedVariables false
open Go.ChangeShapes Go.WideShapes Go.ChangeAt Go.RowKit
open Pk (be num be_length crc psum_any)
theorem repeat_zero:∀ c:Nat,Lib.repeatL [(0:UInt8)] c=List.replicate c 0
 | 0=>rfl
 | c+1=>by rw [List.replicate_succ,← repeat_zero c];rfl
theorem repeat_any (c:Nat) (h:c≤512) (w:World) :
  Calls Tryz.prog 141 #[.string ⟨#[0]⟩,.int .i64 c] w fun e w'=>e=.returned (.string (bs (List.replicate c 0)))∧Below w.heap.size w w':=by
 have:=Tryz.strings_Repeat ⟨#[0]⟩ c w (by omega) (by show 1*c≤_;omega)
 rw [show (⟨#[0]⟩:ByteArray).data.toList=[0] from rfl,repeat_zero] at this
 exact this
theorem filled_any (s:ByteArray) (m:Nat) (h:s.size≤m) (hm:m≤512) (w:World) :
  Calls Tryz.prog 110 #[.string s,.int .i64 m] w fun e w'=>e=.returned (.string (bs (fillz s.data.toList m)))∧Below w.heap.size w w':=by
 have hX:bs (fillz s.data.toList m)=s++bs (List.replicate (m-s.size) 0):=by
  unfold fillz
  rw [← bs_app,data_bs]
  have e:s.data.toList.length=s.size:=Array.length_toList
  rw [e]
 rw [hX]
 clear hX
 obtain⟨c,hc⟩:∃ c,m=s.size+c:=⟨m-s.size,by omega⟩
 subst hc
 rw [show s.size+c-s.size=c by omega]
 have HC:=hid (fun w=>repeat_any c (by omega) w)
 have e1:((s.size+c:Nat):Int)-(s.size:Int)=(c:Int):=by omega
 have hz:(bs (List.replicate c 0)).size≤512:=by rw [bs_size,List.length_replicate];omega
 have hs:s.size≤512:=by omega
 rw [show ((s.size+c:Nat):Int)=(s.size:Int)+(c:Int) by omega] at e1 ⊢
 have hc5:c≤512:=by omega
 clear h hm
 generalize bs (List.replicate c 0)=R at *
 go_enter Tryz.func110,Tryz.ntmps110
 go_wp2_with (go_at_call 141;refine (HC.out _).mono ?_;rintro e w' ⟨rfl,hb⟩)
 go_ret
 exact⟨rfl,hb⟩
theorem sum_le (l:List UInt8):(crc l).toNat<256 ^ 4:=(crc l).isLt
theorem sealed_any (s:ByteArray) (h:s.size≤508) (w:World) :
  Calls Tryz.prog 83 #[.string s] w fun e w'=>e=.returned (.string (bs (sealL s.data.toList)))∧Below w.heap.size w w':=by
 have hF:=fillz_len (l:=s.data.toList) (m:=508) (by rw [Array.length_toList];exact h)
 have HF:=hid (fun w=>filled_any s 508 h (by omega) w)
 have hX:sealL s.data.toList=cutz (be 4 (crc (fillz s.data.toList 508)).toNat++fillz s.data.toList 508):=rfl
 rw [hX]
 clear hX
 generalize fillz s.data.toList 508=F at *
 have HS:=hid (show ∀ w,Calls Tryz.prog 54 #[.string (bs F)] w fun e w'=>e=.returned (.int .u32 ((crc F).toNat:Nat))∧Below w.heap.size w w' from fun w=>psum_any (bs F) w (by rw [bs_size];omega))
 have HN:=hid (fun w=>number_be (crc F).toNat 4 w (by omega) (by omega) (sum_le F))
 have hlt:(crc F).toNat<4294967296:=(crc F).isLt
 have HT:=hid (show ∀ w,Calls Tryz.prog 111 #[.string (bs (be 4 (crc F).toNat)++bs F),.string ⟨#[0]⟩] w fun e w'=>e=.returned (.string (bs (cutz (be 4 (crc F).toNat++F))))∧w=w' from fun w=>by
  rw [bs_app]
  exact Tm.trimRight_any (bs (be 4 (crc F).toNat++F)) (by rw [bs_size,List.length_append,be_length];omega) w)
 have hz1:(bs (be 4 (crc F).toNat)).size≤4:=by rw [bs_size,be_length];omega
 have hz2:(bs F).size≤508:=by rw [bs_size];omega
 generalize (crc F).toNat=C at *
 generalize bs (be 4 C)=S4 at *
 generalize bs (cutz (be 4 C++F))=R at *
 generalize bs F=FB at *
 clear hF
 go_enter Tryz.func83,Tryz.ntmps83
 go_wp2_with fail
 go_at_call 110
 refine (HF.out _).mono ?_
 rintro e w1 ⟨rfl,hb1⟩
 have B1:=hid hb1
 clear hb1
 go_wp2_with fail
 go_at_call 54
 refine (HS.out _).mono ?_
 rintro e w2 ⟨rfl,hb2⟩
 have B2:=hid (B1.out.trans (hb2.mono B1.out.size))
 clear hb2 B1
 go_wp2_with fail
 go_at_call 85
 refine (HN.out _).mono ?_
 rintro e w3 ⟨rfl,hb3⟩
 have B3:=hid (B2.out.trans (hb3.mono B2.out.size))
 clear hb3 B2
 go_wp2_with fail
 go_at_call 111
 refine (HT.out _).mono ?_
 rintro e w4 ⟨rfl,rfl⟩
 go_wp2_with fail
 go_ret
 exact⟨rfl,B3.out⟩
def slE (n:Nat):Int:=if 508<n then 2 else 0
def slB (s:ByteArray):ByteArray:=if 508<s.size then ByteArray.empty else bs (sealL s.data.toList)
theorem seal_any (s:ByteArray) (w:World) :
  Calls Tryz.prog 56 #[.string s] w fun e w'=>e=.returned (.tuple #[.string (slB s),.int .i64 (slE s.size)])∧Below w.heap.size w w':=by
 by_cases h:508<s.size
 ·have HB:=hid (show slB s=ByteArray.empty by unfold slB;rw [if_pos h])
  have HE:=hid (show slE s.size=2 by unfold slE;rw [if_pos h])
  rw [HB.out,HE.out]
  have q:decide ((508:Int)<(s.size:Int))=true:=by rw [decide_eq_true_iff];omega
  clear h
  go_enter Tryz.func56,Tryz.ntmps56
  go_wp2
  go_ret2
  exact⟨rfl,Below.refl _ _⟩
 ·have HB:=hid (show slB s=bs (sealL s.data.toList) by unfold slB;rw [if_neg h])
  have HE:=hid (show slE s.size=0 by unfold slE;rw [if_neg h])
  rw [HB.out,HE.out]
  have q:decide ((508:Int)<(s.size:Int))=false:=by rw [decide_eq_false_iff_not];omega
  have HC:=hid (fun w=>sealed_any s (by omega) w)
  generalize bs (sealL s.data.toList)=R at *
  clear h
  go_enter Tryz.func56,Tryz.ntmps56
  go_wp2_with (go_at_call 83;refine (HC.out _).mono ?_;rintro e w' ⟨rfl,hb⟩)
  go_ret2
  exact⟨rfl,hb⟩
open Rg
def OpPost (d:ByteArray) (w:World) (e:Ending) (w':World):Prop:=∃ r:ByteArray,e=.returned (.tuple #[.string r,.bool (openL d.data.toList).isSome])∧(∀ l,openL d.data.toList=some l→r=bs l)∧Below w.heap.size w w'
theorem below_of_grown {w w1 w2:World}{q B:Nat}(h:Below B w w1) (hg:w1.grownBy w2 (some q)) (hB:B≤w1.heap.size) (hq:B≤q):Below B w w2 :=
 h.grown hg hB (fun k hk=>by cases hk;exact hq)
theorem sfx_iff (d:ByteArray):Tm.sfx d=decide (d.data.toList.getLast?=some 0):=rfl
set_option maxRecDepth 100000 in
set_option maxHeartbeats 2000000 in
theorem opened_any (d:ByteArray) (hd:d.size≤9223372036854775807) (w:World):Calls Tryz.prog 120 #[.string d] w (OpPost d w):=by
 by_cases h1:512<d.size
 ·have HO:=hid (show openL d.data.toList=none by unfold openL;rw [if_pos (.inl (by rw [Array.length_toList];exact h1))])
  have q1:decide ((512:Int)<(d.size:Int))=true:=by rw [decide_eq_true_iff];omega
  clear h1
  go_enter Tryz.func120,Tryz.ntmps120
  go_wp2
  go_ret2
  exact⟨_,by rw [HO.out];rfl,fun l h=>by rw [HO.out] at h;(cases h),Below.refl _ _⟩
 ·have q1:decide ((512:Int)<(d.size:Int))=false:=by rw [decide_eq_false_iff_not];omega
  have HSF:=hid (fun w=>Tm.hasSuffix_any d hd w)
  by_cases h2:Tm.sfx d=true
  ·have h2':d.data.toList.getLast?=some 0:=by rw [sfx_iff,decide_eq_true_iff] at h2;exact h2
   have HO:=hid (show openL d.data.toList=none by unfold openL;rw [if_pos (.inr h2')])
   rw [h2] at HSF
   clear h1 h2 h2'
   go_enter Tryz.func120,Tryz.ntmps120
   go_wp2_with (go_at_call 149;refine (HSF.out _).mono ?_;rintro e w' ⟨rfl,rfl⟩)
   go_ret2
   exact⟨_,by rw [HO.out];rfl,fun l h=>by rw [HO.out] at h;(cases h),Below.refl _ _⟩
  have h2:Tm.sfx d=false:=by simpa using h2
  have h2':¬ d.data.toList.getLast?=some 0:=by rw [sfx_iff,decide_eq_false_iff_not] at h2;exact h2
  rw [h2] at HSF
  have hlen:d.data.toList.length≤512:=by rw [Array.length_toList];show d.size≤512;omega
  have hF:=fillz_len hlen
  have HF:=hid (fun w=>filled_any d 512 (by omega) (by omega) w)
  have hO:openL d.data.toList=if num ((fillz d.data.toList 512).take 4)=(crc ((fillz d.data.toList 512).drop 4)).toNat then some ((fillz d.data.toList 512).drop 4) else none:=by
   unfold openL;rw [if_neg (by rintro (h | h);(· omega);(· exact h2' h))]
  have HO:=hid hO
  clear h1 h2 h2' hlen hO
  generalize fillz d.data.toList 512=F at *
  have hzF:(bs F).size≤512:=by rw [bs_size];omega
  have htk:tkNum 4 ((bs F).data.toList,false)=(num (F.take 4),(F.drop 4,false)):=tkNum_yes (by rw [bs_size];omega)
  have HTK:=hid (show ∀ (w:World) (q:Nat),TkR w q (bs F) false→Calls Tryz.prog 150 #[.pointer (some ⟨q,0,none⟩),.int .i64 4] w fun e w'=>e=.returned (.int .u64 (num (F.take 4):Nat))∧TkR w' q (bs (F.drop 4)) false∧w.grownBy w' (some q) from fun w q h=>by
   have c:=number_tk h 4 (by omega) (by omega) (by unfold maxLen;omega)
   rw [htk] at c
   exact c)
  have HSM:=hid (show ∀ w,Calls Tryz.prog 54 #[.string (bs (F.drop 4))] w fun e w'=>e=.returned (.int .u32 ((crc (F.drop 4)).toNat:Nat))∧Below w.heap.size w w' from fun w=>psum_any (bs (F.drop 4)) w (by rw [bs_size,List.length_drop];omega))
  have hlt:(crc (F.drop 4)).toNat<4294967296:=(crc (F.drop 4)).isLt
  have HR:=hid (show bs (F.drop 4)=bs (F.drop 4) from rfl)
  generalize hV:num (F.take 4)=V at *
  generalize hC:(crc (F.drop 4)).toNat=C at *
  obtain⟨R,hR⟩:∃ R,bs (F.drop 4)=R:=⟨_,rfl⟩
  rw [hR] at HTK HSM
  have HRE:=hid hR
  clear htk hF hV hC hR HR
  by_cases hv:V=C
  ·have qv:((V:Int)==(C:Int))=true:=by rw [beq_iff_eq,hv]
   have HO2:=hid (show openL d.data.toList=some (F.drop 4) by rw [HO.out,if_pos hv])
   clear hv HO
   go_enter Tryz.func120,Tryz.ntmps120
   go_wp2_with (go_at_call 149;refine (HSF.out _).mono ?_;rintro e w' ⟨rfl,rfl⟩)
   go_at_call 110
   refine (HF.out _).mono ?_
   rintro e w3 ⟨rfl,hb3⟩
   have B3:=hid hb3
   clear hb3
   go_wp2_with fail
   have hal:Below w3.heap.size w3 (w3.alloc (.cells #[.string (bs F),.bool false] 203)):=(Below.refl _ _).alloc (Nat.le_refl _) _
   have HT4:=hid (show TkR _ w3.heap.size (bs F) false from heap_alloc_new w3 (.cells #[.string (bs F),.bool false] 203))
   have B4:=hid (B3.out.trans (hal.mono B3.out.size))
   have hq:w.heap.size≤w3.heap.size:=B3.out.size
   clear hal
   generalize w3.alloc _=w4 at *
   generalize w3.heap.size=q at *
   go_at_call 150
   refine (HTK.out _ _ HT4.out).mono ?_
   rintro e W5 ⟨rfl,ht,hg⟩
   have HT5:=hid (show TkR W5 q R false from ht)
   have B5:=hid (below_of_grown B4.out hg B4.out.size hq)
   clear ht hg
   go_wp2_with fail
   refine wp_region_T (fun w':World=>w'.cell? ⟨q,0,none⟩=some (.string R)) 9 (by kernel_rfl) (by kernel_rfl) ?_
   have hS:W5.drew.cell? ⟨q,0,none⟩=some (.string R):=HT5.out.c0
   refine take_T 0 17 (.pointer (some ⟨q,0,none⟩)) rfl (by rfl) (by kernel_rfl) (by decide) (by kernel_rfl) (by kernel_rfl) (by kernel_rfl) (fun _ _ _ h=>h) (Or.inl ⟨by rfl,fun w' hSw=>by go_simp⟩) hS ?_
   simp only [Gb1a,Gb1b,Gb1c]
   refine take_T 1 18 (.string R) rfl (by rfl) (by kernel_rfl) (by decide) (by kernel_rfl) (by kernel_rfl) (by kernel_rfl) (fun _ _ _ h=>h) (Or.inl ⟨by rfl,fun w' hSw=>by go_simp⟩) hS ?_
   simp only [Gb1a,Gb1b,Gb1c]
   refine take_T 2 19 (.int .u64 V) rfl (by rfl) (by kernel_rfl) (by decide) (by kernel_rfl) (by kernel_rfl) (by kernel_rfl) (fun _ _ _ h=>h) (Or.inl ⟨by rfl,fun w' hSw=>by go_simp⟩) hS ?_
   simp only [Gb1a,Gb1b,Gb1c]
   refine take_T 3 20 (.pointer (some ⟨q,0,none⟩)) rfl (by rfl) (by kernel_rfl) (by decide) (by kernel_rfl) (by kernel_rfl) (by kernel_rfl) (fun _ _ _ h=>h) (Or.inl ⟨by rfl,fun w' hSw=>by go_simp⟩) hS ?_
   simp only [Gb1a,Gb1b,Gb1c]
   refine take_T 4 21 (.string R) rfl (by rfl) (by kernel_rfl) (by decide) (by kernel_rfl) (by kernel_rfl) (by kernel_rfl) (fun _ _ _ h=>h) (Or.inl ⟨by rfl,fun w' hSw=>by go_simp⟩) hS ?_
   simp only [Gb1a,Gb1b,Gb1c]
   refine only_T 5 rfl (by kernel_rfl) (by decide) (by rfl) (fun K hK=>?_)
   go_wp2_with fail
   go_at_call 54
   refine (HSM.out _).mono ?_
   rintro e w6 ⟨rfl,hb6⟩
   have hb6:Below W5.heap.size W5 w6:=((Below.refl _ _).drew).trans hb6
   have B6:=hid (B5.out.trans (hb6.mono B5.out.size))
   have hS2:w6.cell? ⟨q,0,none⟩=some (.string R):=(HT5.out.below hb6).c0
   clear hb6
   refine hK.out _ _ hS2 ?_
   clear hK K
   try simp only [Act.put,Gb1a,Gb1b,Gb1c]
   clear hS
   have hS:=hS2
   clear hS2
   refine take_T 6 23 (.int .u64 C) rfl (by rfl) (by kernel_rfl) (by decide) (by kernel_rfl) (by kernel_rfl) (by kernel_rfl) (fun _ _ _ h=>h) (Or.inl ⟨by rfl,fun w' hSw=>by (go_simp;rw [IntKind.wrap_u64];omega)⟩) hS ?_
   simp only [Gb1a,Gb1b,Gb1c]
   refine take_T 7 24 (.bool true) rfl (by rfl) (by kernel_rfl) (by decide) (by kernel_rfl) (by kernel_rfl) (by kernel_rfl) (fun _ _ _ h=>h) (Or.inl ⟨by rfl,fun w' hSw=>by go_simp⟩) hS ?_
   simp only [Gb1a,Gb1b,Gb1c]
   refine take_T 8 2 (.string R) rfl (by rfl) (by kernel_rfl) (by decide) (by kernel_rfl) (by kernel_rfl) (by kernel_rfl) (fun _ _ _ h=>h) (Or.inl ⟨by rfl,fun w' hSw=>by go_simp⟩) hS ?_
   simp only [Gb1a,Gb1b,Gb1c]
   refine done_T (by kernel_rfl) ?_
   simp only [List.drop_succ_cons,List.drop_zero]
   go_wp2_with fail
   go_ret2
   exact⟨R,by rw [HO2.out];rfl,fun l h=>by rw [HO2.out] at h;cases h;exact HRE.out.symm,B6.out⟩
  ·have qv:((V:Int)==(C:Int))=false:=by rw [beq_eq_false_iff_ne];exact fun e=>hv (Int.ofNat.inj e)
   have HO2:=hid (show openL d.data.toList=none by rw [HO.out,if_neg hv])
   clear hv HO
   go_enter Tryz.func120,Tryz.ntmps120
   go_wp2_with (go_at_call 149;refine (HSF.out _).mono ?_;rintro e w' ⟨rfl,rfl⟩)
   go_at_call 110
   refine (HF.out _).mono ?_
   rintro e w3 ⟨rfl,hb3⟩
   have B3:=hid hb3
   clear hb3
   go_wp2_with fail
   have hal:Below w3.heap.size w3 (w3.alloc (.cells #[.string (bs F),.bool false] 203)):=(Below.refl _ _).alloc (Nat.le_refl _) _
   have HT4:=hid (show TkR _ w3.heap.size (bs F) false from heap_alloc_new w3 (.cells #[.string (bs F),.bool false] 203))
   have B4:=hid (B3.out.trans (hal.mono B3.out.size))
   have hq:w.heap.size≤w3.heap.size:=B3.out.size
   clear hal
   generalize w3.alloc _=w4 at *
   generalize w3.heap.size=q at *
   go_at_call 150
   refine (HTK.out _ _ HT4.out).mono ?_
   rintro e W5 ⟨rfl,ht,hg⟩
   have HT5:=hid (show TkR W5 q R false from ht)
   have B5:=hid (below_of_grown B4.out hg B4.out.size hq)
   clear ht hg
   go_wp2_with fail
   refine wp_region_T (fun w':World=>w'.cell? ⟨q,0,none⟩=some (.string R)) 9 (by kernel_rfl) (by kernel_rfl) ?_
   have hS:W5.drew.cell? ⟨q,0,none⟩=some (.string R):=HT5.out.c0
   refine take_T 0 17 (.pointer (some ⟨q,0,none⟩)) rfl (by rfl) (by kernel_rfl) (by decide) (by kernel_rfl) (by kernel_rfl) (by kernel_rfl) (fun _ _ _ h=>h) (Or.inl ⟨by rfl,fun w' hSw=>by go_simp⟩) hS ?_
   simp only [Gb1a,Gb1b,Gb1c]
   refine take_T 1 18 (.string R) rfl (by rfl) (by kernel_rfl) (by decide) (by kernel_rfl) (by kernel_rfl) (by kernel_rfl) (fun _ _ _ h=>h) (Or.inl ⟨by rfl,fun w' hSw=>by go_simp⟩) hS ?_
   simp only [Gb1a,Gb1b,Gb1c]
   refine take_T 2 19 (.int .u64 V) rfl (by rfl) (by kernel_rfl) (by decide) (by kernel_rfl) (by kernel_rfl) (by kernel_rfl) (fun _ _ _ h=>h) (Or.inl ⟨by rfl,fun w' hSw=>by go_simp⟩) hS ?_
   simp only [Gb1a,Gb1b,Gb1c]
   refine take_T 3 20 (.pointer (some ⟨q,0,none⟩)) rfl (by rfl) (by kernel_rfl) (by decide) (by kernel_rfl) (by kernel_rfl) (by kernel_rfl) (fun _ _ _ h=>h) (Or.inl ⟨by rfl,fun w' hSw=>by go_simp⟩) hS ?_
   simp only [Gb1a,Gb1b,Gb1c]
   refine take_T 4 21 (.string R) rfl (by rfl) (by kernel_rfl) (by decide) (by kernel_rfl) (by kernel_rfl) (by kernel_rfl) (fun _ _ _ h=>h) (Or.inl ⟨by rfl,fun w' hSw=>by go_simp⟩) hS ?_
   simp only [Gb1a,Gb1b,Gb1c]
   refine only_T 5 rfl (by kernel_rfl) (by decide) (by rfl) (fun K hK=>?_)
   go_wp2_with fail
   go_at_call 54
   refine (HSM.out _).mono ?_
   rintro e w6 ⟨rfl,hb6⟩
   have hb6:Below W5.heap.size W5 w6:=((Below.refl _ _).drew).trans hb6
   have B6:=hid (B5.out.trans (hb6.mono B5.out.size))
   have hS2:w6.cell? ⟨q,0,none⟩=some (.string R):=(HT5.out.below hb6).c0
   clear hb6
   refine hK.out _ _ hS2 ?_
   clear hK K
   try simp only [Act.put,Gb1a,Gb1b,Gb1c]
   clear hS
   have hS:=hS2
   clear hS2
   refine take_T 6 23 (.int .u64 C) rfl (by rfl) (by kernel_rfl) (by decide) (by kernel_rfl) (by kernel_rfl) (by kernel_rfl) (fun _ _ _ h=>h) (Or.inl ⟨by rfl,fun w' hSw=>by (go_simp;rw [IntKind.wrap_u64];omega)⟩) hS ?_
   simp only [Gb1a,Gb1b,Gb1c]
   refine take_T 7 24 (.bool false) rfl (by rfl) (by kernel_rfl) (by decide) (by kernel_rfl) (by kernel_rfl) (by kernel_rfl) (fun _ _ _ h=>h) (Or.inl ⟨by rfl,fun w' hSw=>by go_simp⟩) hS ?_
   simp only [Gb1a,Gb1b,Gb1c]
   refine take_T 8 2 (.string R) rfl (by rfl) (by kernel_rfl) (by decide) (by kernel_rfl) (by kernel_rfl) (by kernel_rfl) (fun _ _ _ h=>h) (Or.inl ⟨by rfl,fun w' hSw=>by go_simp⟩) hS ?_
   simp only [Gb1a,Gb1b,Gb1c]
   refine done_T (by kernel_rfl) ?_
   simp only [List.drop_succ_cons,List.drop_zero]
   go_wp2_with fail
   go_ret2
   exact⟨R,by rw [HO2.out];rfl,fun l h=>by rw [HO2.out] at h;(cases h),B6.out⟩
end Go.Proofs.YtlpejbbmemhloaaGreatDoor.Nd
namespace Go.Proofs.YtlpejbbmemhloaaGreatDoor.Rg
open Lib (hid)
set_option linter.unusedVariables false
open Go.RowKit
section
variable {P:Program}{ops:Array Oper}{md:Region.Mode}{S:World→Prop}{n:Nat}{L:Array Bool→Act→Prop}
def anyS (P:Program) (md:Region.Mode) (ops:Array Oper) (S:World→Prop) (n:Nat) (L:Array Bool→Act→Prop):Nat→Array Bool→Act→Prop
 | 0,listed,a=>L listed a
 | f+1,listed,a=>Region.ready md ops listed≠[]∧∀ i∈Region.ready md ops listed,i<n∧stG P ops S i (anyS P md ops S n L f (listed.setIfInBounds i true)) a
theorem wpAny_of_S {g:Nat}{Q:Exit→Act→World→Prop}(hL:∀ listed a w,L listed a→S w→wpAny P md ops Q g listed a w):∀ (f:Nat) (listed:Array Bool) (a:Act) (w:World),S w→anyS P md ops S n L f listed a→wpAny P md ops Q (f+g) listed a w
 | 0,listed,a,w,hS,h=>by rw [Nat.zero_add];exact hL _ _ _ h hS
 | f+1,listed,a,w,hS,h=>by
  rw [show f+1+g=(f+g)+1 by omega]
  refine⟨fun h0=>absurd h0 h.1,fun i hi=>?_⟩
  have h1:=(h.2 i hi).2
  cases ho:ops[i]? with
  | none=>unfold stG at h1;rw [ho] at h1;unfold wpOp;rw [ho];exact wpAny_of_S hL f _ _ _ hS h1
  | some o =>
   obtain⟨v,hg,hn⟩:=(stG_at ho).1 h1
   exact hg.wpOp ho hS fun w' hS'=>wpAny_of_S hL f _ _ _ hS' hn
theorem anyS_first {i:Nat}{oi:Oper}{v:Value}(hi:ops[i]?=some oi) (hsel:∀ (j:Nat) (o:Oper) cs b,ops[j]?=some o→o.op≠.select cs b)
  (hs:Region.sinkB md ops n=true) (hc:Region.chainB md ops n=true) (hn:n<ops.size) (hin:i<n)
  (hdone:∀ listed a,L listed a→∀ j∈Region.ready md ops listed,n≤j) :
  ∀ (f:Nat) (listed:Array Bool) (a:Act),HeadInv md ops n listed →
   (∀ j oj,ops[j]?=some oj→j≠i→listed.getD j true=false→(∀ e∈oj.after,Region.binds md e=true→e.on≠i)→oi.apart ops oj=true) →
   i∈Region.ready md ops listed→OpG P ops S oi v a →
   anyS P md ops S n L f (listed.setIfInBounds i true) (a.put oi.dst v)→anyS P md ops S n L (f+1) listed a:=by
 intro f
 induction f with
 | zero =>
  intro listed a inv _ hr hy H
  have hun:=(mem_ready.1 hr).1
  refine⟨fun h=>(by rw [h] at hr;cases hr),fun j hj=>?_⟩
  have hjn:j<n:=by
   rcases Nat.lt_or_ge j n with h | h
   ·exact h
   ·exact absurd hj (tail_waits hs hc hn inv _ i rfl hin hun j h)
  refine⟨hjn,?_⟩
  by_cases hji:j=i
  ·subst hji;exact (stG_at hi).2 ⟨v,hy,H⟩
  ·have:=hdone _ _ H j (ready_mono hj hji)
   omega
 | succ f ih =>
  intro listed a inv hfree hr hy H
  have hun:=(mem_ready.1 hr).1
  refine⟨fun h=>(by rw [h] at hr;cases hr),fun j hj=>?_⟩
  have hjn:j<n:=by
   rcases Nat.lt_or_ge j n with h | h
   ·exact h
   ·exact absurd hj (tail_waits hs hc hn inv _ i rfl hin hun j h)
  refine⟨hjn,?_⟩
  by_cases hji:j=i
  ·subst hji;exact (stG_at hi).2 ⟨v,hy,H⟩
  ·have h1:=(H.2 j (ready_mono hj hji)).2
   obtain⟨hjun,oj,hoj,hall⟩:=mem_ready.1 hj
   have hnot:∀ e∈oj.after,Region.binds md e=true→e.on≠i:=fun e he hb heq=>by
    have h1:=hall e he hb
    rw [heq,getD_both hun] at h1
    cases h1
   have h2:=stG_put hoj (hfree j oj hoj hji hjun hnot) (fun cs b=>hsel i oi cs b hi) (fun cs b=>hsel j oj cs b hoj) hy h1
   have hfree':∀ k ok,ops[k]?=some ok→k≠i→(listed.setIfInBounds j true).getD k true=false →
     (∀ e∈ok.after,Region.binds md e=true→e.on≠i)→oi.apart ops ok=true:=fun k ok hk hki hun hno=>by
    refine hfree k ok hk hki ?_ hno
    by_cases hjk:j=k
    ·subst hjk;exact hjun
    ·rw [getD_set_ne true hjk] at hun;exact hun
   refine stG_mono (fun a' h3=>ih (listed.setIfInBounds j true) a' (inv.set hj hjn) hfree' (ready_mono hr (Ne.symm hji)) h3.1 ?_) h2
   rw [Array.setIfInBounds_comm _ _ hji]
   exact h3.2
def lexSB (md:Region.Mode) (ops:Array Oper) (n g:Nat):Nat→Nat→Array Bool→Bool
 | 0,_,listed=>Region.seqB md ops g n listed
 | m+1,k,listed=>decide (k<n)&&(Region.ready md ops listed).contains k&&Region.free md ops listed k&&headB md ops n listed&&lexSB md ops n g m (k+1) (listed.setIfInBounds k true)
theorem anyS_lex {Q:Act→Prop}{g:Nat}(hB:tailB md ops n=true):∀ (l:List Oper) (k:Nat) (listed:Array Bool) (a:Act),(∀ j,j<l.length→l[j]?=ops[k+j]?) →
  lexSB md ops n g l.length k listed=true→wpG P ops S Q l a→anyS P md ops S n (fun listed a=>Region.seqB md ops g n listed=true∧Q a) l.length listed a
 | [],_,_,_,_,hX,h=>⟨hX,h⟩
 | o::l,k,listed,a,hl,hX,⟨v,hy,hn⟩=>by
  have h0:ops[k]?=some o:=by simpa using (hl 0 (by simp)).symm
  have hB':=hB
  simp only [tailB,Bool.and_eq_true,decide_eq_true_eq] at hB'
  obtain⟨⟨⟨hsel,hn'⟩,hs⟩,hc⟩:=hB'
  simp only [List.length_cons,lexSB,Bool.and_eq_true,decide_eq_true_eq] at hX
  obtain⟨⟨⟨⟨hk,hr⟩,hf⟩,hI⟩,hX⟩:=hX
  refine anyS_first h0 (Region.noSelect_spec hsel) hs hc hn' hk (fun _ _ hL=>seqB_ready hL.1) l.length listed a (headB_inv hI) (Region.free_spec h0 hf) (by simpa using hr) hy ?_
  exact anyS_lex hB l (k+1) _ _ (fun j hj=>by have:=hl (j+1) (by simpa using hj);simpa [Nat.add_assoc,Nat.add_comm 1 j] using this) hX hn
theorem wp_region_S (S:World→Prop){id:Nat}{Q:Exit→Act→World→Prop}{a:Act}{w:World}{l:List Oper}(n:Nat) (hm:P.follows .mixedOrders=true) (hB:tailB .any l.toArray n=true)
  (hX:lexSB .any l.toArray n (l.length-n) n 0 (Array.replicate l.toArray.size false)=true) (hS:S w.drew)
  (h:wpG P l.toArray S (fun a'=>∀ w',S w'→wpList P l.toArray Q (l.drop n) a' w') (l.take n) a):(Code.region id l.toArray true).wp P Q a w:=by
 have hB':=hB
 simp only [tailB,Bool.and_eq_true,decide_eq_true_eq] at hB'
 obtain⟨⟨⟨hsel,hn⟩,hs⟩,hc⟩:=hB'
 have hn':n<l.length:=by simpa using hn
 have hlen:(l.take n).length=n:=by rw [List.length_take];omega
 have hdl:(l.drop n).length=l.length-n:=by simp
 refine wp_region_any hm ?_
 have h2:=anyS_lex (md:=.any) (P:=P) (S:=S) (n:=n) (g:=l.length-n) hB (l.take n) 0 (Array.replicate l.toArray.size false) a (fun j hj=>by
  rw [List.getElem?_take,if_pos (by omega)];simp) (by rw [hlen];exact hX) h
 rw [hlen] at h2
 have h3:=wpAny_of_S (g:=l.length-n) (Q:=Q) (fun listed a' w' hL hSw=>by
  have:=wpAny_of_seq (md:=.any) (P:=P) (Q':=Q) (l.drop n) n listed a' w' (fun j=>by simp [List.getElem?_drop]) (by rw [hdl];exact hL.1) (hL.2 w' hSw)
  rwa [hdl] at this) n _ _ _ hS h2
 rw [show n+(l.length-n)=l.toArray.size by simp;omega] at h3
 exact h3
end
end Go.Proofs.YtlpejbbmemhloaaGreatDoor.Rg
namespace Go.Proofs.YtlpejbbmemhloaaGreatDoor.Nd
open Lib (hid)
set_option linter.unusedVariables false
set_option linter.unusedSimpArgs false
open Go.ChangeShapes Go.WideShapes Go.ChangeAt Go.RowKit
open Ar Rg
open BigFrame
open Pk (be num be_length u8s u8s_length)
open It (str_le below_drewN)
section
variable {α:Type}{C:Cod α}{c i:Nat}{s0:S}{D:List α}{l l2:List UInt8}{b b2:Bool}{x:α}
def TkInv (C:Cod α) (c:Nat) (s0:S) (i:Nat) (D:List α) (l:List UInt8) (b:Bool):Prop:=i≤c∧D.length=i∧l.length≤s0.1.length∧tkMany C c s0=(D++(tkMany C (c-i) (l,b)).1,(tkMany C (c-i) (l,b)).2)
theorem TkInv.start:TkInv C c (l,b) 0 [] l b:=⟨Nat.zero_le _,rfl,Nat.le_refl _,by simp⟩
theorem tkMany_go (h:i<c) (e:C.tk (l,b)=(x,(l2,b2))):tkMany C (c-i) (l,b)=if b2=true then ([x],(l2,b2)) else (x::(tkMany C (c-(i+1)) (l2,b2)).1,(tkMany C (c-(i+1)) (l2,b2)).2):=by
 rw [show c-i=(c-(i+1))+1 by omega,tkMany,e]
theorem TkInv.step (h:TkInv C c s0 i D l b) (hi:i<c) (e:C.tk (l,b)=(x,(l2,false))) (hl:l2.length≤l.length):TkInv C c s0 (i+1) (D++[x]) l2 false:=by
 obtain⟨h1,h2,h3,h4⟩:=h
 rw [tkMany_go hi e,if_neg (by decide)] at h4
 exact⟨hi,by rw [List.length_append,h2];rfl,Nat.le_trans hl h3,by rw [h4,List.append_assoc];rfl⟩
theorem TkInv.stop (h:TkInv C c s0 i D l b) (hi:i<c) (e:C.tk (l,b)=(x,(l2,true))):tkMany C c s0=(D++[x],(l2,true)):=by
 obtain⟨h1,h2,h3,h4⟩:=h
 rwa [tkMany_go hi e,if_pos rfl] at h4
theorem TkInv.done (h:TkInv C c s0 i D l b) (hi:¬ i<c):tkMany C c s0=(D,(l,b)):=by
 obtain⟨h1,h2,h3,h4⟩:=h
 rw [show c-i=0 by omega] at h4
 rw [h4]
 simp [tkMany]
end
theorem trimB_nil (l:List UInt8):Lib.trimB l 0=[]↔allz l=true:=by
 have key:∀ m:List UInt8,m.dropWhile (·==(0:UInt8))=[]↔∀ x∈m,x=0:=by
  intro m
  induction m with
  | nil=>simp
  | cons a m ih =>
   by_cases ha:a=0
   ·subst ha
    rw [List.dropWhile_cons_of_pos (by simp),ih]
    simp
   ·rw [List.dropWhile_cons_of_neg (by simpa using ha)]
    simp [ha]
 unfold Lib.trimB Lib.trimLeftB Lib.trimRightB allz
 rw [key,List.all_eq_true]
 constructor
 ·intro h x hx
  rw [decide_eq_true_iff]
  have h2:l.reverse.dropWhile (·==(0:UInt8))=[]:=by
   cases hr:l.reverse.dropWhile (·==(0:UInt8)) with
   | nil=>rfl
   | cons a m =>
    have h3:a=0:=h a (by rw [hr];simp)
    have h4:=List.head_dropWhile_not (p:=(·==(0:UInt8))) (l:=l.reverse) (by rw [hr];simp)
    simp only [hr,List.head_cons,h3] at h4
    simp at h4
  exact (key _).1 h2 x (List.mem_reverse.2 hx)
 ·intro h x hx
  have hx:=List.mem_reverse.1 hx
  have:=(List.dropWhile_sublist (·==(0:UInt8))).subset hx
  simpa using h x (List.mem_reverse.1 this)
def NdOwn (w w':World) (cs:Array Value) (n:Nd):Prop:=∃ vI vK vV,cs=#[.int .u8 n.kd,vI,vK,vV]∧MkI w w' vI n.I∧MkK w w' vK n.K∧MkV w w' vV n.V
theorem NdOwn.at_ {w w':World}{cs:Array Value}{n:Nd}(h:NdOwn w w' cs n) (h1:n.I.length≤281474976710656) (h2:n.K.length≤281474976710656) (h3:n.V.length≤281474976710656):NdAt w' cs n:=by
 obtain⟨vI,vK,vV,rfl,mI,mK,mV⟩:=h
 obtain⟨A1,c1,rfl,_,_,l1⟩:=mI.ls It.enc_len
 obtain⟨A2,c2,rfl,_,_,l2⟩:=mK.ls ecK_len
 obtain⟨A3,c3,rfl,_,_,l3⟩:=mV.ls ecV_len
 exact⟨A1,_,c1,A2,_,c2,A3,_,c3,rfl,rfl,rfl,rfl,h1,h2,h3,l1,l2,l3⟩
theorem NdOwn.bel {w w':World}{cs:Array Value}{n:Nd}(h:NdOwn w w' cs n):Below w.heap.size w w':=by
 obtain⟨vI,vK,vV,rfl,mI,mK,mV⟩:=h;exact mI.2
def TkPost (l0:List UInt8) (w:World) (e:Ending) (w':World):Prop:=∃ cs,e=.returned (.tuple #[.agg cs,.bool (tkN l0).2])∧NdOwn w w' cs (tkN l0).1
theorem item_tkL {w:World}{q:Nat}{l:List UInt8}{b:Bool}{x:It.Itm}{l2:List UInt8}{b2:Bool}(e:cI.tk (l,b)=(x,(l2,b2))) (h4:(bs l).size≤maxLen) (h:TkR w q (bs l) b) :
  Calls Tryz.prog 151 #[.pointer (some ⟨q,0,none⟩)] w fun e w'=>e=.returned (.agg (It.enc x).toArray)∧TkR w' q (bs l2) b2∧w.grownBy w' (some q):=by
 have:=item_tk h h4
 rw [bs_data,e] at this
 exact this
theorem kid_tkL {w:World}{q:Nat}{l:List UInt8}{b:Bool}{x:Kd}{l2:List UInt8}{b2:Bool}(e:cK.tk (l,b)=(x,(l2,b2))) (h4:(bs l).size≤maxLen) (h:TkR w q (bs l) b) :
  Calls Tryz.prog 152 #[.pointer (some ⟨q,0,none⟩)] w fun e w'=>e=.returned (.agg (ecK x).toArray)∧TkR w' q (bs l2) b2∧w.grownBy w' (some q):=by
 have h1:=kid_tk h h4
 have hx:x.hs.length=32:=by
  have:x=(cK.tk (l,b)).1:=by rw [e]
  rw [this];exact tkHash_len _
 rw [bs_data,e,← ecK_of hx] at h1
 exact h1
theorem volume_tkL {w:World}{q:Nat}{l:List UInt8}{b:Bool}{x:Vo}{l2:List UInt8}{b2:Bool}(e:cV.tk (l,b)=(x,(l2,b2))) (h4:(bs l).size≤maxLen) (h:TkR w q (bs l) b) :
  Calls Tryz.prog 153 #[.pointer (some ⟨q,0,none⟩)] w fun e w'=>e=.returned (.agg (ecV x).toArray)∧TkR w' q (bs l2) b2∧w.grownBy w' (some q):=by
 have h1:=volume_tk h h4
 have hx:x.hs.length=32:=by
  have:x=(cV.tk (l,b)).1:=by rw [e]
  rw [this];exact tkHash_len _
 rw [bs_data,e,← ecV_of hx] at h1
 exact h1
theorem I_less (s:S):(cI.tk s).2.1.length≤s.1.length:=Nat.le_trans (txt_less _) (txt_less _)
theorem K_less (s:S):(cK.tk s).2.1.length≤s.1.length:=by
 show (tkHash (tkNum 4 (tkTxt s).2).2).2.1.length≤s.1.length
 exact Nat.le_trans (hash_less _) (Nat.le_trans (num_less _ _) (txt_less _))
theorem V_less (s:S):(cV.tk s).2.1.length≤s.1.length:=by
 obtain⟨V1,s1,e1⟩:∃ V s',tkTxt s=(V,s'):=⟨_,_,rfl⟩
 obtain⟨V2,s2,e2⟩:∃ V s',tkTxt s1=(V,s'):=⟨_,_,rfl⟩
 obtain⟨V3,s3,e3⟩:∃ V s',tkNum 1 s2=(V,s'):=⟨_,_,rfl⟩
 obtain⟨V4,s4,e4⟩:∃ V s',tkNum 8 s3=(V,s'):=⟨_,_,rfl⟩
 obtain⟨V5,s5,e5⟩:∃ V s',tkNum 4 s4=(V,s'):=⟨_,_,rfl⟩
 obtain⟨V6,s6,e6⟩:∃ V s',tkHash s5=(V,s'):=⟨_,_,rfl⟩
 have hX:(cV.tk s).2=s6:=by
  have:=as_tk (A:=cTxt.pair (cTxt.pair ((cNum 1).pair ((cNum 8).pair ((cNum 4).pair cHash))))) (f:=fun p=>(⟨bs p.1,p.2.2.1,bs p.2.1,p.2.2.2.1,p.2.2.2.2.1,p.2.2.2.2.2⟩:Vo)) (g:=fun x=>(x.nm.data.toList,x.fr.data.toList,x.kd,x.bn,x.rt,x.hs)) (pair_tk (A:=cTxt) e1 (pair_tk (A:=cTxt) e2 (pair_tk (A:=cNum 1) e3 (pair_tk (A:=cNum 8) e4 (pair_tk (A:=cNum 4) (B:=cHash) e5 e6)))))
  exact congrArg Prod.snd this
 rw [hX]
 have h1:=txt_less s
 have h2:=txt_less s1
 have h3:=num_less 1 s2
 have h4:=num_less 8 s3
 have h5:=num_less 4 s4
 have h6:=hash_less s5
 rw [e1] at h1
 rw [e2] at h2
 rw [e3] at h3
 rw [e4] at h4
 rw [e5] at h5
 rw [e6] at h6
 dsimp only at h1 h2 h3 h4 h5 h6
 omega
theorem less_of {α:Type}{C:Cod α}(h:∀ s,(C.tk s).2.1.length≤s.1.length){l l2:List UInt8}{b b2:Bool}{x:α}(e:C.tk (l,b)=(x,(l2,b2))):l2.length≤l.length:=by
 have:=h (l,b);rw [e] at this;exact this
abbrev zS:Value:=.slice none 0 0
theorem results_row2 {P:Program}{fn:Func}{p u:Tmp}{ty:TypeId}(h:fn.results=#[.cell p ty,.tmp u]) (tmps:Array Value) (w:World) (g:Nat) (t:TypeId) (cs:Array Value) (fr:Nat×Nat) (d:TypeDesc)
  (hp:tmps.getD p undef=.pointer (some ⟨g,0,none⟩)) (hg:w.heap[g]?=some (.cells cs t fr))
  (hu:P.underlying ty=some d) (hd:(match d with | .struct _ | .array _ _=>true | _=>false)=true) (hi:(P.info? ty).map (·.size)=some cs.size) (r:Value) (hr:tmps.getD u undef=r) :
  (results fn tmps).run P w=.ok (.tuple #[.agg cs,r]) w:=by
 rw [results_cell_tmp h,hp,hr]
 simp [asAddr,run_loadVar_row w g t ty cs fr d hg hu hd hi,Result.andThen]
theorem four_cells (a b c d:Value) (ha:a.oneCell'=true) (hb:b.oneCell'=true) (hc:c.oneCell'=true) (hd:d.oneCell'=true):(#[a,b,c,d]:Array Value).all (·.oneCell')=true:=by simp [ha,hb,hc,hd]
structure TkStI (w:World) (q N kd:Nat) (v:Value) (D:List It.Itm) (l:List UInt8) (b:Bool) (wr:World):Prop where
 tk:TkR wr q (bs l) b
 row:wr.heap[N]?=some (.cells #[.int .u8 kd,v,zS,zS] 31 (0,0))
 res:wr.heap[w.heap.size]?=some (.cells #[.int .u8 0,zS,zS,zS] 31 (0,0))
 own:MkI w wr v D
 q1:w.heap.size<q
 n1:w.heap.size<N
 qn:q≠N
section
variable {w wr w':World}{q N kd:Nat}{v:Value}{D:List It.Itm}{l l2:List UInt8}{b b2:Bool}
theorem TkStI.took (h:TkStI w q N kd v D l b wr) (ht:TkR w' q (bs l2) b2) (hg:wr.grownBy w' (some q)):TkStI w q N kd v D l2 b2 w' :=
 ⟨ht,(hg.block N (row_lt h.row) (fun e=>h.qn (Option.some.inj e).symm)).trans h.row,(hg.block _ (row_lt h.res) (fun e=>Nat.ne_of_lt h.q1 (Option.some.inj e))).trans h.res,h.own.grownQ hg (Nat.le_of_lt h.q1) (h.own.off h.tk (by decide)),h.q1,h.n1,h.qn⟩
theorem TkStI.below (h:TkStI w q N kd v D l b wr) (hb:Below wr.heap.size wr w'):TkStI w q N kd v D l b w' :=
 ⟨h.tk.below hb,(hb.block N (row_lt h.row)).trans h.row,(hb.block _ (row_lt h.res)).trans h.res,h.own.go hb,h.q1,h.n1,h.qn⟩
theorem TkStI.put (h:TkStI w q N kd v D l b wr){v':Value}{D':List It.Itm}(hm:MkI w w' v' D') (hg:wr.grownBy w' v.ownBlock):TkStI w q N kd v' D' l b (w'.setCell ⟨N,1,none⟩ v'):=by
 have hq:=h.own.off h.tk (by decide)
 have hN:=h.own.off h.row (by decide)
 have hR:=h.own.off h.res (by decide)
 have tq:w'.heap[q]?=_:=(hg.block q h.tk.lt (fun e=>hq e.symm)).trans h.tk
 have tN:=(hg.block N (row_lt h.row) (fun e=>hN e.symm)).trans h.row
 have tR:=(hg.block _ (row_lt h.res) (fun e=>hR e.symm)).trans h.res
 have hs:=grown_setCell w' ⟨N,1,none⟩ v'
 refine⟨(hs.block q (row_lt tq) (fun e=>h.qn (Option.some.inj e))).trans tq,?_,(hs.block _ (row_lt tR) (fun e=>Nat.ne_of_lt h.n1 (Option.some.inj e))).trans tR,hm.grownQ hs (Nat.le_of_lt h.n1) (hm.off tN (by decide)),h.q1,h.n1,h.qn⟩
 simp [World.setCell,tN,Array.getElem?_modify]
theorem TkStI.out (h:TkStI w q N kd v D l b wr){n:Nd}(hn:n=⟨kd,D,[],[]⟩):NdOwn w (wr.setRow w.heap.size #[.int .u8 kd,v,zS,zS]) #[.int .u8 kd,v,zS,zS] n∧(wr.setRow w.heap.size #[.int .u8 kd,v,zS,zS]).heap[w.heap.size]?=some (.cells #[.int .u8 kd,v,zS,zS] 31 (0,0)):=by
 subst hn
 have hs:=grown_setRow wr w.heap.size #[.int .u8 kd,v,zS,zS]
 have hm:MkI w (wr.setRow w.heap.size #[.int .u8 kd,v,zS,zS]) v D:=h.own.grownQ hs (Nat.le_refl _) (h.own.off h.res (by decide))
 exact⟨⟨_,_,_,rfl,hm,Mk.nil hm.2,Mk.nil hm.2⟩,setRow_heap' h.res⟩
end
structure TkStK (w:World) (q N kd:Nat) (v:Value) (D:List Kd) (l:List UInt8) (b:Bool) (wr:World):Prop where
 tk:TkR wr q (bs l) b
 row:wr.heap[N]?=some (.cells #[.int .u8 kd,zS,v,zS] 31 (0,0))
 res:wr.heap[w.heap.size]?=some (.cells #[.int .u8 0,zS,zS,zS] 31 (0,0))
 own:MkK w wr v D
 q1:w.heap.size<q
 n1:w.heap.size<N
 qn:q≠N
section
variable {w wr w':World}{q N kd:Nat}{v:Value}{D:List Kd}{l l2:List UInt8}{b b2:Bool}
theorem TkStK.took (h:TkStK w q N kd v D l b wr) (ht:TkR w' q (bs l2) b2) (hg:wr.grownBy w' (some q)):TkStK w q N kd v D l2 b2 w' :=
 ⟨ht,(hg.block N (row_lt h.row) (fun e=>h.qn (Option.some.inj e).symm)).trans h.row,(hg.block _ (row_lt h.res) (fun e=>Nat.ne_of_lt h.q1 (Option.some.inj e))).trans h.res,h.own.grownQ hg (Nat.le_of_lt h.q1) (h.own.off h.tk (by decide)),h.q1,h.n1,h.qn⟩
theorem TkStK.below (h:TkStK w q N kd v D l b wr) (hb:Below wr.heap.size wr w'):TkStK w q N kd v D l b w' :=
 ⟨h.tk.below hb,(hb.block N (row_lt h.row)).trans h.row,(hb.block _ (row_lt h.res)).trans h.res,h.own.go hb,h.q1,h.n1,h.qn⟩
theorem TkStK.put (h:TkStK w q N kd v D l b wr){v':Value}{D':List Kd}(hm:MkK w w' v' D') (hg:wr.grownBy w' v.ownBlock):TkStK w q N kd v' D' l b (w'.setCell ⟨N,2,none⟩ v'):=by
 have hq:=h.own.off h.tk (by decide)
 have hN:=h.own.off h.row (by decide)
 have hR:=h.own.off h.res (by decide)
 have tq:w'.heap[q]?=_:=(hg.block q h.tk.lt (fun e=>hq e.symm)).trans h.tk
 have tN:=(hg.block N (row_lt h.row) (fun e=>hN e.symm)).trans h.row
 have tR:=(hg.block _ (row_lt h.res) (fun e=>hR e.symm)).trans h.res
 have hs:=grown_setCell w' ⟨N,2,none⟩ v'
 refine⟨(hs.block q (row_lt tq) (fun e=>h.qn (Option.some.inj e))).trans tq,?_,(hs.block _ (row_lt tR) (fun e=>Nat.ne_of_lt h.n1 (Option.some.inj e))).trans tR,hm.grownQ hs (Nat.le_of_lt h.n1) (hm.off tN (by decide)),h.q1,h.n1,h.qn⟩
 simp [World.setCell,tN,Array.getElem?_modify]
theorem TkStK.out (h:TkStK w q N kd v D l b wr){n:Nd}(hn:n=⟨kd,[],D,[]⟩):NdOwn w (wr.setRow w.heap.size #[.int .u8 kd,zS,v,zS]) #[.int .u8 kd,zS,v,zS] n∧(wr.setRow w.heap.size #[.int .u8 kd,zS,v,zS]).heap[w.heap.size]?=some (.cells #[.int .u8 kd,zS,v,zS] 31 (0,0)):=by
 subst hn
 have hs:=grown_setRow wr w.heap.size #[.int .u8 kd,zS,v,zS]
 have hm:MkK w (wr.setRow w.heap.size #[.int .u8 kd,zS,v,zS]) v D:=h.own.grownQ hs (Nat.le_refl _) (h.own.off h.res (by decide))
 exact⟨⟨_,_,_,rfl,Mk.nil hm.2,hm,Mk.nil hm.2⟩,setRow_heap' h.res⟩
end
structure TkStV (w:World) (q N kd:Nat) (v:Value) (D:List Vo) (l:List UInt8) (b:Bool) (wr:World):Prop where
 tk:TkR wr q (bs l) b
 row:wr.heap[N]?=some (.cells #[.int .u8 kd,zS,zS,v] 31 (0,0))
 res:wr.heap[w.heap.size]?=some (.cells #[.int .u8 0,zS,zS,zS] 31 (0,0))
 own:MkV w wr v D
 q1:w.heap.size<q
 n1:w.heap.size<N
 qn:q≠N
section
variable {w wr w':World}{q N kd:Nat}{v:Value}{D:List Vo}{l l2:List UInt8}{b b2:Bool}
theorem TkStV.took (h:TkStV w q N kd v D l b wr) (ht:TkR w' q (bs l2) b2) (hg:wr.grownBy w' (some q)):TkStV w q N kd v D l2 b2 w' :=
 ⟨ht,(hg.block N (row_lt h.row) (fun e=>h.qn (Option.some.inj e).symm)).trans h.row,(hg.block _ (row_lt h.res) (fun e=>Nat.ne_of_lt h.q1 (Option.some.inj e))).trans h.res,h.own.grownQ hg (Nat.le_of_lt h.q1) (h.own.off h.tk (by decide)),h.q1,h.n1,h.qn⟩
theorem TkStV.below (h:TkStV w q N kd v D l b wr) (hb:Below wr.heap.size wr w'):TkStV w q N kd v D l b w' :=
 ⟨h.tk.below hb,(hb.block N (row_lt h.row)).trans h.row,(hb.block _ (row_lt h.res)).trans h.res,h.own.go hb,h.q1,h.n1,h.qn⟩
theorem TkStV.put (h:TkStV w q N kd v D l b wr){v':Value}{D':List Vo}(hm:MkV w w' v' D') (hg:wr.grownBy w' v.ownBlock):TkStV w q N kd v' D' l b (w'.setCell ⟨N,3,none⟩ v'):=by
 have hq:=h.own.off h.tk (by decide)
 have hN:=h.own.off h.row (by decide)
 have hR:=h.own.off h.res (by decide)
 have tq:w'.heap[q]?=_:=(hg.block q h.tk.lt (fun e=>hq e.symm)).trans h.tk
 have tN:=(hg.block N (row_lt h.row) (fun e=>hN e.symm)).trans h.row
 have tR:=(hg.block _ (row_lt h.res) (fun e=>hR e.symm)).trans h.res
 have hs:=grown_setCell w' ⟨N,3,none⟩ v'
 refine⟨(hs.block q (row_lt tq) (fun e=>h.qn (Option.some.inj e))).trans tq,?_,(hs.block _ (row_lt tR) (fun e=>Nat.ne_of_lt h.n1 (Option.some.inj e))).trans tR,hm.grownQ hs (Nat.le_of_lt h.n1) (hm.off tN (by decide)),h.q1,h.n1,h.qn⟩
 simp [World.setCell,tN,Array.getElem?_modify]
theorem TkStV.out (h:TkStV w q N kd v D l b wr){n:Nd}(hn:n=⟨kd,[],[],D⟩):NdOwn w (wr.setRow w.heap.size #[.int .u8 kd,zS,zS,v]) #[.int .u8 kd,zS,zS,v] n∧(wr.setRow w.heap.size #[.int .u8 kd,zS,zS,v]).heap[w.heap.size]?=some (.cells #[.int .u8 kd,zS,zS,v] 31 (0,0)):=by
 subst hn
 have hs:=grown_setRow wr w.heap.size #[.int .u8 kd,zS,zS,v]
 have hm:MkV w (wr.setRow w.heap.size #[.int .u8 kd,zS,zS,v]) v D:=h.own.grownQ hs (Nat.le_refl _) (h.own.off h.res (by decide))
 exact⟨⟨_,_,_,rfl,Mk.nil hm.2,Mk.nil hm.2,hm⟩,setRow_heap' h.res⟩
end
set_option maxRecDepth 100000 in
set_option maxHeartbeats 8000000 in
theorem takenI (s:ByteArray) (h4:s.size≤maxLen) (hkd:(tkNum 1 (s.data.toList,false)).1=1) (w:World):Calls Tryz.prog 121 #[.string s] w (TkPost s.data.toList w):=by
 obtain⟨kd,⟨l1,b1⟩,e1⟩:∃ V s2,tkNum 1 (s.data.toList,false)=(V,s2):=⟨_,_,rfl⟩
 obtain⟨c,⟨l2,b2⟩,e2⟩:∃ V s2,tkNum 1 (l1,b1)=(V,s2):=⟨_,_,rfl⟩
 have hkd8:=num_byte (s.data.toList,false)
 have hc8:=num_byte (l1,b1)
 have hl1:=num_less 1 (s.data.toList,false)
 have hl2:=num_less 1 (l1,b1)
 rw [e1] at hkd8 hl1
 rw [e2] at hc8 hl2
 dsimp only at hkd8 hl1 hc8 hl2
 have hm1:(bs l1).size≤maxLen:=bs_le (s:=s) hl1 h4
 have hm2:(bs l2).size≤maxLen:=bs_le (s:=bs l1) hl2 hm1
 have HC1:=hid (show ∀ w q,TkR w q s false→Calls Tryz.prog 150 #[.pointer (some ⟨q,0,none⟩),.int .i64 1] w fun e w'=>e=.returned (.int .u64 (kd:Nat))∧TkR w' q (bs l1) b1∧w.grownBy w' (some q) from fun w q h=>by
  have c:=number_tk h 1 (by omega) (by omega) h4
  rw [e1] at c
  exact c)
 have HC2:=hid (show ∀ w q,TkR w q (bs l1) b1→Calls Tryz.prog 150 #[.pointer (some ⟨q,0,none⟩),.int .i64 1] w fun e w'=>e=.returned (.int .u64 (c:Nat))∧TkR w' q (bs l2) b2∧w.grownBy w' (some q) from fun w q h=>by
  have c:=number_tk h 1 (by omega) (by omega) hm1
  rw [bs_data,e2] at c
  exact c)
 rw [e1] at hkd
 dsimp only at hkd
 have HT:=hid (show tkN s.data.toList=(⟨kd,(tkMany cI c (l2,b2)).1,[],[]⟩,!(tkMany cI c (l2,b2)).2.2&&allz (tkMany cI c (l2,b2)).2.1) by
  unfold tkN
  rw [e1]
  dsimp only
  rw [e2]
  dsimp only
  rw [if_pos hkd])
 have HM2:=hid hm2
 have HKD:=hid hkd
 have eu:IntKind.u8.wrap (kd:Int)=(kd:Int):=IntWalk.u8_in _ (by omega)
 obtain⟨R1,R2,S0,Z0⟩:=two_new w #[.int .u8 0,zS,zS,zS] #[.string s,.bool false] 31 203
 have HR1:=hid R1
 have HT2:=hid (show TkR _ (w.heap.size+1) s false from R2)
 have HS0:=hid S0
 clear R1 R2 S0 Z0 hm1 hm2 hl1 hl2 hkd e1 e2 h4
 go_enter Tryz.func121,Tryz.ntmps121
 go_wp2_with fail
 go_step3
 go_wp2_with fail
 generalize (w.alloc _).alloc _=W2 at *
 go_at_call 150
 refine (HC1.out _ _ HT2.out).mono ?_
 rintro e w3 ⟨rfl,ht,hg⟩
 have HT3:=hid ht
 have HR3:=hid ((hg.block w.heap.size (row_lt HR1.out) (fun e=>by have:=Option.some.inj e;omega)).trans HR1.out)
 have HB3:=hid (HS0.out.grown hg HS0.out.size (fun k hk=>by cases hk;exact Nat.le_succ _))
 clear ht hg HT2 HR1 HS0
 go_wp2_with fail
 have hal:Below w3.heap.size w3 (w3.alloc (.cells #[.int .u8 kd,zS,zS,zS] 31)):=(Below.refl _ _).alloc (Nat.le_refl _) _
 have HN4:=hid (heap_alloc_new w3 (.cells #[.int .u8 kd,zS,zS,zS] 31))
 have HT4:=hid (HT3.out.below hal)
 have HR4:=hid ((hal.block w.heap.size (row_lt HR3.out)).trans HR3.out)
 have HB4:=hid (HB3.out.trans (hal.mono HB3.out.size))
 have HN1:=hid (show w.heap.size<w3.heap.size from row_lt HR3.out)
 have HQN:=hid (show w.heap.size+1≠w3.heap.size from Nat.ne_of_lt HT3.out.lt)
 have HQ1:=hid (show w.heap.size<w.heap.size+1 from Nat.lt_succ_self _)
 have HS4:=hid (show TkStI w (w.heap.size+1) w3.heap.size kd zS [] l1 b1 (w3.alloc (.cells #[.int .u8 kd,zS,zS,zS] 31)) from⟨HT4.out,HN4.out,HR4.out,Mk.nil HB4.out,HQ1.out,HN1.out,HQN.out⟩)
 clear hal HN4 HT3 HR3 HB3 HR4 HB4 HN1 HQN HQ1
 generalize w3.alloc _=w4 at *
 generalize w3.heap.size=N at *
 go_at_call 150
 refine (HC2.out _ _ HT4.out).mono ?_
 rintro e w5 ⟨rfl,ht,hg⟩
 have HS5:=hid (HS4.out.took ht hg)
 clear ht hg HS4 HT4 HC1 HC2
 generalize hq:w.heap.size+1=q at *
 clear hq
 go_wp2_with fail
 go_step3
 go_wp2_with fail
 go_loopw [14] (fun iv wr=>∃ (i:Nat) (v1:Value) (D:List It.Itm) (l:List UInt8) (b:Bool),i≤c∧iv=.int .u64 i∧Hid (TkStI w q N kd v1 D l b wr)∧Hid (TkInv cI c (l2,b2) i D l b)) (fun iv _=>c-(intOf iv).toNat)
 case atStart=>exact⟨0,zS,[],l2,b2,Nat.zero_le _,by go_num,HS5.out,TkInv.start⟩
 case round =>
  obtain⟨i,v1,D,l,b,hi,rfl,hst,hinv⟩:=hrel
  have HLB:=hid (show (bs l).size≤maxLen from bs_le (s:=bs l2) (Hid.out hinv).2.2.1 HM2.out)
  by_cases hlt:i<c
  ·have HIL:=hid (show D.length≤255 by have:=(Hid.out hinv).2.1;omega)
   obtain⟨x,⟨l3,b3⟩,e3⟩:∃ x s2,cI.tk (l,b)=(x,s2):=⟨_,_,rfl⟩
   have HL3:=hid (less_of I_less e3)
   have HCT:=hid (fun w h=>item_tkL (w:=w) (q:=q) e3 HLB.out h)
   have HE3:=hid e3
   have HM3:=hid (show (bs l3).size≤maxLen from bs_le (s:=bs l) HL3.out HLB.out)
   clear e3
   have k0:wr.cell? ⟨N,0,none⟩=some (.int .u8 kd):=cell_of_row _ _ 0 _ _ _ (Hid.out hst).row
   have q1:((kd:Int)==1)=true:=by rw [HKD.out];rfl
   go_wp2_with fail
   refine wp_region_T (fun w':World=>w'.cell? ⟨N,1,none⟩=some v1) 5 (by kernel_rfl) (by kernel_rfl) ?_
   have hS:wr.drew.cell? ⟨N,1,none⟩=some v1:=cell_of_row _ _ 1 _ _ _ (Hid.out hst).row
   refine take_T 0 20 (.pointer (some ⟨N,1,none⟩)) rfl (by rfl) (by kernel_rfl) (by decide) (by kernel_rfl) (by kernel_rfl) (by kernel_rfl) (fun _ _ _ h=>h) (Or.inl ⟨by rfl,fun w' hSw=>by go_simp⟩) hS ?_
   simp only [Gb1a,Gb1b,Gb1c]
   refine take_T 1 21 (v1) rfl (by rfl) (by kernel_rfl) (by decide) (by kernel_rfl) (by kernel_rfl) (by kernel_rfl) (fun _ _ _ h=>h) (Or.inl ⟨by rfl,fun w' hSw=>by go_simp⟩) hS ?_
   simp only [Gb1a,Gb1b,Gb1c]
   refine only_T 2 rfl (by kernel_rfl) (by decide) (by rfl) (fun K hK=>?_)
   go_wp2_with fail
   go_at_call 151
   refine (HCT.out _ (show TkR wr.drew q (bs l) b from (Hid.out hst).tk)).mono ?_
   rintro e w3 ⟨rfl,ht,hg⟩
   have HS3:=hid (((Hid.out hst).below (Below.refl _ _).drew).took ht hg)
   clear ht hg hst k0
   have hS2:w3.cell? ⟨N,1,none⟩=some v1:=cell_of_row _ _ 1 _ _ _ HS3.out.row
   refine hK.out _ _ hS2 ?_
   clear hK K
   try simp only [Act.put,Gb1a,Gb1b,Gb1c]
   clear hS
   have hS:=hS2
   clear hS2
   refine only_T 3 rfl (by kernel_rfl) (by decide) (by rfl) (fun K hK=>?_)
   refine op_oneI (.tmp 22) x rfl rfl ?_
   have hal:Below w3.heap.size w3 (w3.alloc (.cells (It.enc x).toArray 63)):=(Below.refl _ _).alloc (Nat.le_refl _) _
   have HS4:=hid (HS3.out.below hal)
   have HX4:=hid (heap_alloc_new w3 (.cells (It.enc x).toArray 63))
   clear hal HS3
   generalize w3.alloc _=w4 at *
   generalize w3.heap.size=g4 at *
   have hS2:w4.cell? ⟨N,1,none⟩=some v1:=cell_of_row _ _ 1 _ _ _ HS4.out.row
   refine hK.out _ _ hS2 ?_
   clear hK K
   try simp only [Act.put,Gb1a,Gb1b,Gb1c]
   clear hS
   have hS:=hS2
   clear hS2
   refine only_T 4 rfl (by kernel_rfl) (by decide) (by rfl) (fun K hK=>?_)
   refine op_catI HS4.out.own x g4 1 HX4.out (by have:=HIL.out;omega) (.tmp 21) (.tmp 23) rfl rfl rfl ?_
   intro v5 w5x hm5 hg5 hat5
   obtain⟨A5,n5,c5,rfl⟩:∃ A n c,v5=.slice A n c:=by obtain⟨A,c,h,_⟩:=hm5.ls It.enc_len;exact⟨A,_,c,h⟩
   have HS5x:=hid (HS4.out.put hm5 hg5)
   have hq5:=HS4.out.own.off HS4.out.tk (by decide)
   have hN5:=HS4.out.own.off HS4.out.row (by decide)
   have tN:=(hg5.block N (row_lt HS4.out.row) (fun e=>hN5 e.symm)).trans HS4.out.row
   have hS2:w5x.cell? ⟨N,1,none⟩=some v1:=cell_of_row _ _ 1 _ _ _ tN
   have f5:w5x.frozen? ⟨N,1,none⟩=false:=frozen_of_row _ _ _ _ _ tN
   clear hm5 hg5 hat5 hq5 hN5 tN HS4 HX4
   refine hK.out _ _ hS2 ?_
   clear hK K
   try simp only [Act.put,Gb1a,Gb1b,Gb1c]
   clear hS
   have hS:=hS2
   clear hS2
   refine done_T (by kernel_rfl) ?_
   simp only [List.drop_succ_cons,List.drop_zero]
   have d1:(w5x.setCell ⟨N,1,none⟩ (.slice A5 n5 c5)).cell? ⟨q,1,none⟩=some (.bool b3):=HS5x.out.tk.c1
   cases b3
   ·have HI2:=hid ((Hid.out hinv).step hlt HE3.out HL3.out)
    clear hinv HE3 HCT HL3
    go_wp2_with fail
    exact⟨⟨i+1,_,D++[x],l3,false,by omega,by go_num,HS5x.out,HI2.out⟩,by simp [intOf]<;>omega⟩
   ·have HDN0:=hid ((Hid.out hinv).stop hlt HE3.out)
    clear hinv HE3 HCT HL3
    go_wp2_with fail
    clear d1 f5 hS
    generalize World.setCell _ _ _=wE at *
    obtain⟨DE,hDE⟩:∃ DE,D++[x]=DE:=⟨_,rfl⟩
    rw [hDE] at HDN0 HS5x
    clear hDE
    have HDN:=HDN0
    have HONE:=hid (show (#[.int .u8 kd,(.slice A5 n5 c5),zS,zS]:Array Value).all (·.oneCell')=true from four_cells _ _ _ _ rfl rfl rfl rfl)
    have HR2:=hid (show (tkN s.data.toList).2=false by rw [HT.out,HDN.out];rfl)
    have HND:=hid (show (tkN s.data.toList).1=⟨kd,DE,[],[]⟩ by rw [HT.out,HDN.out])
    have HSF:=hid (HS5x.out)
    have HKP:=hid (show ∀ w':World,TkStI w q N kd ((.slice A5 n5 c5)) DE l3 true w'→w'.cell? ⟨N,0,none⟩=some (.int .u8 kd)∧w'.cell? ⟨N,1,none⟩=some ((.slice A5 n5 c5))∧w'.cell? ⟨N,2,none⟩=some (zS)∧w'.cell? ⟨N,3,none⟩=some (zS)∧w'.cell? ⟨q,0,none⟩=some (.string (bs l3))∧w'.cell? ⟨q,1,none⟩=some (.bool true) from fun w' h=>⟨cell_of_row _ _ 0 _ _ _ h.row,cell_of_row _ _ 1 _ _ _ h.row,cell_of_row _ _ 2 _ _ _ h.row,cell_of_row _ _ 3 _ _ _ h.row,h.tk.c0,h.tk.c1⟩)
    refine wp_region_T (fun w':World=>w'.cell? ⟨N,0,none⟩=some (.int .u8 kd)∧w'.cell? ⟨N,1,none⟩=some ((.slice A5 n5 c5))∧w'.cell? ⟨N,2,none⟩=some (zS)∧w'.cell? ⟨N,3,none⟩=some (zS)∧w'.cell? ⟨q,0,none⟩=some (.string (bs l3))∧w'.cell? ⟨q,1,none⟩=some (.bool true)) 11 (by kernel_rfl) (by kernel_rfl) ?_
    have hS:=HKP.out wE.drew (HSF.out.below (Below.refl _ _).drew)
    refine take_T 0 45 (.agg #[.int .u8 kd,(.slice A5 n5 c5),zS,zS]) rfl (by rfl) (by kernel_rfl) (by decide) (by kernel_rfl) (by kernel_rfl) (by kernel_rfl) (fun _ _ _ h=>h) (Or.inl ⟨by rfl,fun w' hSw=>by obtain⟨s0,s1,s2,s3,s4,s5⟩:=hSw;go_simp⟩) hS ?_
    simp only [Gb1a,Gb1b,Gb1c]
    refine take_T 1 46 (.pointer (some ⟨q,1,none⟩)) rfl (by rfl) (by kernel_rfl) (by decide) (by kernel_rfl) (by kernel_rfl) (by kernel_rfl) (fun _ _ _ h=>h) (Or.inl ⟨by rfl,fun w' hSw=>by obtain⟨s0,s1,s2,s3,s4,s5⟩:=hSw;go_simp⟩) hS ?_
    simp only [Gb1a,Gb1b,Gb1c]
    refine take_T 2 47 (.bool true) rfl (by rfl) (by kernel_rfl) (by decide) (by kernel_rfl) (by kernel_rfl) (by kernel_rfl) (fun _ _ _ h=>h) (Or.inl ⟨by rfl,fun w' hSw=>by obtain⟨s0,s1,s2,s3,s4,s5⟩:=hSw;go_simp⟩) hS ?_
    simp only [Gb1a,Gb1b,Gb1c]
    refine take_T 3 48 (.bool false) rfl (by rfl) (by kernel_rfl) (by decide) (by kernel_rfl) (by kernel_rfl) (by kernel_rfl) (fun _ _ _ h=>h) (Or.inl ⟨by rfl,fun w' hSw=>by obtain⟨s0,s1,s2,s3,s4,s5⟩:=hSw;go_simp⟩) hS ?_
    simp only [Gb1a,Gb1b,Gb1c]
    refine take_T 4 49 (.bool false) rfl (by rfl) (by kernel_rfl) (by decide) (by kernel_rfl) (by kernel_rfl) (by kernel_rfl) (fun _ _ _ h=>h) (Or.inl ⟨by rfl,fun w' hSw=>by obtain⟨s0,s1,s2,s3,s4,s5⟩:=hSw;go_simp⟩) hS ?_
    simp only [Gb1a,Gb1b,Gb1c]
    refine take_T 5 50 undef rfl (by rfl) (by kernel_rfl) (by decide) (by kernel_rfl) (by kernel_rfl) (by kernel_rfl) (fun _ _ _ h=>h) (Or.inr ⟨by rfl,rfl⟩) hS ?_
    simp only [Gb1a,Gb1b,Gb1c]
    refine take_T 6 51 undef rfl (by rfl) (by kernel_rfl) (by decide) (by kernel_rfl) (by kernel_rfl) (by kernel_rfl) (fun _ _ _ h=>h) (Or.inr ⟨by rfl,rfl⟩) hS ?_
    simp only [Gb1a,Gb1b,Gb1c]
    refine take_T 7 52 undef rfl (by rfl) (by kernel_rfl) (by decide) (by kernel_rfl) (by kernel_rfl) (by kernel_rfl) (fun _ _ _ h=>h) (Or.inr ⟨by rfl,rfl⟩) hS ?_
    simp only [Gb1a,Gb1b,Gb1c]
    refine take_T 8 53 undef rfl (by rfl) (by kernel_rfl) (by decide) (by kernel_rfl) (by kernel_rfl) (by kernel_rfl) (fun _ _ _ h=>h) (Or.inr ⟨by rfl,rfl⟩) hS ?_
    simp only [Gb1a,Gb1b,Gb1c]
    refine take_T 9 54 (.bool false) rfl (by rfl) (by kernel_rfl) (by decide) (by kernel_rfl) (by kernel_rfl) (by kernel_rfl) (fun _ _ _ h=>h) (Or.inl ⟨by rfl,fun w' hSw=>by obtain⟨s0,s1,s2,s3,s4,s5⟩:=hSw;go_simp⟩) hS ?_
    simp only [Gb1a,Gb1b,Gb1c]
    have HS9:=hid (show TkStI w q N kd ((.slice A5 n5 c5)) DE l3 true wE.drew from HSF.out.below (Below.refl _ _).drew)
    refine only_T 10 rfl (by kernel_rfl) (by decide) (by rfl) (fun K hK=>?_)
    refine wp_store_row 31 (.tmp 2) (.tmp 45) rfl w.heap.size #[.int .u8 kd,(.slice A5 n5 c5),zS,zS] rfl rfl 31 #[.int .u8 0,zS,zS,zS] HS9.out.res (by kernel_rfl) rfl HONE.out ?_
    obtain⟨hown,hrow9⟩:=HS9.out.out HND.out
    have HOWN:=hid hown
    have HROW9:=hid hrow9
    have hS2:(wE.drew.setRow w.heap.size #[.int .u8 kd,(.slice A5 n5 c5),zS,zS]).cell? ⟨N,0,none⟩=some (.int .u8 kd)∧(wE.drew.setRow w.heap.size #[.int .u8 kd,(.slice A5 n5 c5),zS,zS]).cell? ⟨N,1,none⟩=some ((.slice A5 n5 c5))∧(wE.drew.setRow w.heap.size #[.int .u8 kd,(.slice A5 n5 c5),zS,zS]).cell? ⟨N,2,none⟩=some (zS)∧(wE.drew.setRow w.heap.size #[.int .u8 kd,(.slice A5 n5 c5),zS,zS]).cell? ⟨N,3,none⟩=some (zS)∧(wE.drew.setRow w.heap.size #[.int .u8 kd,(.slice A5 n5 c5),zS,zS]).cell? ⟨q,0,none⟩=some (.string (bs l3))∧(wE.drew.setRow w.heap.size #[.int .u8 kd,(.slice A5 n5 c5),zS,zS]).cell? ⟨q,1,none⟩=some (.bool true):=by
     have hs:=grown_setRow wE.drew w.heap.size #[.int .u8 kd,(.slice A5 n5 c5),zS,zS]
     have rN:=(hs.block N (row_lt HS9.out.row) (fun e=>Nat.ne_of_lt HS9.out.n1 (Option.some.inj e).symm)).trans HS9.out.row
     have rq:=(hs.block q HS9.out.tk.lt (fun e=>Nat.ne_of_lt HS9.out.q1 (Option.some.inj e).symm)).trans HS9.out.tk
     exact⟨cell_of_row _ _ 0 _ _ _ rN,cell_of_row _ _ 1 _ _ _ rN,cell_of_row _ _ 2 _ _ _ rN,cell_of_row _ _ 3 _ _ _ rN,cell_of_row _ _ 0 _ _ _ rq,cell_of_row _ _ 1 _ _ _ rq⟩
    refine hK.out _ _ hS2 ?_
    clear hK K
    try simp only [Act.put,Gb1a,Gb1b,Gb1c]
    clear hS hS2 hown hrow9
    generalize World.setRow _ _ _=wz at *
    refine done_T (by kernel_rfl) ?_
    simp only [List.drop_succ_cons,List.drop_zero]
    go_wp2_with fail
    rw [Exit.noGoto_ret]
    refine bodyPost_ret (v:=.tuple #[.agg #[.int .u8 kd,(.slice A5 n5 c5),zS,zS],.bool false]) (results_row2 rfl _ _ w.heap.size 31 #[.int .u8 kd,(.slice A5 n5 c5),zS,zS] (0,0) _ rfl HROW9.out Tryz.underlying31 rfl (by kernel_rfl) _ rfl) rfl ?_
    exact⟨_,by rw [HR2.out],HOWN.out⟩
  ·have HDN:=hid ((Hid.out hinv).done hlt)
   clear hinv
   have HSX:=hid (Hid.out hst)
   clear hst
   have HONE:=hid (show (#[.int .u8 kd,v1,zS,zS]:Array Value).all (·.oneCell')=true by rcases HSX.out.own.1.2 with ⟨h,_⟩ | ⟨g,cap,cur,h,_⟩<;>(subst h;exact four_cells _ _ _ _ rfl rfl rfl rfl))
   have HLE:=HLB
   cases b
   ·go_wp2_with fail
    clear hlt hi
    have HTR:=hid (show ∀ w',Calls Tryz.prog 154 #[.string (bs l),.string ⟨#[0]⟩] w' fun e w2=>e=.returned (.string (bs (Lib.trimB l 0)))∧(w2=w'∨w2=w'.drew) from fun w'=>Tryz.strings_Trim_one (bs l) 0 (by decide) w' (by have:=HLE.out;unfold maxLen at this;omega))
    have HND:=hid (show (tkN s.data.toList).1=⟨kd,D,[],[]⟩ by rw [HT.out,HDN.out])
    by_cases hz:allz l=true
    ·have HR2:=hid (show (tkN s.data.toList).2=true by rw [HT.out,HDN.out];show (!false&&allz l)=true;rw [hz];rfl)
     have hz1:(bs (Lib.trimB l 0)).toList=[]:=str_nil (by rw [bs_size,(trimB_nil l).2 hz];rfl)
     have hz2:(bs (Lib.trimB l 0)).toList.isEmpty=true:=by rw [hz1];rfl
     clear hz
     have HSF:=hid (HSX.out)
     have HKP:=hid (show ∀ w':World,TkStI w q N kd (v1) D l false w'→w'.cell? ⟨N,0,none⟩=some (.int .u8 kd)∧w'.cell? ⟨N,1,none⟩=some (v1)∧w'.cell? ⟨N,2,none⟩=some (zS)∧w'.cell? ⟨N,3,none⟩=some (zS)∧w'.cell? ⟨q,0,none⟩=some (.string (bs l))∧w'.cell? ⟨q,1,none⟩=some (.bool false) from fun w' h=>⟨cell_of_row _ _ 0 _ _ _ h.row,cell_of_row _ _ 1 _ _ _ h.row,cell_of_row _ _ 2 _ _ _ h.row,cell_of_row _ _ 3 _ _ _ h.row,h.tk.c0,h.tk.c1⟩)
     refine wp_region_T (fun w':World=>w'.cell? ⟨N,0,none⟩=some (.int .u8 kd)∧w'.cell? ⟨N,1,none⟩=some (v1)∧w'.cell? ⟨N,2,none⟩=some (zS)∧w'.cell? ⟨N,3,none⟩=some (zS)∧w'.cell? ⟨q,0,none⟩=some (.string (bs l))∧w'.cell? ⟨q,1,none⟩=some (.bool false)) 11 (by kernel_rfl) (by kernel_rfl) ?_
     have hS:=HKP.out wr.drew (HSF.out.below (Below.refl _ _).drew)
     refine take_T 0 45 (.agg #[.int .u8 kd,v1,zS,zS]) rfl (by rfl) (by kernel_rfl) (by decide) (by kernel_rfl) (by kernel_rfl) (by kernel_rfl) (fun _ _ _ h=>h) (Or.inl ⟨by rfl,fun w' hSw=>by obtain⟨s0,s1,s2,s3,s4,s5⟩:=hSw;go_simp⟩) hS ?_
     simp only [Gb1a,Gb1b,Gb1c]
     refine take_T 1 46 (.pointer (some ⟨q,1,none⟩)) rfl (by rfl) (by kernel_rfl) (by decide) (by kernel_rfl) (by kernel_rfl) (by kernel_rfl) (fun _ _ _ h=>h) (Or.inl ⟨by rfl,fun w' hSw=>by obtain⟨s0,s1,s2,s3,s4,s5⟩:=hSw;go_simp⟩) hS ?_
     simp only [Gb1a,Gb1b,Gb1c]
     refine take_T 2 47 (.bool false) rfl (by rfl) (by kernel_rfl) (by decide) (by kernel_rfl) (by kernel_rfl) (by kernel_rfl) (fun _ _ _ h=>h) (Or.inl ⟨by rfl,fun w' hSw=>by obtain⟨s0,s1,s2,s3,s4,s5⟩:=hSw;go_simp⟩) hS ?_
     simp only [Gb1a,Gb1b,Gb1c]
     refine take_T 3 48 (.bool true) rfl (by rfl) (by kernel_rfl) (by decide) (by kernel_rfl) (by kernel_rfl) (by kernel_rfl) (fun _ _ _ h=>h) (Or.inl ⟨by rfl,fun w' hSw=>by obtain⟨s0,s1,s2,s3,s4,s5⟩:=hSw;go_simp⟩) hS ?_
     simp only [Gb1a,Gb1b,Gb1c]
     refine take_T 4 49 (.bool true) rfl (by rfl) (by kernel_rfl) (by decide) (by kernel_rfl) (by kernel_rfl) (by kernel_rfl) (fun _ _ _ h=>h) (Or.inl ⟨by rfl,fun w' hSw=>by obtain⟨s0,s1,s2,s3,s4,s5⟩:=hSw;go_simp⟩) hS ?_
     simp only [Gb1a,Gb1b,Gb1c]
     refine take_T 5 50 (.pointer (some ⟨q,0,none⟩)) rfl (by rfl) (by kernel_rfl) (by decide) (by kernel_rfl) (by kernel_rfl) (by kernel_rfl) (fun _ _ _ h=>h) (Or.inl ⟨by rfl,fun w' hSw=>by obtain⟨s0,s1,s2,s3,s4,s5⟩:=hSw;go_simp⟩) hS ?_
     simp only [Gb1a,Gb1b,Gb1c]
     refine take_T 6 51 (.string (bs l)) rfl (by rfl) (by kernel_rfl) (by decide) (by kernel_rfl) (by kernel_rfl) (by kernel_rfl) (fun _ _ _ h=>h) (Or.inl ⟨by rfl,fun w' hSw=>by obtain⟨s0,s1,s2,s3,s4,s5⟩:=hSw;go_simp⟩) hS ?_
     simp only [Gb1a,Gb1b,Gb1c]
     refine only_T 7 rfl (by kernel_rfl) (by decide) (by rfl) (fun K hK=>?_)
     go_wp2_with fail
     go_at_call 154
     refine (HTR.out _).mono ?_
     rintro e w9 ⟨rfl,hw9⟩
     have HS9:=hid (show TkStI w q N kd (v1) D l false w9 from by
      rcases hw9 with rfl | rfl
      ·exact HSF.out.below (Below.refl _ _).drew
      ·exact (HSF.out.below (Below.refl _ _).drew).below (Below.refl _ _).drew)
     clear hw9
     have hS2:=HKP.out _ HS9.out
     refine hK.out _ _ hS2 ?_
     clear hK K
     try simp only [Act.put,Gb1a,Gb1b,Gb1c]
     clear hS
     have hS:=hS2
     clear hS2
     refine take_T 8 53 (.bool true) rfl (by rfl) (by kernel_rfl) (by decide) (by kernel_rfl) (by kernel_rfl) (by kernel_rfl) (fun _ _ _ h=>h) (Or.inl ⟨by rfl,fun w' hSw=>by obtain⟨s0,s1,s2,s3,s4,s5⟩:=hSw;go_simp⟩) hS ?_
     simp only [Gb1a,Gb1b,Gb1c]
     refine take_T 9 54 (.bool true) rfl (by rfl) (by kernel_rfl) (by decide) (by kernel_rfl) (by kernel_rfl) (by kernel_rfl) (fun _ _ _ h=>h) (Or.inl ⟨by rfl,fun w' hSw=>by obtain⟨s0,s1,s2,s3,s4,s5⟩:=hSw;go_simp⟩) hS ?_
     simp only [Gb1a,Gb1b,Gb1c]
     refine only_T 10 rfl (by kernel_rfl) (by decide) (by rfl) (fun K hK=>?_)
     refine wp_store_row 31 (.tmp 2) (.tmp 45) rfl w.heap.size #[.int .u8 kd,v1,zS,zS] rfl rfl 31 #[.int .u8 0,zS,zS,zS] HS9.out.res (by kernel_rfl) rfl HONE.out ?_
     obtain⟨hown,hrow9⟩:=HS9.out.out HND.out
     have HOWN:=hid hown
     have HROW9:=hid hrow9
     have hS2:(w9.setRow w.heap.size #[.int .u8 kd,v1,zS,zS]).cell? ⟨N,0,none⟩=some (.int .u8 kd)∧(w9.setRow w.heap.size #[.int .u8 kd,v1,zS,zS]).cell? ⟨N,1,none⟩=some (v1)∧(w9.setRow w.heap.size #[.int .u8 kd,v1,zS,zS]).cell? ⟨N,2,none⟩=some (zS)∧(w9.setRow w.heap.size #[.int .u8 kd,v1,zS,zS]).cell? ⟨N,3,none⟩=some (zS)∧(w9.setRow w.heap.size #[.int .u8 kd,v1,zS,zS]).cell? ⟨q,0,none⟩=some (.string (bs l))∧(w9.setRow w.heap.size #[.int .u8 kd,v1,zS,zS]).cell? ⟨q,1,none⟩=some (.bool false):=by
      have hs:=grown_setRow w9 w.heap.size #[.int .u8 kd,v1,zS,zS]
      have rN:=(hs.block N (row_lt HS9.out.row) (fun e=>Nat.ne_of_lt HS9.out.n1 (Option.some.inj e).symm)).trans HS9.out.row
      have rq:=(hs.block q HS9.out.tk.lt (fun e=>Nat.ne_of_lt HS9.out.q1 (Option.some.inj e).symm)).trans HS9.out.tk
      exact⟨cell_of_row _ _ 0 _ _ _ rN,cell_of_row _ _ 1 _ _ _ rN,cell_of_row _ _ 2 _ _ _ rN,cell_of_row _ _ 3 _ _ _ rN,cell_of_row _ _ 0 _ _ _ rq,cell_of_row _ _ 1 _ _ _ rq⟩
     refine hK.out _ _ hS2 ?_
     clear hK K
     try simp only [Act.put,Gb1a,Gb1b,Gb1c]
     clear hS hS2 hown hrow9
     generalize World.setRow _ _ _=wz at *
     refine done_T (by kernel_rfl) ?_
     simp only [List.drop_succ_cons,List.drop_zero]
     go_wp2_with fail
     rw [Exit.noGoto_ret]
     refine bodyPost_ret (v:=.tuple #[.agg #[.int .u8 kd,v1,zS,zS],.bool true]) (results_row2 rfl _ _ w.heap.size 31 #[.int .u8 kd,v1,zS,zS] (0,0) _ rfl HROW9.out Tryz.underlying31 rfl (by kernel_rfl) _ rfl) rfl ?_
     exact⟨_,by rw [HR2.out],HOWN.out⟩
    ·have hz0:(bs (Lib.trimB l 0)).size≠0:=by
      rw [bs_size];intro h;exact hz ((trimB_nil l).1 (List.eq_nil_of_length_eq_zero h))
     have HR2:=hid (show (tkN s.data.toList).2=false by rw [HT.out,HDN.out];show (!false&&allz l)=false;rw [Bool.eq_false_iff.2 hz];rfl)
     have hz1:=str_empty hz0
     have hz2:=str_nonil hz0
     clear hz hz0
     have HSF:=hid (HSX.out)
     have HKP:=hid (show ∀ w':World,TkStI w q N kd (v1) D l false w'→w'.cell? ⟨N,0,none⟩=some (.int .u8 kd)∧w'.cell? ⟨N,1,none⟩=some (v1)∧w'.cell? ⟨N,2,none⟩=some (zS)∧w'.cell? ⟨N,3,none⟩=some (zS)∧w'.cell? ⟨q,0,none⟩=some (.string (bs l))∧w'.cell? ⟨q,1,none⟩=some (.bool false) from fun w' h=>⟨cell_of_row _ _ 0 _ _ _ h.row,cell_of_row _ _ 1 _ _ _ h.row,cell_of_row _ _ 2 _ _ _ h.row,cell_of_row _ _ 3 _ _ _ h.row,h.tk.c0,h.tk.c1⟩)
     refine wp_region_T (fun w':World=>w'.cell? ⟨N,0,none⟩=some (.int .u8 kd)∧w'.cell? ⟨N,1,none⟩=some (v1)∧w'.cell? ⟨N,2,none⟩=some (zS)∧w'.cell? ⟨N,3,none⟩=some (zS)∧w'.cell? ⟨q,0,none⟩=some (.string (bs l))∧w'.cell? ⟨q,1,none⟩=some (.bool false)) 11 (by kernel_rfl) (by kernel_rfl) ?_
     have hS:=HKP.out wr.drew (HSF.out.below (Below.refl _ _).drew)
     refine take_T 0 45 (.agg #[.int .u8 kd,v1,zS,zS]) rfl (by rfl) (by kernel_rfl) (by decide) (by kernel_rfl) (by kernel_rfl) (by kernel_rfl) (fun _ _ _ h=>h) (Or.inl ⟨by rfl,fun w' hSw=>by obtain⟨s0,s1,s2,s3,s4,s5⟩:=hSw;go_simp⟩) hS ?_
     simp only [Gb1a,Gb1b,Gb1c]
     refine take_T 1 46 (.pointer (some ⟨q,1,none⟩)) rfl (by rfl) (by kernel_rfl) (by decide) (by kernel_rfl) (by kernel_rfl) (by kernel_rfl) (fun _ _ _ h=>h) (Or.inl ⟨by rfl,fun w' hSw=>by obtain⟨s0,s1,s2,s3,s4,s5⟩:=hSw;go_simp⟩) hS ?_
     simp only [Gb1a,Gb1b,Gb1c]
     refine take_T 2 47 (.bool false) rfl (by rfl) (by kernel_rfl) (by decide) (by kernel_rfl) (by kernel_rfl) (by kernel_rfl) (fun _ _ _ h=>h) (Or.inl ⟨by rfl,fun w' hSw=>by obtain⟨s0,s1,s2,s3,s4,s5⟩:=hSw;go_simp⟩) hS ?_
     simp only [Gb1a,Gb1b,Gb1c]
     refine take_T 3 48 (.bool true) rfl (by rfl) (by kernel_rfl) (by decide) (by kernel_rfl) (by kernel_rfl) (by kernel_rfl) (fun _ _ _ h=>h) (Or.inl ⟨by rfl,fun w' hSw=>by obtain⟨s0,s1,s2,s3,s4,s5⟩:=hSw;go_simp⟩) hS ?_
     simp only [Gb1a,Gb1b,Gb1c]
     refine take_T 4 49 (.bool true) rfl (by rfl) (by kernel_rfl) (by decide) (by kernel_rfl) (by kernel_rfl) (by kernel_rfl) (fun _ _ _ h=>h) (Or.inl ⟨by rfl,fun w' hSw=>by obtain⟨s0,s1,s2,s3,s4,s5⟩:=hSw;go_simp⟩) hS ?_
     simp only [Gb1a,Gb1b,Gb1c]
     refine take_T 5 50 (.pointer (some ⟨q,0,none⟩)) rfl (by rfl) (by kernel_rfl) (by decide) (by kernel_rfl) (by kernel_rfl) (by kernel_rfl) (fun _ _ _ h=>h) (Or.inl ⟨by rfl,fun w' hSw=>by obtain⟨s0,s1,s2,s3,s4,s5⟩:=hSw;go_simp⟩) hS ?_
     simp only [Gb1a,Gb1b,Gb1c]
     refine take_T 6 51 (.string (bs l)) rfl (by rfl) (by kernel_rfl) (by decide) (by kernel_rfl) (by kernel_rfl) (by kernel_rfl) (fun _ _ _ h=>h) (Or.inl ⟨by rfl,fun w' hSw=>by obtain⟨s0,s1,s2,s3,s4,s5⟩:=hSw;go_simp⟩) hS ?_
     simp only [Gb1a,Gb1b,Gb1c]
     refine only_T 7 rfl (by kernel_rfl) (by decide) (by rfl) (fun K hK=>?_)
     go_wp2_with fail
     go_at_call 154
     refine (HTR.out _).mono ?_
     rintro e w9 ⟨rfl,hw9⟩
     have HS9:=hid (show TkStI w q N kd (v1) D l false w9 from by
      rcases hw9 with rfl | rfl
      ·exact HSF.out.below (Below.refl _ _).drew
      ·exact (HSF.out.below (Below.refl _ _).drew).below (Below.refl _ _).drew)
     clear hw9
     have hS2:=HKP.out _ HS9.out
     refine hK.out _ _ hS2 ?_
     clear hK K
     try simp only [Act.put,Gb1a,Gb1b,Gb1c]
     clear hS
     have hS:=hS2
     clear hS2
     refine take_T 8 53 (.bool false) rfl (by rfl) (by kernel_rfl) (by decide) (by kernel_rfl) (by kernel_rfl) (by kernel_rfl) (fun _ _ _ h=>h) (Or.inl ⟨by rfl,fun w' hSw=>by obtain⟨s0,s1,s2,s3,s4,s5⟩:=hSw;go_simp⟩) hS ?_
     simp only [Gb1a,Gb1b,Gb1c]
     refine take_T 9 54 (.bool false) rfl (by rfl) (by kernel_rfl) (by decide) (by kernel_rfl) (by kernel_rfl) (by kernel_rfl) (fun _ _ _ h=>h) (Or.inl ⟨by rfl,fun w' hSw=>by obtain⟨s0,s1,s2,s3,s4,s5⟩:=hSw;go_simp⟩) hS ?_
     simp only [Gb1a,Gb1b,Gb1c]
     refine only_T 10 rfl (by kernel_rfl) (by decide) (by rfl) (fun K hK=>?_)
     refine wp_store_row 31 (.tmp 2) (.tmp 45) rfl w.heap.size #[.int .u8 kd,v1,zS,zS] rfl rfl 31 #[.int .u8 0,zS,zS,zS] HS9.out.res (by kernel_rfl) rfl HONE.out ?_
     obtain⟨hown,hrow9⟩:=HS9.out.out HND.out
     have HOWN:=hid hown
     have HROW9:=hid hrow9
     have hS2:(w9.setRow w.heap.size #[.int .u8 kd,v1,zS,zS]).cell? ⟨N,0,none⟩=some (.int .u8 kd)∧(w9.setRow w.heap.size #[.int .u8 kd,v1,zS,zS]).cell? ⟨N,1,none⟩=some (v1)∧(w9.setRow w.heap.size #[.int .u8 kd,v1,zS,zS]).cell? ⟨N,2,none⟩=some (zS)∧(w9.setRow w.heap.size #[.int .u8 kd,v1,zS,zS]).cell? ⟨N,3,none⟩=some (zS)∧(w9.setRow w.heap.size #[.int .u8 kd,v1,zS,zS]).cell? ⟨q,0,none⟩=some (.string (bs l))∧(w9.setRow w.heap.size #[.int .u8 kd,v1,zS,zS]).cell? ⟨q,1,none⟩=some (.bool false):=by
      have hs:=grown_setRow w9 w.heap.size #[.int .u8 kd,v1,zS,zS]
      have rN:=(hs.block N (row_lt HS9.out.row) (fun e=>Nat.ne_of_lt HS9.out.n1 (Option.some.inj e).symm)).trans HS9.out.row
      have rq:=(hs.block q HS9.out.tk.lt (fun e=>Nat.ne_of_lt HS9.out.q1 (Option.some.inj e).symm)).trans HS9.out.tk
      exact⟨cell_of_row _ _ 0 _ _ _ rN,cell_of_row _ _ 1 _ _ _ rN,cell_of_row _ _ 2 _ _ _ rN,cell_of_row _ _ 3 _ _ _ rN,cell_of_row _ _ 0 _ _ _ rq,cell_of_row _ _ 1 _ _ _ rq⟩
     refine hK.out _ _ hS2 ?_
     clear hK K
     try simp only [Act.put,Gb1a,Gb1b,Gb1c]
     clear hS hS2 hown hrow9
     generalize World.setRow _ _ _=wz at *
     refine done_T (by kernel_rfl) ?_
     simp only [List.drop_succ_cons,List.drop_zero]
     go_wp2_with fail
     rw [Exit.noGoto_ret]
     refine bodyPost_ret (v:=.tuple #[.agg #[.int .u8 kd,v1,zS,zS],.bool false]) (results_row2 rfl _ _ w.heap.size 31 #[.int .u8 kd,v1,zS,zS] (0,0) _ rfl HROW9.out Tryz.underlying31 rfl (by kernel_rfl) _ rfl) rfl ?_
     exact⟨_,by rw [HR2.out],HOWN.out⟩
   ·go_wp2_with fail
    clear hlt hi
    have HR2:=hid (show (tkN s.data.toList).2=false by rw [HT.out,HDN.out];rfl)
    have HND:=hid (show (tkN s.data.toList).1=⟨kd,D,[],[]⟩ by rw [HT.out,HDN.out])
    have HSF:=hid (HSX.out)
    have HKP:=hid (show ∀ w':World,TkStI w q N kd (v1) D l true w'→w'.cell? ⟨N,0,none⟩=some (.int .u8 kd)∧w'.cell? ⟨N,1,none⟩=some (v1)∧w'.cell? ⟨N,2,none⟩=some (zS)∧w'.cell? ⟨N,3,none⟩=some (zS)∧w'.cell? ⟨q,0,none⟩=some (.string (bs l))∧w'.cell? ⟨q,1,none⟩=some (.bool true) from fun w' h=>⟨cell_of_row _ _ 0 _ _ _ h.row,cell_of_row _ _ 1 _ _ _ h.row,cell_of_row _ _ 2 _ _ _ h.row,cell_of_row _ _ 3 _ _ _ h.row,h.tk.c0,h.tk.c1⟩)
    refine wp_region_T (fun w':World=>w'.cell? ⟨N,0,none⟩=some (.int .u8 kd)∧w'.cell? ⟨N,1,none⟩=some (v1)∧w'.cell? ⟨N,2,none⟩=some (zS)∧w'.cell? ⟨N,3,none⟩=some (zS)∧w'.cell? ⟨q,0,none⟩=some (.string (bs l))∧w'.cell? ⟨q,1,none⟩=some (.bool true)) 11 (by kernel_rfl) (by kernel_rfl) ?_
    have hS:=HKP.out wr.drew (HSF.out.below (Below.refl _ _).drew)
    refine take_T 0 45 (.agg #[.int .u8 kd,v1,zS,zS]) rfl (by rfl) (by kernel_rfl) (by decide) (by kernel_rfl) (by kernel_rfl) (by kernel_rfl) (fun _ _ _ h=>h) (Or.inl ⟨by rfl,fun w' hSw=>by obtain⟨s0,s1,s2,s3,s4,s5⟩:=hSw;go_simp⟩) hS ?_
    simp only [Gb1a,Gb1b,Gb1c]
    refine take_T 1 46 (.pointer (some ⟨q,1,none⟩)) rfl (by rfl) (by kernel_rfl) (by decide) (by kernel_rfl) (by kernel_rfl) (by kernel_rfl) (fun _ _ _ h=>h) (Or.inl ⟨by rfl,fun w' hSw=>by obtain⟨s0,s1,s2,s3,s4,s5⟩:=hSw;go_simp⟩) hS ?_
    simp only [Gb1a,Gb1b,Gb1c]
    refine take_T 2 47 (.bool true) rfl (by rfl) (by kernel_rfl) (by decide) (by kernel_rfl) (by kernel_rfl) (by kernel_rfl) (fun _ _ _ h=>h) (Or.inl ⟨by rfl,fun w' hSw=>by obtain⟨s0,s1,s2,s3,s4,s5⟩:=hSw;go_simp⟩) hS ?_
    simp only [Gb1a,Gb1b,Gb1c]
    refine take_T 3 48 (.bool false) rfl (by rfl) (by kernel_rfl) (by decide) (by kernel_rfl) (by kernel_rfl) (by kernel_rfl) (fun _ _ _ h=>h) (Or.inl ⟨by rfl,fun w' hSw=>by obtain⟨s0,s1,s2,s3,s4,s5⟩:=hSw;go_simp⟩) hS ?_
    simp only [Gb1a,Gb1b,Gb1c]
    refine take_T 4 49 (.bool false) rfl (by rfl) (by kernel_rfl) (by decide) (by kernel_rfl) (by kernel_rfl) (by kernel_rfl) (fun _ _ _ h=>h) (Or.inl ⟨by rfl,fun w' hSw=>by obtain⟨s0,s1,s2,s3,s4,s5⟩:=hSw;go_simp⟩) hS ?_
    simp only [Gb1a,Gb1b,Gb1c]
    refine take_T 5 50 undef rfl (by rfl) (by kernel_rfl) (by decide) (by kernel_rfl) (by kernel_rfl) (by kernel_rfl) (fun _ _ _ h=>h) (Or.inr ⟨by rfl,rfl⟩) hS ?_
    simp only [Gb1a,Gb1b,Gb1c]
    refine take_T 6 51 undef rfl (by rfl) (by kernel_rfl) (by decide) (by kernel_rfl) (by kernel_rfl) (by kernel_rfl) (fun _ _ _ h=>h) (Or.inr ⟨by rfl,rfl⟩) hS ?_
    simp only [Gb1a,Gb1b,Gb1c]
    refine take_T 7 52 undef rfl (by rfl) (by kernel_rfl) (by decide) (by kernel_rfl) (by kernel_rfl) (by kernel_rfl) (fun _ _ _ h=>h) (Or.inr ⟨by rfl,rfl⟩) hS ?_
    simp only [Gb1a,Gb1b,Gb1c]
    refine take_T 8 53 undef rfl (by rfl) (by kernel_rfl) (by decide) (by kernel_rfl) (by kernel_rfl) (by kernel_rfl) (fun _ _ _ h=>h) (Or.inr ⟨by rfl,rfl⟩) hS ?_
    simp only [Gb1a,Gb1b,Gb1c]
    refine take_T 9 54 (.bool false) rfl (by rfl) (by kernel_rfl) (by decide) (by kernel_rfl) (by kernel_rfl) (by kernel_rfl) (fun _ _ _ h=>h) (Or.inl ⟨by rfl,fun w' hSw=>by obtain⟨s0,s1,s2,s3,s4,s5⟩:=hSw;go_simp⟩) hS ?_
    simp only [Gb1a,Gb1b,Gb1c]
    have HS9:=hid (show TkStI w q N kd (v1) D l true wr.drew from HSF.out.below (Below.refl _ _).drew)
    refine only_T 10 rfl (by kernel_rfl) (by decide) (by rfl) (fun K hK=>?_)
    refine wp_store_row 31 (.tmp 2) (.tmp 45) rfl w.heap.size #[.int .u8 kd,v1,zS,zS] rfl rfl 31 #[.int .u8 0,zS,zS,zS] HS9.out.res (by kernel_rfl) rfl HONE.out ?_
    obtain⟨hown,hrow9⟩:=HS9.out.out HND.out
    have HOWN:=hid hown
    have HROW9:=hid hrow9
    have hS2:(wr.drew.setRow w.heap.size #[.int .u8 kd,v1,zS,zS]).cell? ⟨N,0,none⟩=some (.int .u8 kd)∧(wr.drew.setRow w.heap.size #[.int .u8 kd,v1,zS,zS]).cell? ⟨N,1,none⟩=some (v1)∧(wr.drew.setRow w.heap.size #[.int .u8 kd,v1,zS,zS]).cell? ⟨N,2,none⟩=some (zS)∧(wr.drew.setRow w.heap.size #[.int .u8 kd,v1,zS,zS]).cell? ⟨N,3,none⟩=some (zS)∧(wr.drew.setRow w.heap.size #[.int .u8 kd,v1,zS,zS]).cell? ⟨q,0,none⟩=some (.string (bs l))∧(wr.drew.setRow w.heap.size #[.int .u8 kd,v1,zS,zS]).cell? ⟨q,1,none⟩=some (.bool true):=by
     have hs:=grown_setRow wr.drew w.heap.size #[.int .u8 kd,v1,zS,zS]
     have rN:=(hs.block N (row_lt HS9.out.row) (fun e=>Nat.ne_of_lt HS9.out.n1 (Option.some.inj e).symm)).trans HS9.out.row
     have rq:=(hs.block q HS9.out.tk.lt (fun e=>Nat.ne_of_lt HS9.out.q1 (Option.some.inj e).symm)).trans HS9.out.tk
     exact⟨cell_of_row _ _ 0 _ _ _ rN,cell_of_row _ _ 1 _ _ _ rN,cell_of_row _ _ 2 _ _ _ rN,cell_of_row _ _ 3 _ _ _ rN,cell_of_row _ _ 0 _ _ _ rq,cell_of_row _ _ 1 _ _ _ rq⟩
    refine hK.out _ _ hS2 ?_
    clear hK K
    try simp only [Act.put,Gb1a,Gb1b,Gb1c]
    clear hS hS2 hown hrow9
    generalize World.setRow _ _ _=wz at *
    refine done_T (by kernel_rfl) ?_
    simp only [List.drop_succ_cons,List.drop_zero]
    go_wp2_with fail
    rw [Exit.noGoto_ret]
    refine bodyPost_ret (v:=.tuple #[.agg #[.int .u8 kd,v1,zS,zS],.bool false]) (results_row2 rfl _ _ w.heap.size 31 #[.int .u8 kd,v1,zS,zS] (0,0) _ rfl HROW9.out Tryz.underlying31 rfl (by kernel_rfl) _ rfl) rfl ?_
    exact⟨_,by rw [HR2.out],HOWN.out⟩
set_option maxRecDepth 100000 in
set_option maxHeartbeats 8000000 in
theorem takenK (s:ByteArray) (h4:s.size≤maxLen) (hkd:(tkNum 1 (s.data.toList,false)).1=2) (w:World):Calls Tryz.prog 121 #[.string s] w (TkPost s.data.toList w):=by
 obtain⟨kd,⟨l1,b1⟩,e1⟩:∃ V s2,tkNum 1 (s.data.toList,false)=(V,s2):=⟨_,_,rfl⟩
 obtain⟨c,⟨l2,b2⟩,e2⟩:∃ V s2,tkNum 1 (l1,b1)=(V,s2):=⟨_,_,rfl⟩
 have hkd8:=num_byte (s.data.toList,false)
 have hc8:=num_byte (l1,b1)
 have hl1:=num_less 1 (s.data.toList,false)
 have hl2:=num_less 1 (l1,b1)
 rw [e1] at hkd8 hl1
 rw [e2] at hc8 hl2
 dsimp only at hkd8 hl1 hc8 hl2
 have hm1:(bs l1).size≤maxLen:=bs_le (s:=s) hl1 h4
 have hm2:(bs l2).size≤maxLen:=bs_le (s:=bs l1) hl2 hm1
 have HC1:=hid (show ∀ w q,TkR w q s false→Calls Tryz.prog 150 #[.pointer (some ⟨q,0,none⟩),.int .i64 1] w fun e w'=>e=.returned (.int .u64 (kd:Nat))∧TkR w' q (bs l1) b1∧w.grownBy w' (some q) from fun w q h=>by
  have c:=number_tk h 1 (by omega) (by omega) h4
  rw [e1] at c
  exact c)
 have HC2:=hid (show ∀ w q,TkR w q (bs l1) b1→Calls Tryz.prog 150 #[.pointer (some ⟨q,0,none⟩),.int .i64 1] w fun e w'=>e=.returned (.int .u64 (c:Nat))∧TkR w' q (bs l2) b2∧w.grownBy w' (some q) from fun w q h=>by
  have c:=number_tk h 1 (by omega) (by omega) hm1
  rw [bs_data,e2] at c
  exact c)
 rw [e1] at hkd
 dsimp only at hkd
 have HT:=hid (show tkN s.data.toList=(⟨kd,[],(tkMany cK c (l2,b2)).1,[]⟩,!(tkMany cK c (l2,b2)).2.2&&allz (tkMany cK c (l2,b2)).2.1) by
  unfold tkN
  rw [e1]
  dsimp only
  rw [e2]
  dsimp only
  rw [if_neg (by omega),if_pos hkd])
 have HM2:=hid hm2
 have HKD:=hid hkd
 have eu:IntKind.u8.wrap (kd:Int)=(kd:Int):=IntWalk.u8_in _ (by omega)
 obtain⟨R1,R2,S0,Z0⟩:=two_new w #[.int .u8 0,zS,zS,zS] #[.string s,.bool false] 31 203
 have HR1:=hid R1
 have HT2:=hid (show TkR _ (w.heap.size+1) s false from R2)
 have HS0:=hid S0
 clear R1 R2 S0 Z0 hm1 hm2 hl1 hl2 hkd e1 e2 h4
 go_enter Tryz.func121,Tryz.ntmps121
 go_wp2_with fail
 go_step3
 go_wp2_with fail
 generalize (w.alloc _).alloc _=W2 at *
 go_at_call 150
 refine (HC1.out _ _ HT2.out).mono ?_
 rintro e w3 ⟨rfl,ht,hg⟩
 have HT3:=hid ht
 have HR3:=hid ((hg.block w.heap.size (row_lt HR1.out) (fun e=>by have:=Option.some.inj e;omega)).trans HR1.out)
 have HB3:=hid (HS0.out.grown hg HS0.out.size (fun k hk=>by cases hk;exact Nat.le_succ _))
 clear ht hg HT2 HR1 HS0
 go_wp2_with fail
 have hal:Below w3.heap.size w3 (w3.alloc (.cells #[.int .u8 kd,zS,zS,zS] 31)):=(Below.refl _ _).alloc (Nat.le_refl _) _
 have HN4:=hid (heap_alloc_new w3 (.cells #[.int .u8 kd,zS,zS,zS] 31))
 have HT4:=hid (HT3.out.below hal)
 have HR4:=hid ((hal.block w.heap.size (row_lt HR3.out)).trans HR3.out)
 have HB4:=hid (HB3.out.trans (hal.mono HB3.out.size))
 have HN1:=hid (show w.heap.size<w3.heap.size from row_lt HR3.out)
 have HQN:=hid (show w.heap.size+1≠w3.heap.size from Nat.ne_of_lt HT3.out.lt)
 have HQ1:=hid (show w.heap.size<w.heap.size+1 from Nat.lt_succ_self _)
 have HS4:=hid (show TkStK w (w.heap.size+1) w3.heap.size kd zS [] l1 b1 (w3.alloc (.cells #[.int .u8 kd,zS,zS,zS] 31)) from⟨HT4.out,HN4.out,HR4.out,Mk.nil HB4.out,HQ1.out,HN1.out,HQN.out⟩)
 clear hal HN4 HT3 HR3 HB3 HR4 HB4 HN1 HQN HQ1
 generalize w3.alloc _=w4 at *
 generalize w3.heap.size=N at *
 go_at_call 150
 refine (HC2.out _ _ HT4.out).mono ?_
 rintro e w5 ⟨rfl,ht,hg⟩
 have HS5:=hid (HS4.out.took ht hg)
 clear ht hg HS4 HT4 HC1 HC2
 generalize hq:w.heap.size+1=q at *
 clear hq
 go_wp2_with fail
 go_step3
 go_wp2_with fail
 go_loopw [14] (fun iv wr=>∃ (i:Nat) (v1:Value) (D:List Kd) (l:List UInt8) (b:Bool),i≤c∧iv=.int .u64 i∧Hid (TkStK w q N kd v1 D l b wr)∧Hid (TkInv cK c (l2,b2) i D l b)) (fun iv _=>c-(intOf iv).toNat)
 case atStart=>exact⟨0,zS,[],l2,b2,Nat.zero_le _,by go_num,HS5.out,TkInv.start⟩
 case round =>
  obtain⟨i,v1,D,l,b,hi,rfl,hst,hinv⟩:=hrel
  have HLB:=hid (show (bs l).size≤maxLen from bs_le (s:=bs l2) (Hid.out hinv).2.2.1 HM2.out)
  by_cases hlt:i<c
  ·have HIL:=hid (show D.length≤255 by have:=(Hid.out hinv).2.1;omega)
   obtain⟨x,⟨l3,b3⟩,e3⟩:∃ x s2,cK.tk (l,b)=(x,s2):=⟨_,_,rfl⟩
   have HL3:=hid (less_of K_less e3)
   have HCT:=hid (fun w h=>kid_tkL (w:=w) (q:=q) e3 HLB.out h)
   have HE3:=hid e3
   have HM3:=hid (show (bs l3).size≤maxLen from bs_le (s:=bs l) HL3.out HLB.out)
   clear e3
   have k0:wr.cell? ⟨N,0,none⟩=some (.int .u8 kd):=cell_of_row _ _ 0 _ _ _ (Hid.out hst).row
   have q1:((kd:Int)==1)=false:=by rw [beq_eq_false_iff_ne];have:=HKD.out;omega
   have q2:((kd:Int)==2)=true:=by rw [HKD.out];rfl
   go_wp2_with fail
   refine wp_region_T (fun w':World=>w'.cell? ⟨N,2,none⟩=some v1) 5 (by kernel_rfl) (by kernel_rfl) ?_
   have hS:wr.drew.cell? ⟨N,2,none⟩=some v1:=cell_of_row _ _ 2 _ _ _ (Hid.out hst).row
   refine take_T 0 28 (.pointer (some ⟨N,2,none⟩)) rfl (by rfl) (by kernel_rfl) (by decide) (by kernel_rfl) (by kernel_rfl) (by kernel_rfl) (fun _ _ _ h=>h) (Or.inl ⟨by rfl,fun w' hSw=>by go_simp⟩) hS ?_
   simp only [Gb1a,Gb1b,Gb1c]
   refine take_T 1 29 (v1) rfl (by rfl) (by kernel_rfl) (by decide) (by kernel_rfl) (by kernel_rfl) (by kernel_rfl) (fun _ _ _ h=>h) (Or.inl ⟨by rfl,fun w' hSw=>by go_simp⟩) hS ?_
   simp only [Gb1a,Gb1b,Gb1c]
   refine only_T 2 rfl (by kernel_rfl) (by decide) (by rfl) (fun K hK=>?_)
   go_wp2_with fail
   go_at_call 152
   refine (HCT.out _ (show TkR wr.drew q (bs l) b from (Hid.out hst).tk)).mono ?_
   rintro e w3 ⟨rfl,ht,hg⟩
   have HS3:=hid (((Hid.out hst).below (Below.refl _ _).drew).took ht hg)
   clear ht hg hst k0
   have hS2:w3.cell? ⟨N,2,none⟩=some v1:=cell_of_row _ _ 2 _ _ _ HS3.out.row
   refine hK.out _ _ hS2 ?_
   clear hK K
   try simp only [Act.put,Gb1a,Gb1b,Gb1c]
   clear hS
   have hS:=hS2
   clear hS2
   refine only_T 3 rfl (by kernel_rfl) (by decide) (by rfl) (fun K hK=>?_)
   refine op_oneK (.tmp 30) x rfl rfl ?_
   have hal:Below w3.heap.size w3 (w3.alloc (.cells (ecK x).toArray 45)):=(Below.refl _ _).alloc (Nat.le_refl _) _
   have HS4:=hid (HS3.out.below hal)
   have HX4:=hid (heap_alloc_new w3 (.cells (ecK x).toArray 45))
   clear hal HS3
   generalize w3.alloc _=w4 at *
   generalize w3.heap.size=g4 at *
   have hS2:w4.cell? ⟨N,2,none⟩=some v1:=cell_of_row _ _ 2 _ _ _ HS4.out.row
   refine hK.out _ _ hS2 ?_
   clear hK K
   try simp only [Act.put,Gb1a,Gb1b,Gb1c]
   clear hS
   have hS:=hS2
   clear hS2
   refine only_T 4 rfl (by kernel_rfl) (by decide) (by rfl) (fun K hK=>?_)
   refine op_catK HS4.out.own x g4 1 HX4.out (by have:=HIL.out;omega) (.tmp 29) (.tmp 31) rfl rfl rfl ?_
   intro v5 w5x hm5 hg5 hat5
   obtain⟨A5,n5,c5,rfl⟩:∃ A n c,v5=.slice A n c:=by obtain⟨A,c,h,_⟩:=hm5.ls ecK_len;exact⟨A,_,c,h⟩
   have HS5x:=hid (HS4.out.put hm5 hg5)
   have hq5:=HS4.out.own.off HS4.out.tk (by decide)
   have hN5:=HS4.out.own.off HS4.out.row (by decide)
   have tN:=(hg5.block N (row_lt HS4.out.row) (fun e=>hN5 e.symm)).trans HS4.out.row
   have hS2:w5x.cell? ⟨N,2,none⟩=some v1:=cell_of_row _ _ 2 _ _ _ tN
   have f5:w5x.frozen? ⟨N,2,none⟩=false:=frozen_of_row _ _ _ _ _ tN
   clear hm5 hg5 hat5 hq5 hN5 tN HS4 HX4
   refine hK.out _ _ hS2 ?_
   clear hK K
   try simp only [Act.put,Gb1a,Gb1b,Gb1c]
   clear hS
   have hS:=hS2
   clear hS2
   refine done_T (by kernel_rfl) ?_
   simp only [List.drop_succ_cons,List.drop_zero]
   have d1:(w5x.setCell ⟨N,2,none⟩ (.slice A5 n5 c5)).cell? ⟨q,1,none⟩=some (.bool b3):=HS5x.out.tk.c1
   cases b3
   ·have HI2:=hid ((Hid.out hinv).step hlt HE3.out HL3.out)
    clear hinv HE3 HCT HL3
    go_wp2_with fail
    exact⟨⟨i+1,_,D++[x],l3,false,by omega,by go_num,HS5x.out,HI2.out⟩,by simp [intOf]<;>omega⟩
   ·have HDN0:=hid ((Hid.out hinv).stop hlt HE3.out)
    clear hinv HE3 HCT HL3
    go_wp2_with fail
    clear d1 f5 hS
    generalize World.setCell _ _ _=wE at *
    obtain⟨DE,hDE⟩:∃ DE,D++[x]=DE:=⟨_,rfl⟩
    rw [hDE] at HDN0 HS5x
    clear hDE
    have HDN:=HDN0
    have HONE:=hid (show (#[.int .u8 kd,zS,(.slice A5 n5 c5),zS]:Array Value).all (·.oneCell')=true from four_cells _ _ _ _ rfl rfl rfl rfl)
    have HR2:=hid (show (tkN s.data.toList).2=false by rw [HT.out,HDN.out];rfl)
    have HND:=hid (show (tkN s.data.toList).1=⟨kd,[],DE,[]⟩ by rw [HT.out,HDN.out])
    have HSF:=hid (HS5x.out)
    have HKP:=hid (show ∀ w':World,TkStK w q N kd ((.slice A5 n5 c5)) DE l3 true w'→w'.cell? ⟨N,0,none⟩=some (.int .u8 kd)∧w'.cell? ⟨N,1,none⟩=some (zS)∧w'.cell? ⟨N,2,none⟩=some ((.slice A5 n5 c5))∧w'.cell? ⟨N,3,none⟩=some (zS)∧w'.cell? ⟨q,0,none⟩=some (.string (bs l3))∧w'.cell? ⟨q,1,none⟩=some (.bool true) from fun w' h=>⟨cell_of_row _ _ 0 _ _ _ h.row,cell_of_row _ _ 1 _ _ _ h.row,cell_of_row _ _ 2 _ _ _ h.row,cell_of_row _ _ 3 _ _ _ h.row,h.tk.c0,h.tk.c1⟩)
    refine wp_region_T (fun w':World=>w'.cell? ⟨N,0,none⟩=some (.int .u8 kd)∧w'.cell? ⟨N,1,none⟩=some (zS)∧w'.cell? ⟨N,2,none⟩=some ((.slice A5 n5 c5))∧w'.cell? ⟨N,3,none⟩=some (zS)∧w'.cell? ⟨q,0,none⟩=some (.string (bs l3))∧w'.cell? ⟨q,1,none⟩=some (.bool true)) 11 (by kernel_rfl) (by kernel_rfl) ?_
    have hS:=HKP.out wE.drew (HSF.out.below (Below.refl _ _).drew)
    refine take_T 0 45 (.agg #[.int .u8 kd,zS,(.slice A5 n5 c5),zS]) rfl (by rfl) (by kernel_rfl) (by decide) (by kernel_rfl) (by kernel_rfl) (by kernel_rfl) (fun _ _ _ h=>h) (Or.inl ⟨by rfl,fun w' hSw=>by obtain⟨s0,s1,s2,s3,s4,s5⟩:=hSw;go_simp⟩) hS ?_
    simp only [Gb1a,Gb1b,Gb1c]
    refine take_T 1 46 (.pointer (some ⟨q,1,none⟩)) rfl (by rfl) (by kernel_rfl) (by decide) (by kernel_rfl) (by kernel_rfl) (by kernel_rfl) (fun _ _ _ h=>h) (Or.inl ⟨by rfl,fun w' hSw=>by obtain⟨s0,s1,s2,s3,s4,s5⟩:=hSw;go_simp⟩) hS ?_
    simp only [Gb1a,Gb1b,Gb1c]
    refine take_T 2 47 (.bool true) rfl (by rfl) (by kernel_rfl) (by decide) (by kernel_rfl) (by kernel_rfl) (by kernel_rfl) (fun _ _ _ h=>h) (Or.inl ⟨by rfl,fun w' hSw=>by obtain⟨s0,s1,s2,s3,s4,s5⟩:=hSw;go_simp⟩) hS ?_
    simp only [Gb1a,Gb1b,Gb1c]
    refine take_T 3 48 (.bool false) rfl (by rfl) (by kernel_rfl) (by decide) (by kernel_rfl) (by kernel_rfl) (by kernel_rfl) (fun _ _ _ h=>h) (Or.inl ⟨by rfl,fun w' hSw=>by obtain⟨s0,s1,s2,s3,s4,s5⟩:=hSw;go_simp⟩) hS ?_
    simp only [Gb1a,Gb1b,Gb1c]
    refine take_T 4 49 (.bool false) rfl (by rfl) (by kernel_rfl) (by decide) (by kernel_rfl) (by kernel_rfl) (by kernel_rfl) (fun _ _ _ h=>h) (Or.inl ⟨by rfl,fun w' hSw=>by obtain⟨s0,s1,s2,s3,s4,s5⟩:=hSw;go_simp⟩) hS ?_
    simp only [Gb1a,Gb1b,Gb1c]
    refine take_T 5 50 undef rfl (by rfl) (by kernel_rfl) (by decide) (by kernel_rfl) (by kernel_rfl) (by kernel_rfl) (fun _ _ _ h=>h) (Or.inr ⟨by rfl,rfl⟩) hS ?_
    simp only [Gb1a,Gb1b,Gb1c]
    refine take_T 6 51 undef rfl (by rfl) (by kernel_rfl) (by decide) (by kernel_rfl) (by kernel_rfl) (by kernel_rfl) (fun _ _ _ h=>h) (Or.inr ⟨by rfl,rfl⟩) hS ?_
    simp only [Gb1a,Gb1b,Gb1c]
    refine take_T 7 52 undef rfl (by rfl) (by kernel_rfl) (by decide) (by kernel_rfl) (by kernel_rfl) (by kernel_rfl) (fun _ _ _ h=>h) (Or.inr ⟨by rfl,rfl⟩) hS ?_
    simp only [Gb1a,Gb1b,Gb1c]
    refine take_T 8 53 undef rfl (by rfl) (by kernel_rfl) (by decide) (by kernel_rfl) (by kernel_rfl) (by kernel_rfl) (fun _ _ _ h=>h) (Or.inr ⟨by rfl,rfl⟩) hS ?_
    simp only [Gb1a,Gb1b,Gb1c]
    refine take_T 9 54 (.bool false) rfl (by rfl) (by kernel_rfl) (by decide) (by kernel_rfl) (by kernel_rfl) (by kernel_rfl) (fun _ _ _ h=>h) (Or.inl ⟨by rfl,fun w' hSw=>by obtain⟨s0,s1,s2,s3,s4,s5⟩:=hSw;go_simp⟩) hS ?_
    simp only [Gb1a,Gb1b,Gb1c]
    have HS9:=hid (show TkStK w q N kd ((.slice A5 n5 c5)) DE l3 true wE.drew from HSF.out.below (Below.refl _ _).drew)
    refine only_T 10 rfl (by kernel_rfl) (by decide) (by rfl) (fun K hK=>?_)
    refine wp_store_row 31 (.tmp 2) (.tmp 45) rfl w.heap.size #[.int .u8 kd,zS,(.slice A5 n5 c5),zS] rfl rfl 31 #[.int .u8 0,zS,zS,zS] HS9.out.res (by kernel_rfl) rfl HONE.out ?_
    obtain⟨hown,hrow9⟩:=HS9.out.out HND.out
    have HOWN:=hid hown
    have HROW9:=hid hrow9
    have hS2:(wE.drew.setRow w.heap.size #[.int .u8 kd,zS,(.slice A5 n5 c5),zS]).cell? ⟨N,0,none⟩=some (.int .u8 kd)∧(wE.drew.setRow w.heap.size #[.int .u8 kd,zS,(.slice A5 n5 c5),zS]).cell? ⟨N,1,none⟩=some (zS)∧(wE.drew.setRow w.heap.size #[.int .u8 kd,zS,(.slice A5 n5 c5),zS]).cell? ⟨N,2,none⟩=some ((.slice A5 n5 c5))∧(wE.drew.setRow w.heap.size #[.int .u8 kd,zS,(.slice A5 n5 c5),zS]).cell? ⟨N,3,none⟩=some (zS)∧(wE.drew.setRow w.heap.size #[.int .u8 kd,zS,(.slice A5 n5 c5),zS]).cell? ⟨q,0,none⟩=some (.string (bs l3))∧(wE.drew.setRow w.heap.size #[.int .u8 kd,zS,(.slice A5 n5 c5),zS]).cell? ⟨q,1,none⟩=some (.bool true):=by
     have hs:=grown_setRow wE.drew w.heap.size #[.int .u8 kd,zS,(.slice A5 n5 c5),zS]
     have rN:=(hs.block N (row_lt HS9.out.row) (fun e=>Nat.ne_of_lt HS9.out.n1 (Option.some.inj e).symm)).trans HS9.out.row
     have rq:=(hs.block q HS9.out.tk.lt (fun e=>Nat.ne_of_lt HS9.out.q1 (Option.some.inj e).symm)).trans HS9.out.tk
     exact⟨cell_of_row _ _ 0 _ _ _ rN,cell_of_row _ _ 1 _ _ _ rN,cell_of_row _ _ 2 _ _ _ rN,cell_of_row _ _ 3 _ _ _ rN,cell_of_row _ _ 0 _ _ _ rq,cell_of_row _ _ 1 _ _ _ rq⟩
    refine hK.out _ _ hS2 ?_
    clear hK K
    try simp only [Act.put,Gb1a,Gb1b,Gb1c]
    clear hS hS2 hown hrow9
    generalize World.setRow _ _ _=wz at *
    refine done_T (by kernel_rfl) ?_
    simp only [List.drop_succ_cons,List.drop_zero]
    go_wp2_with fail
    rw [Exit.noGoto_ret]
    refine bodyPost_ret (v:=.tuple #[.agg #[.int .u8 kd,zS,(.slice A5 n5 c5),zS],.bool false]) (results_row2 rfl _ _ w.heap.size 31 #[.int .u8 kd,zS,(.slice A5 n5 c5),zS] (0,0) _ rfl HROW9.out Tryz.underlying31 rfl (by kernel_rfl) _ rfl) rfl ?_
    exact⟨_,by rw [HR2.out],HOWN.out⟩
  ·have HDN:=hid ((Hid.out hinv).done hlt)
   clear hinv
   have HSX:=hid (Hid.out hst)
   clear hst
   have HONE:=hid (show (#[.int .u8 kd,zS,v1,zS]:Array Value).all (·.oneCell')=true by rcases HSX.out.own.1.2 with ⟨h,_⟩ | ⟨g,cap,cur,h,_⟩<;>(subst h;exact four_cells _ _ _ _ rfl rfl rfl rfl))
   have HLE:=HLB
   cases b
   ·go_wp2_with fail
    clear hlt hi
    have HTR:=hid (show ∀ w',Calls Tryz.prog 154 #[.string (bs l),.string ⟨#[0]⟩] w' fun e w2=>e=.returned (.string (bs (Lib.trimB l 0)))∧(w2=w'∨w2=w'.drew) from fun w'=>Tryz.strings_Trim_one (bs l) 0 (by decide) w' (by have:=HLE.out;unfold maxLen at this;omega))
    have HND:=hid (show (tkN s.data.toList).1=⟨kd,[],D,[]⟩ by rw [HT.out,HDN.out])
    by_cases hz:allz l=true
    ·have HR2:=hid (show (tkN s.data.toList).2=true by rw [HT.out,HDN.out];show (!false&&allz l)=true;rw [hz];rfl)
     have hz1:(bs (Lib.trimB l 0)).toList=[]:=str_nil (by rw [bs_size,(trimB_nil l).2 hz];rfl)
     have hz2:(bs (Lib.trimB l 0)).toList.isEmpty=true:=by rw [hz1];rfl
     clear hz
     have HSF:=hid (HSX.out)
     have HKP:=hid (show ∀ w':World,TkStK w q N kd (v1) D l false w'→w'.cell? ⟨N,0,none⟩=some (.int .u8 kd)∧w'.cell? ⟨N,1,none⟩=some (zS)∧w'.cell? ⟨N,2,none⟩=some (v1)∧w'.cell? ⟨N,3,none⟩=some (zS)∧w'.cell? ⟨q,0,none⟩=some (.string (bs l))∧w'.cell? ⟨q,1,none⟩=some (.bool false) from fun w' h=>⟨cell_of_row _ _ 0 _ _ _ h.row,cell_of_row _ _ 1 _ _ _ h.row,cell_of_row _ _ 2 _ _ _ h.row,cell_of_row _ _ 3 _ _ _ h.row,h.tk.c0,h.tk.c1⟩)
     refine wp_region_T (fun w':World=>w'.cell? ⟨N,0,none⟩=some (.int .u8 kd)∧w'.cell? ⟨N,1,none⟩=some (zS)∧w'.cell? ⟨N,2,none⟩=some (v1)∧w'.cell? ⟨N,3,none⟩=some (zS)∧w'.cell? ⟨q,0,none⟩=some (.string (bs l))∧w'.cell? ⟨q,1,none⟩=some (.bool false)) 11 (by kernel_rfl) (by kernel_rfl) ?_
     have hS:=HKP.out wr.drew (HSF.out.below (Below.refl _ _).drew)
     refine take_T 0 45 (.agg #[.int .u8 kd,zS,v1,zS]) rfl (by rfl) (by kernel_rfl) (by decide) (by kernel_rfl) (by kernel_rfl) (by kernel_rfl) (fun _ _ _ h=>h) (Or.inl ⟨by rfl,fun w' hSw=>by obtain⟨s0,s1,s2,s3,s4,s5⟩:=hSw;go_simp⟩) hS ?_
     simp only [Gb1a,Gb1b,Gb1c]
     refine take_T 1 46 (.pointer (some ⟨q,1,none⟩)) rfl (by rfl) (by kernel_rfl) (by decide) (by kernel_rfl) (by kernel_rfl) (by kernel_rfl) (fun _ _ _ h=>h) (Or.inl ⟨by rfl,fun w' hSw=>by obtain⟨s0,s1,s2,s3,s4,s5⟩:=hSw;go_simp⟩) hS ?_
     simp only [Gb1a,Gb1b,Gb1c]
     refine take_T 2 47 (.bool false) rfl (by rfl) (by kernel_rfl) (by decide) (by kernel_rfl) (by kernel_rfl) (by kernel_rfl) (fun _ _ _ h=>h) (Or.inl ⟨by rfl,fun w' hSw=>by obtain⟨s0,s1,s2,s3,s4,s5⟩:=hSw;go_simp⟩) hS ?_
     simp only [Gb1a,Gb1b,Gb1c]
     refine take_T 3 48 (.bool true) rfl (by rfl) (by kernel_rfl) (by decide) (by kernel_rfl) (by kernel_rfl) (by kernel_rfl) (fun _ _ _ h=>h) (Or.inl ⟨by rfl,fun w' hSw=>by obtain⟨s0,s1,s2,s3,s4,s5⟩:=hSw;go_simp⟩) hS ?_
     simp only [Gb1a,Gb1b,Gb1c]
     refine take_T 4 49 (.bool true) rfl (by rfl) (by kernel_rfl) (by decide) (by kernel_rfl) (by kernel_rfl) (by kernel_rfl) (fun _ _ _ h=>h) (Or.inl ⟨by rfl,fun w' hSw=>by obtain⟨s0,s1,s2,s3,s4,s5⟩:=hSw;go_simp⟩) hS ?_
     simp only [Gb1a,Gb1b,Gb1c]
     refine take_T 5 50 (.pointer (some ⟨q,0,none⟩)) rfl (by rfl) (by kernel_rfl) (by decide) (by kernel_rfl) (by kernel_rfl) (by kernel_rfl) (fun _ _ _ h=>h) (Or.inl ⟨by rfl,fun w' hSw=>by obtain⟨s0,s1,s2,s3,s4,s5⟩:=hSw;go_simp⟩) hS ?_
     simp only [Gb1a,Gb1b,Gb1c]
     refine take_T 6 51 (.string (bs l)) rfl (by rfl) (by kernel_rfl) (by decide) (by kernel_rfl) (by kernel_rfl) (by kernel_rfl) (fun _ _ _ h=>h) (Or.inl ⟨by rfl,fun w' hSw=>by obtain⟨s0,s1,s2,s3,s4,s5⟩:=hSw;go_simp⟩) hS ?_
     simp only [Gb1a,Gb1b,Gb1c]
     refine only_T 7 rfl (by kernel_rfl) (by decide) (by rfl) (fun K hK=>?_)
     go_wp2_with fail
     go_at_call 154
     refine (HTR.out _).mono ?_
     rintro e w9 ⟨rfl,hw9⟩
     have HS9:=hid (show TkStK w q N kd (v1) D l false w9 from by
      rcases hw9 with rfl | rfl
      ·exact HSF.out.below (Below.refl _ _).drew
      ·exact (HSF.out.below (Below.refl _ _).drew).below (Below.refl _ _).drew)
     clear hw9
     have hS2:=HKP.out _ HS9.out
     refine hK.out _ _ hS2 ?_
     clear hK K
     try simp only [Act.put,Gb1a,Gb1b,Gb1c]
     clear hS
     have hS:=hS2
     clear hS2
     refine take_T 8 53 (.bool true) rfl (by rfl) (by kernel_rfl) (by decide) (by kernel_rfl) (by kernel_rfl) (by kernel_rfl) (fun _ _ _ h=>h) (Or.inl ⟨by rfl,fun w' hSw=>by obtain⟨s0,s1,s2,s3,s4,s5⟩:=hSw;go_simp⟩) hS ?_
     simp only [Gb1a,Gb1b,Gb1c]
     refine take_T 9 54 (.bool true) rfl (by rfl) (by kernel_rfl) (by decide) (by kernel_rfl) (by kernel_rfl) (by kernel_rfl) (fun _ _ _ h=>h) (Or.inl ⟨by rfl,fun w' hSw=>by obtain⟨s0,s1,s2,s3,s4,s5⟩:=hSw;go_simp⟩) hS ?_
     simp only [Gb1a,Gb1b,Gb1c]
     refine only_T 10 rfl (by kernel_rfl) (by decide) (by rfl) (fun K hK=>?_)
     refine wp_store_row 31 (.tmp 2) (.tmp 45) rfl w.heap.size #[.int .u8 kd,zS,v1,zS] rfl rfl 31 #[.int .u8 0,zS,zS,zS] HS9.out.res (by kernel_rfl) rfl HONE.out ?_
     obtain⟨hown,hrow9⟩:=HS9.out.out HND.out
     have HOWN:=hid hown
     have HROW9:=hid hrow9
     have hS2:(w9.setRow w.heap.size #[.int .u8 kd,zS,v1,zS]).cell? ⟨N,0,none⟩=some (.int .u8 kd)∧(w9.setRow w.heap.size #[.int .u8 kd,zS,v1,zS]).cell? ⟨N,1,none⟩=some (zS)∧(w9.setRow w.heap.size #[.int .u8 kd,zS,v1,zS]).cell? ⟨N,2,none⟩=some (v1)∧(w9.setRow w.heap.size #[.int .u8 kd,zS,v1,zS]).cell? ⟨N,3,none⟩=some (zS)∧(w9.setRow w.heap.size #[.int .u8 kd,zS,v1,zS]).cell? ⟨q,0,none⟩=some (.string (bs l))∧(w9.setRow w.heap.size #[.int .u8 kd,zS,v1,zS]).cell? ⟨q,1,none⟩=some (.bool false):=by
      have hs:=grown_setRow w9 w.heap.size #[.int .u8 kd,zS,v1,zS]
      have rN:=(hs.block N (row_lt HS9.out.row) (fun e=>Nat.ne_of_lt HS9.out.n1 (Option.some.inj e).symm)).trans HS9.out.row
      have rq:=(hs.block q HS9.out.tk.lt (fun e=>Nat.ne_of_lt HS9.out.q1 (Option.some.inj e).symm)).trans HS9.out.tk
      exact⟨cell_of_row _ _ 0 _ _ _ rN,cell_of_row _ _ 1 _ _ _ rN,cell_of_row _ _ 2 _ _ _ rN,cell_of_row _ _ 3 _ _ _ rN,cell_of_row _ _ 0 _ _ _ rq,cell_of_row _ _ 1 _ _ _ rq⟩
     refine hK.out _ _ hS2 ?_
     clear hK K
     try simp only [Act.put,Gb1a,Gb1b,Gb1c]
     clear hS hS2 hown hrow9
     generalize World.setRow _ _ _=wz at *
     refine done_T (by kernel_rfl) ?_
     simp only [List.drop_succ_cons,List.drop_zero]
     go_wp2_with fail
     rw [Exit.noGoto_ret]
     refine bodyPost_ret (v:=.tuple #[.agg #[.int .u8 kd,zS,v1,zS],.bool true]) (results_row2 rfl _ _ w.heap.size 31 #[.int .u8 kd,zS,v1,zS] (0,0) _ rfl HROW9.out Tryz.underlying31 rfl (by kernel_rfl) _ rfl) rfl ?_
     exact⟨_,by rw [HR2.out],HOWN.out⟩
    ·have hz0:(bs (Lib.trimB l 0)).size≠0:=by
      rw [bs_size];intro h;exact hz ((trimB_nil l).1 (List.eq_nil_of_length_eq_zero h))
     have HR2:=hid (show (tkN s.data.toList).2=false by rw [HT.out,HDN.out];show (!false&&allz l)=false;rw [Bool.eq_false_iff.2 hz];rfl)
     have hz1:=str_empty hz0
     have hz2:=str_nonil hz0
     clear hz hz0
     have HSF:=hid (HSX.out)
     have HKP:=hid (show ∀ w':World,TkStK w q N kd (v1) D l false w'→w'.cell? ⟨N,0,none⟩=some (.int .u8 kd)∧w'.cell? ⟨N,1,none⟩=some (zS)∧w'.cell? ⟨N,2,none⟩=some (v1)∧w'.cell? ⟨N,3,none⟩=some (zS)∧w'.cell? ⟨q,0,none⟩=some (.string (bs l))∧w'.cell? ⟨q,1,none⟩=some (.bool false) from fun w' h=>⟨cell_of_row _ _ 0 _ _ _ h.row,cell_of_row _ _ 1 _ _ _ h.row,cell_of_row _ _ 2 _ _ _ h.row,cell_of_row _ _ 3 _ _ _ h.row,h.tk.c0,h.tk.c1⟩)
     refine wp_region_T (fun w':World=>w'.cell? ⟨N,0,none⟩=some (.int .u8 kd)∧w'.cell? ⟨N,1,none⟩=some (zS)∧w'.cell? ⟨N,2,none⟩=some (v1)∧w'.cell? ⟨N,3,none⟩=some (zS)∧w'.cell? ⟨q,0,none⟩=some (.string (bs l))∧w'.cell? ⟨q,1,none⟩=some (.bool false)) 11 (by kernel_rfl) (by kernel_rfl) ?_
     have hS:=HKP.out wr.drew (HSF.out.below (Below.refl _ _).drew)
     refine take_T 0 45 (.agg #[.int .u8 kd,zS,v1,zS]) rfl (by rfl) (by kernel_rfl) (by decide) (by kernel_rfl) (by kernel_rfl) (by kernel_rfl) (fun _ _ _ h=>h) (Or.inl ⟨by rfl,fun w' hSw=>by obtain⟨s0,s1,s2,s3,s4,s5⟩:=hSw;go_simp⟩) hS ?_
     simp only [Gb1a,Gb1b,Gb1c]
     refine take_T 1 46 (.pointer (some ⟨q,1,none⟩)) rfl (by rfl) (by kernel_rfl) (by decide) (by kernel_rfl) (by kernel_rfl) (by kernel_rfl) (fun _ _ _ h=>h) (Or.inl ⟨by rfl,fun w' hSw=>by obtain⟨s0,s1,s2,s3,s4,s5⟩:=hSw;go_simp⟩) hS ?_
     simp only [Gb1a,Gb1b,Gb1c]
     refine take_T 2 47 (.bool false) rfl (by rfl) (by kernel_rfl) (by decide) (by kernel_rfl) (by kernel_rfl) (by kernel_rfl) (fun _ _ _ h=>h) (Or.inl ⟨by rfl,fun w' hSw=>by obtain⟨s0,s1,s2,s3,s4,s5⟩:=hSw;go_simp⟩) hS ?_
     simp only [Gb1a,Gb1b,Gb1c]
     refine take_T 3 48 (.bool true) rfl (by rfl) (by kernel_rfl) (by decide) (by kernel_rfl) (by kernel_rfl) (by kernel_rfl) (fun _ _ _ h=>h) (Or.inl ⟨by rfl,fun w' hSw=>by obtain⟨s0,s1,s2,s3,s4,s5⟩:=hSw;go_simp⟩) hS ?_
     simp only [Gb1a,Gb1b,Gb1c]
     refine take_T 4 49 (.bool true) rfl (by rfl) (by kernel_rfl) (by decide) (by kernel_rfl) (by kernel_rfl) (by kernel_rfl) (fun _ _ _ h=>h) (Or.inl ⟨by rfl,fun w' hSw=>by obtain⟨s0,s1,s2,s3,s4,s5⟩:=hSw;go_simp⟩) hS ?_
     simp only [Gb1a,Gb1b,Gb1c]
     refine take_T 5 50 (.pointer (some ⟨q,0,none⟩)) rfl (by rfl) (by kernel_rfl) (by decide) (by kernel_rfl) (by kernel_rfl) (by kernel_rfl) (fun _ _ _ h=>h) (Or.inl ⟨by rfl,fun w' hSw=>by obtain⟨s0,s1,s2,s3,s4,s5⟩:=hSw;go_simp⟩) hS ?_
     simp only [Gb1a,Gb1b,Gb1c]
     refine take_T 6 51 (.string (bs l)) rfl (by rfl) (by kernel_rfl) (by decide) (by kernel_rfl) (by kernel_rfl) (by kernel_rfl) (fun _ _ _ h=>h) (Or.inl ⟨by rfl,fun w' hSw=>by obtain⟨s0,s1,s2,s3,s4,s5⟩:=hSw;go_simp⟩) hS ?_
     simp only [Gb1a,Gb1b,Gb1c]
     refine only_T 7 rfl (by kernel_rfl) (by decide) (by rfl) (fun K hK=>?_)
     go_wp2_with fail
     go_at_call 154
     refine (HTR.out _).mono ?_
     rintro e w9 ⟨rfl,hw9⟩
     have HS9:=hid (show TkStK w q N kd (v1) D l false w9 from by
      rcases hw9 with rfl | rfl
      ·exact HSF.out.below (Below.refl _ _).drew
      ·exact (HSF.out.below (Below.refl _ _).drew).below (Below.refl _ _).drew)
     clear hw9
     have hS2:=HKP.out _ HS9.out
     refine hK.out _ _ hS2 ?_
     clear hK K
     try simp only [Act.put,Gb1a,Gb1b,Gb1c]
     clear hS
     have hS:=hS2
     clear hS2
     refine take_T 8 53 (.bool false) rfl (by rfl) (by kernel_rfl) (by decide) (by kernel_rfl) (by kernel_rfl) (by kernel_rfl) (fun _ _ _ h=>h) (Or.inl ⟨by rfl,fun w' hSw=>by obtain⟨s0,s1,s2,s3,s4,s5⟩:=hSw;go_simp⟩) hS ?_
     simp only [Gb1a,Gb1b,Gb1c]
     refine take_T 9 54 (.bool false) rfl (by rfl) (by kernel_rfl) (by decide) (by kernel_rfl) (by kernel_rfl) (by kernel_rfl) (fun _ _ _ h=>h) (Or.inl ⟨by rfl,fun w' hSw=>by obtain⟨s0,s1,s2,s3,s4,s5⟩:=hSw;go_simp⟩) hS ?_
     simp only [Gb1a,Gb1b,Gb1c]
     refine only_T 10 rfl (by kernel_rfl) (by decide) (by rfl) (fun K hK=>?_)
     refine wp_store_row 31 (.tmp 2) (.tmp 45) rfl w.heap.size #[.int .u8 kd,zS,v1,zS] rfl rfl 31 #[.int .u8 0,zS,zS,zS] HS9.out.res (by kernel_rfl) rfl HONE.out ?_
     obtain⟨hown,hrow9⟩:=HS9.out.out HND.out
     have HOWN:=hid hown
     have HROW9:=hid hrow9
     have hS2:(w9.setRow w.heap.size #[.int .u8 kd,zS,v1,zS]).cell? ⟨N,0,none⟩=some (.int .u8 kd)∧(w9.setRow w.heap.size #[.int .u8 kd,zS,v1,zS]).cell? ⟨N,1,none⟩=some (zS)∧(w9.setRow w.heap.size #[.int .u8 kd,zS,v1,zS]).cell? ⟨N,2,none⟩=some (v1)∧(w9.setRow w.heap.size #[.int .u8 kd,zS,v1,zS]).cell? ⟨N,3,none⟩=some (zS)∧(w9.setRow w.heap.size #[.int .u8 kd,zS,v1,zS]).cell? ⟨q,0,none⟩=some (.string (bs l))∧(w9.setRow w.heap.size #[.int .u8 kd,zS,v1,zS]).cell? ⟨q,1,none⟩=some (.bool false):=by
      have hs:=grown_setRow w9 w.heap.size #[.int .u8 kd,zS,v1,zS]
      have rN:=(hs.block N (row_lt HS9.out.row) (fun e=>Nat.ne_of_lt HS9.out.n1 (Option.some.inj e).symm)).trans HS9.out.row
      have rq:=(hs.block q HS9.out.tk.lt (fun e=>Nat.ne_of_lt HS9.out.q1 (Option.some.inj e).symm)).trans HS9.out.tk
      exact⟨cell_of_row _ _ 0 _ _ _ rN,cell_of_row _ _ 1 _ _ _ rN,cell_of_row _ _ 2 _ _ _ rN,cell_of_row _ _ 3 _ _ _ rN,cell_of_row _ _ 0 _ _ _ rq,cell_of_row _ _ 1 _ _ _ rq⟩
     refine hK.out _ _ hS2 ?_
     clear hK K
     try simp only [Act.put,Gb1a,Gb1b,Gb1c]
     clear hS hS2 hown hrow9
     generalize World.setRow _ _ _=wz at *
     refine done_T (by kernel_rfl) ?_
     simp only [List.drop_succ_cons,List.drop_zero]
     go_wp2_with fail
     rw [Exit.noGoto_ret]
     refine bodyPost_ret (v:=.tuple #[.agg #[.int .u8 kd,zS,v1,zS],.bool false]) (results_row2 rfl _ _ w.heap.size 31 #[.int .u8 kd,zS,v1,zS] (0,0) _ rfl HROW9.out Tryz.underlying31 rfl (by kernel_rfl) _ rfl) rfl ?_
     exact⟨_,by rw [HR2.out],HOWN.out⟩
   ·go_wp2_with fail
    clear hlt hi
    have HR2:=hid (show (tkN s.data.toList).2=false by rw [HT.out,HDN.out];rfl)
    have HND:=hid (show (tkN s.data.toList).1=⟨kd,[],D,[]⟩ by rw [HT.out,HDN.out])
    have HSF:=hid (HSX.out)
    have HKP:=hid (show ∀ w':World,TkStK w q N kd (v1) D l true w'→w'.cell? ⟨N,0,none⟩=some (.int .u8 kd)∧w'.cell? ⟨N,1,none⟩=some (zS)∧w'.cell? ⟨N,2,none⟩=some (v1)∧w'.cell? ⟨N,3,none⟩=some (zS)∧w'.cell? ⟨q,0,none⟩=some (.string (bs l))∧w'.cell? ⟨q,1,none⟩=some (.bool true) from fun w' h=>⟨cell_of_row _ _ 0 _ _ _ h.row,cell_of_row _ _ 1 _ _ _ h.row,cell_of_row _ _ 2 _ _ _ h.row,cell_of_row _ _ 3 _ _ _ h.row,h.tk.c0,h.tk.c1⟩)
    refine wp_region_T (fun w':World=>w'.cell? ⟨N,0,none⟩=some (.int .u8 kd)∧w'.cell? ⟨N,1,none⟩=some (zS)∧w'.cell? ⟨N,2,none⟩=some (v1)∧w'.cell? ⟨N,3,none⟩=some (zS)∧w'.cell? ⟨q,0,none⟩=some (.string (bs l))∧w'.cell? ⟨q,1,none⟩=some (.bool true)) 11 (by kernel_rfl) (by kernel_rfl) ?_
    have hS:=HKP.out wr.drew (HSF.out.below (Below.refl _ _).drew)
    refine take_T 0 45 (.agg #[.int .u8 kd,zS,v1,zS]) rfl (by rfl) (by kernel_rfl) (by decide) (by kernel_rfl) (by kernel_rfl) (by kernel_rfl) (fun _ _ _ h=>h) (Or.inl ⟨by rfl,fun w' hSw=>by obtain⟨s0,s1,s2,s3,s4,s5⟩:=hSw;go_simp⟩) hS ?_
    simp only [Gb1a,Gb1b,Gb1c]
    refine take_T 1 46 (.pointer (some ⟨q,1,none⟩)) rfl (by rfl) (by kernel_rfl) (by decide) (by kernel_rfl) (by kernel_rfl) (by kernel_rfl) (fun _ _ _ h=>h) (Or.inl ⟨by rfl,fun w' hSw=>by obtain⟨s0,s1,s2,s3,s4,s5⟩:=hSw;go_simp⟩) hS ?_
    simp only [Gb1a,Gb1b,Gb1c]
    refine take_T 2 47 (.bool true) rfl (by rfl) (by kernel_rfl) (by decide) (by kernel_rfl) (by kernel_rfl) (by kernel_rfl) (fun _ _ _ h=>h) (Or.inl ⟨by rfl,fun w' hSw=>by obtain⟨s0,s1,s2,s3,s4,s5⟩:=hSw;go_simp⟩) hS ?_
    simp only [Gb1a,Gb1b,Gb1c]
    refine take_T 3 48 (.bool false) rfl (by rfl) (by kernel_rfl) (by decide) (by kernel_rfl) (by kernel_rfl) (by kernel_rfl) (fun _ _ _ h=>h) (Or.inl ⟨by rfl,fun w' hSw=>by obtain⟨s0,s1,s2,s3,s4,s5⟩:=hSw;go_simp⟩) hS ?_
    simp only [Gb1a,Gb1b,Gb1c]
    refine take_T 4 49 (.bool false) rfl (by rfl) (by kernel_rfl) (by decide) (by kernel_rfl) (by kernel_rfl) (by kernel_rfl) (fun _ _ _ h=>h) (Or.inl ⟨by rfl,fun w' hSw=>by obtain⟨s0,s1,s2,s3,s4,s5⟩:=hSw;go_simp⟩) hS ?_
    simp only [Gb1a,Gb1b,Gb1c]
    refine take_T 5 50 undef rfl (by rfl) (by kernel_rfl) (by decide) (by kernel_rfl) (by kernel_rfl) (by kernel_rfl) (fun _ _ _ h=>h) (Or.inr ⟨by rfl,rfl⟩) hS ?_
    simp only [Gb1a,Gb1b,Gb1c]
    refine take_T 6 51 undef rfl (by rfl) (by kernel_rfl) (by decide) (by kernel_rfl) (by kernel_rfl) (by kernel_rfl) (fun _ _ _ h=>h) (Or.inr ⟨by rfl,rfl⟩) hS ?_
    simp only [Gb1a,Gb1b,Gb1c]
    refine take_T 7 52 undef rfl (by rfl) (by kernel_rfl) (by decide) (by kernel_rfl) (by kernel_rfl) (by kernel_rfl) (fun _ _ _ h=>h) (Or.inr ⟨by rfl,rfl⟩) hS ?_
    simp only [Gb1a,Gb1b,Gb1c]
    refine take_T 8 53 undef rfl (by rfl) (by kernel_rfl) (by decide) (by kernel_rfl) (by kernel_rfl) (by kernel_rfl) (fun _ _ _ h=>h) (Or.inr ⟨by rfl,rfl⟩) hS ?_
    simp only [Gb1a,Gb1b,Gb1c]
    refine take_T 9 54 (.bool false) rfl (by rfl) (by kernel_rfl) (by decide) (by kernel_rfl) (by kernel_rfl) (by kernel_rfl) (fun _ _ _ h=>h) (Or.inl ⟨by rfl,fun w' hSw=>by obtain⟨s0,s1,s2,s3,s4,s5⟩:=hSw;go_simp⟩) hS ?_
    simp only [Gb1a,Gb1b,Gb1c]
    have HS9:=hid (show TkStK w q N kd (v1) D l true wr.drew from HSF.out.below (Below.refl _ _).drew)
    refine only_T 10 rfl (by kernel_rfl) (by decide) (by rfl) (fun K hK=>?_)
    refine wp_store_row 31 (.tmp 2) (.tmp 45) rfl w.heap.size #[.int .u8 kd,zS,v1,zS] rfl rfl 31 #[.int .u8 0,zS,zS,zS] HS9.out.res (by kernel_rfl) rfl HONE.out ?_
    obtain⟨hown,hrow9⟩:=HS9.out.out HND.out
    have HOWN:=hid hown
    have HROW9:=hid hrow9
    have hS2:(wr.drew.setRow w.heap.size #[.int .u8 kd,zS,v1,zS]).cell? ⟨N,0,none⟩=some (.int .u8 kd)∧(wr.drew.setRow w.heap.size #[.int .u8 kd,zS,v1,zS]).cell? ⟨N,1,none⟩=some (zS)∧(wr.drew.setRow w.heap.size #[.int .u8 kd,zS,v1,zS]).cell? ⟨N,2,none⟩=some (v1)∧(wr.drew.setRow w.heap.size #[.int .u8 kd,zS,v1,zS]).cell? ⟨N,3,none⟩=some (zS)∧(wr.drew.setRow w.heap.size #[.int .u8 kd,zS,v1,zS]).cell? ⟨q,0,none⟩=some (.string (bs l))∧(wr.drew.setRow w.heap.size #[.int .u8 kd,zS,v1,zS]).cell? ⟨q,1,none⟩=some (.bool true):=by
     have hs:=grown_setRow wr.drew w.heap.size #[.int .u8 kd,zS,v1,zS]
     have rN:=(hs.block N (row_lt HS9.out.row) (fun e=>Nat.ne_of_lt HS9.out.n1 (Option.some.inj e).symm)).trans HS9.out.row
     have rq:=(hs.block q HS9.out.tk.lt (fun e=>Nat.ne_of_lt HS9.out.q1 (Option.some.inj e).symm)).trans HS9.out.tk
     exact⟨cell_of_row _ _ 0 _ _ _ rN,cell_of_row _ _ 1 _ _ _ rN,cell_of_row _ _ 2 _ _ _ rN,cell_of_row _ _ 3 _ _ _ rN,cell_of_row _ _ 0 _ _ _ rq,cell_of_row _ _ 1 _ _ _ rq⟩
    refine hK.out _ _ hS2 ?_
    clear hK K
    try simp only [Act.put,Gb1a,Gb1b,Gb1c]
    clear hS hS2 hown hrow9
    generalize World.setRow _ _ _=wz at *
    refine done_T (by kernel_rfl) ?_
    simp only [List.drop_succ_cons,List.drop_zero]
    go_wp2_with fail
    rw [Exit.noGoto_ret]
    refine bodyPost_ret (v:=.tuple #[.agg #[.int .u8 kd,zS,v1,zS],.bool false]) (results_row2 rfl _ _ w.heap.size 31 #[.int .u8 kd,zS,v1,zS] (0,0) _ rfl HROW9.out Tryz.underlying31 rfl (by kernel_rfl) _ rfl) rfl ?_
    exact⟨_,by rw [HR2.out],HOWN.out⟩
set_option maxRecDepth 100000 in
set_option maxHeartbeats 8000000 in
theorem takenV (s:ByteArray) (h4:s.size≤maxLen) (hkd:(tkNum 1 (s.data.toList,false)).1=3) (w:World):Calls Tryz.prog 121 #[.string s] w (TkPost s.data.toList w):=by
 obtain⟨kd,⟨l1,b1⟩,e1⟩:∃ V s2,tkNum 1 (s.data.toList,false)=(V,s2):=⟨_,_,rfl⟩
 obtain⟨c,⟨l2,b2⟩,e2⟩:∃ V s2,tkNum 1 (l1,b1)=(V,s2):=⟨_,_,rfl⟩
 have hkd8:=num_byte (s.data.toList,false)
 have hc8:=num_byte (l1,b1)
 have hl1:=num_less 1 (s.data.toList,false)
 have hl2:=num_less 1 (l1,b1)
 rw [e1] at hkd8 hl1
 rw [e2] at hc8 hl2
 dsimp only at hkd8 hl1 hc8 hl2
 have hm1:(bs l1).size≤maxLen:=bs_le (s:=s) hl1 h4
 have hm2:(bs l2).size≤maxLen:=bs_le (s:=bs l1) hl2 hm1
 have HC1:=hid (show ∀ w q,TkR w q s false→Calls Tryz.prog 150 #[.pointer (some ⟨q,0,none⟩),.int .i64 1] w fun e w'=>e=.returned (.int .u64 (kd:Nat))∧TkR w' q (bs l1) b1∧w.grownBy w' (some q) from fun w q h=>by
  have c:=number_tk h 1 (by omega) (by omega) h4
  rw [e1] at c
  exact c)
 have HC2:=hid (show ∀ w q,TkR w q (bs l1) b1→Calls Tryz.prog 150 #[.pointer (some ⟨q,0,none⟩),.int .i64 1] w fun e w'=>e=.returned (.int .u64 (c:Nat))∧TkR w' q (bs l2) b2∧w.grownBy w' (some q) from fun w q h=>by
  have c:=number_tk h 1 (by omega) (by omega) hm1
  rw [bs_data,e2] at c
  exact c)
 rw [e1] at hkd
 dsimp only at hkd
 have HT:=hid (show tkN s.data.toList=(⟨kd,[],[],(tkMany cV c (l2,b2)).1⟩,!(tkMany cV c (l2,b2)).2.2&&allz (tkMany cV c (l2,b2)).2.1) by
  unfold tkN
  rw [e1]
  dsimp only
  rw [e2]
  dsimp only
  rw [if_neg (by omega),if_neg (by omega),if_pos hkd])
 have HM2:=hid hm2
 have HKD:=hid hkd
 have eu:IntKind.u8.wrap (kd:Int)=(kd:Int):=IntWalk.u8_in _ (by omega)
 obtain⟨R1,R2,S0,Z0⟩:=two_new w #[.int .u8 0,zS,zS,zS] #[.string s,.bool false] 31 203
 have HR1:=hid R1
 have HT2:=hid (show TkR _ (w.heap.size+1) s false from R2)
 have HS0:=hid S0
 clear R1 R2 S0 Z0 hm1 hm2 hl1 hl2 hkd e1 e2 h4
 go_enter Tryz.func121,Tryz.ntmps121
 go_wp2_with fail
 go_step3
 go_wp2_with fail
 generalize (w.alloc _).alloc _=W2 at *
 go_at_call 150
 refine (HC1.out _ _ HT2.out).mono ?_
 rintro e w3 ⟨rfl,ht,hg⟩
 have HT3:=hid ht
 have HR3:=hid ((hg.block w.heap.size (row_lt HR1.out) (fun e=>by have:=Option.some.inj e;omega)).trans HR1.out)
 have HB3:=hid (HS0.out.grown hg HS0.out.size (fun k hk=>by cases hk;exact Nat.le_succ _))
 clear ht hg HT2 HR1 HS0
 go_wp2_with fail
 have hal:Below w3.heap.size w3 (w3.alloc (.cells #[.int .u8 kd,zS,zS,zS] 31)):=(Below.refl _ _).alloc (Nat.le_refl _) _
 have HN4:=hid (heap_alloc_new w3 (.cells #[.int .u8 kd,zS,zS,zS] 31))
 have HT4:=hid (HT3.out.below hal)
 have HR4:=hid ((hal.block w.heap.size (row_lt HR3.out)).trans HR3.out)
 have HB4:=hid (HB3.out.trans (hal.mono HB3.out.size))
 have HN1:=hid (show w.heap.size<w3.heap.size from row_lt HR3.out)
 have HQN:=hid (show w.heap.size+1≠w3.heap.size from Nat.ne_of_lt HT3.out.lt)
 have HQ1:=hid (show w.heap.size<w.heap.size+1 from Nat.lt_succ_self _)
 have HS4:=hid (show TkStV w (w.heap.size+1) w3.heap.size kd zS [] l1 b1 (w3.alloc (.cells #[.int .u8 kd,zS,zS,zS] 31)) from⟨HT4.out,HN4.out,HR4.out,Mk.nil HB4.out,HQ1.out,HN1.out,HQN.out⟩)
 clear hal HN4 HT3 HR3 HB3 HR4 HB4 HN1 HQN HQ1
 generalize w3.alloc _=w4 at *
 generalize w3.heap.size=N at *
 go_at_call 150
 refine (HC2.out _ _ HT4.out).mono ?_
 rintro e w5 ⟨rfl,ht,hg⟩
 have HS5:=hid (HS4.out.took ht hg)
 clear ht hg HS4 HT4 HC1 HC2
 generalize hq:w.heap.size+1=q at *
 clear hq
 go_wp2_with fail
 go_step3
 go_wp2_with fail
 go_loopw [14] (fun iv wr=>∃ (i:Nat) (v1:Value) (D:List Vo) (l:List UInt8) (b:Bool),i≤c∧iv=.int .u64 i∧Hid (TkStV w q N kd v1 D l b wr)∧Hid (TkInv cV c (l2,b2) i D l b)) (fun iv _=>c-(intOf iv).toNat)
 case atStart=>exact⟨0,zS,[],l2,b2,Nat.zero_le _,by go_num,HS5.out,TkInv.start⟩
 case round =>
  obtain⟨i,v1,D,l,b,hi,rfl,hst,hinv⟩:=hrel
  have HLB:=hid (show (bs l).size≤maxLen from bs_le (s:=bs l2) (Hid.out hinv).2.2.1 HM2.out)
  by_cases hlt:i<c
  ·have HIL:=hid (show D.length≤255 by have:=(Hid.out hinv).2.1;omega)
   obtain⟨x,⟨l3,b3⟩,e3⟩:∃ x s2,cV.tk (l,b)=(x,s2):=⟨_,_,rfl⟩
   have HL3:=hid (less_of V_less e3)
   have HCT:=hid (fun w h=>volume_tkL (w:=w) (q:=q) e3 HLB.out h)
   have HE3:=hid e3
   have HM3:=hid (show (bs l3).size≤maxLen from bs_le (s:=bs l) HL3.out HLB.out)
   clear e3
   have k0:wr.cell? ⟨N,0,none⟩=some (.int .u8 kd):=cell_of_row _ _ 0 _ _ _ (Hid.out hst).row
   have q1:((kd:Int)==1)=false:=by rw [beq_eq_false_iff_ne];have:=HKD.out;omega
   have q2:((kd:Int)==2)=false:=by rw [beq_eq_false_iff_ne];have:=HKD.out;omega
   have q3:((kd:Int)==3)=true:=by rw [HKD.out];rfl
   go_wp2_with fail
   refine wp_region_T (fun w':World=>w'.cell? ⟨N,3,none⟩=some v1) 5 (by kernel_rfl) (by kernel_rfl) ?_
   have hS:wr.drew.cell? ⟨N,3,none⟩=some v1:=cell_of_row _ _ 3 _ _ _ (Hid.out hst).row
   refine take_T 0 36 (.pointer (some ⟨N,3,none⟩)) rfl (by rfl) (by kernel_rfl) (by decide) (by kernel_rfl) (by kernel_rfl) (by kernel_rfl) (fun _ _ _ h=>h) (Or.inl ⟨by rfl,fun w' hSw=>by go_simp⟩) hS ?_
   simp only [Gb1a,Gb1b,Gb1c]
   refine take_T 1 37 (v1) rfl (by rfl) (by kernel_rfl) (by decide) (by kernel_rfl) (by kernel_rfl) (by kernel_rfl) (fun _ _ _ h=>h) (Or.inl ⟨by rfl,fun w' hSw=>by go_simp⟩) hS ?_
   simp only [Gb1a,Gb1b,Gb1c]
   refine only_T 2 rfl (by kernel_rfl) (by decide) (by rfl) (fun K hK=>?_)
   go_wp2_with fail
   go_at_call 153
   refine (HCT.out _ (show TkR wr.drew q (bs l) b from (Hid.out hst).tk)).mono ?_
   rintro e w3 ⟨rfl,ht,hg⟩
   have HS3:=hid (((Hid.out hst).below (Below.refl _ _).drew).took ht hg)
   clear ht hg hst k0
   have hS2:w3.cell? ⟨N,3,none⟩=some v1:=cell_of_row _ _ 3 _ _ _ HS3.out.row
   refine hK.out _ _ hS2 ?_
   clear hK K
   try simp only [Act.put,Gb1a,Gb1b,Gb1c]
   clear hS
   have hS:=hS2
   clear hS2
   refine only_T 3 rfl (by kernel_rfl) (by decide) (by rfl) (fun K hK=>?_)
   refine op_oneV (.tmp 38) x rfl rfl ?_
   have hal:Below w3.heap.size w3 (w3.alloc (.cells (ecV x).toArray 121)):=(Below.refl _ _).alloc (Nat.le_refl _) _
   have HS4:=hid (HS3.out.below hal)
   have HX4:=hid (heap_alloc_new w3 (.cells (ecV x).toArray 121))
   clear hal HS3
   generalize w3.alloc _=w4 at *
   generalize w3.heap.size=g4 at *
   have hS2:w4.cell? ⟨N,3,none⟩=some v1:=cell_of_row _ _ 3 _ _ _ HS4.out.row
   refine hK.out _ _ hS2 ?_
   clear hK K
   try simp only [Act.put,Gb1a,Gb1b,Gb1c]
   clear hS
   have hS:=hS2
   clear hS2
   refine only_T 4 rfl (by kernel_rfl) (by decide) (by rfl) (fun K hK=>?_)
   refine op_catV HS4.out.own x g4 1 HX4.out (by have:=HIL.out;omega) (.tmp 37) (.tmp 39) rfl rfl rfl ?_
   intro v5 w5x hm5 hg5 hat5
   obtain⟨A5,n5,c5,rfl⟩:∃ A n c,v5=.slice A n c:=by obtain⟨A,c,h,_⟩:=hm5.ls ecV_len;exact⟨A,_,c,h⟩
   have HS5x:=hid (HS4.out.put hm5 hg5)
   have hq5:=HS4.out.own.off HS4.out.tk (by decide)
   have hN5:=HS4.out.own.off HS4.out.row (by decide)
   have tN:=(hg5.block N (row_lt HS4.out.row) (fun e=>hN5 e.symm)).trans HS4.out.row
   have hS2:w5x.cell? ⟨N,3,none⟩=some v1:=cell_of_row _ _ 3 _ _ _ tN
   have f5:w5x.frozen? ⟨N,3,none⟩=false:=frozen_of_row _ _ _ _ _ tN
   clear hm5 hg5 hat5 hq5 hN5 tN HS4 HX4
   refine hK.out _ _ hS2 ?_
   clear hK K
   try simp only [Act.put,Gb1a,Gb1b,Gb1c]
   clear hS
   have hS:=hS2
   clear hS2
   refine done_T (by kernel_rfl) ?_
   simp only [List.drop_succ_cons,List.drop_zero]
   have d1:(w5x.setCell ⟨N,3,none⟩ (.slice A5 n5 c5)).cell? ⟨q,1,none⟩=some (.bool b3):=HS5x.out.tk.c1
   cases b3
   ·have HI2:=hid ((Hid.out hinv).step hlt HE3.out HL3.out)
    clear hinv HE3 HCT HL3
    go_wp2_with fail
    exact⟨⟨i+1,_,D++[x],l3,false,by omega,by go_num,HS5x.out,HI2.out⟩,by simp [intOf]<;>omega⟩
   ·have HDN0:=hid ((Hid.out hinv).stop hlt HE3.out)
    clear hinv HE3 HCT HL3
    go_wp2_with fail
    clear d1 f5 hS
    generalize World.setCell _ _ _=wE at *
    obtain⟨DE,hDE⟩:∃ DE,D++[x]=DE:=⟨_,rfl⟩
    rw [hDE] at HDN0 HS5x
    clear hDE
    have HDN:=HDN0
    have HONE:=hid (show (#[.int .u8 kd,zS,zS,(.slice A5 n5 c5)]:Array Value).all (·.oneCell')=true from four_cells _ _ _ _ rfl rfl rfl rfl)
    have HR2:=hid (show (tkN s.data.toList).2=false by rw [HT.out,HDN.out];rfl)
    have HND:=hid (show (tkN s.data.toList).1=⟨kd,[],[],DE⟩ by rw [HT.out,HDN.out])
    have HSF:=hid (HS5x.out)
    have HKP:=hid (show ∀ w':World,TkStV w q N kd ((.slice A5 n5 c5)) DE l3 true w'→w'.cell? ⟨N,0,none⟩=some (.int .u8 kd)∧w'.cell? ⟨N,1,none⟩=some (zS)∧w'.cell? ⟨N,2,none⟩=some (zS)∧w'.cell? ⟨N,3,none⟩=some ((.slice A5 n5 c5))∧w'.cell? ⟨q,0,none⟩=some (.string (bs l3))∧w'.cell? ⟨q,1,none⟩=some (.bool true) from fun w' h=>⟨cell_of_row _ _ 0 _ _ _ h.row,cell_of_row _ _ 1 _ _ _ h.row,cell_of_row _ _ 2 _ _ _ h.row,cell_of_row _ _ 3 _ _ _ h.row,h.tk.c0,h.tk.c1⟩)
    refine wp_region_T (fun w':World=>w'.cell? ⟨N,0,none⟩=some (.int .u8 kd)∧w'.cell? ⟨N,1,none⟩=some (zS)∧w'.cell? ⟨N,2,none⟩=some (zS)∧w'.cell? ⟨N,3,none⟩=some ((.slice A5 n5 c5))∧w'.cell? ⟨q,0,none⟩=some (.string (bs l3))∧w'.cell? ⟨q,1,none⟩=some (.bool true)) 11 (by kernel_rfl) (by kernel_rfl) ?_
    have hS:=HKP.out wE.drew (HSF.out.below (Below.refl _ _).drew)
    refine take_T 0 45 (.agg #[.int .u8 kd,zS,zS,(.slice A5 n5 c5)]) rfl (by rfl) (by kernel_rfl) (by decide) (by kernel_rfl) (by kernel_rfl) (by kernel_rfl) (fun _ _ _ h=>h) (Or.inl ⟨by rfl,fun w' hSw=>by obtain⟨s0,s1,s2,s3,s4,s5⟩:=hSw;go_simp⟩) hS ?_
    simp only [Gb1a,Gb1b,Gb1c]
    refine take_T 1 46 (.pointer (some ⟨q,1,none⟩)) rfl (by rfl) (by kernel_rfl) (by decide) (by kernel_rfl) (by kernel_rfl) (by kernel_rfl) (fun _ _ _ h=>h) (Or.inl ⟨by rfl,fun w' hSw=>by obtain⟨s0,s1,s2,s3,s4,s5⟩:=hSw;go_simp⟩) hS ?_
    simp only [Gb1a,Gb1b,Gb1c]
    refine take_T 2 47 (.bool true) rfl (by rfl) (by kernel_rfl) (by decide) (by kernel_rfl) (by kernel_rfl) (by kernel_rfl) (fun _ _ _ h=>h) (Or.inl ⟨by rfl,fun w' hSw=>by obtain⟨s0,s1,s2,s3,s4,s5⟩:=hSw;go_simp⟩) hS ?_
    simp only [Gb1a,Gb1b,Gb1c]
    refine take_T 3 48 (.bool false) rfl (by rfl) (by kernel_rfl) (by decide) (by kernel_rfl) (by kernel_rfl) (by kernel_rfl) (fun _ _ _ h=>h) (Or.inl ⟨by rfl,fun w' hSw=>by obtain⟨s0,s1,s2,s3,s4,s5⟩:=hSw;go_simp⟩) hS ?_
    simp only [Gb1a,Gb1b,Gb1c]
    refine take_T 4 49 (.bool false) rfl (by rfl) (by kernel_rfl) (by decide) (by kernel_rfl) (by kernel_rfl) (by kernel_rfl) (fun _ _ _ h=>h) (Or.inl ⟨by rfl,fun w' hSw=>by obtain⟨s0,s1,s2,s3,s4,s5⟩:=hSw;go_simp⟩) hS ?_
    simp only [Gb1a,Gb1b,Gb1c]
    refine take_T 5 50 undef rfl (by rfl) (by kernel_rfl) (by decide) (by kernel_rfl) (by kernel_rfl) (by kernel_rfl) (fun _ _ _ h=>h) (Or.inr ⟨by rfl,rfl⟩) hS ?_
    simp only [Gb1a,Gb1b,Gb1c]
    refine take_T 6 51 undef rfl (by rfl) (by kernel_rfl) (by decide) (by kernel_rfl) (by kernel_rfl) (by kernel_rfl) (fun _ _ _ h=>h) (Or.inr ⟨by rfl,rfl⟩) hS ?_
    simp only [Gb1a,Gb1b,Gb1c]
    refine take_T 7 52 undef rfl (by rfl) (by kernel_rfl) (by decide) (by kernel_rfl) (by kernel_rfl) (by kernel_rfl) (fun _ _ _ h=>h) (Or.inr ⟨by rfl,rfl⟩) hS ?_
    simp only [Gb1a,Gb1b,Gb1c]
    refine take_T 8 53 undef rfl (by rfl) (by kernel_rfl) (by decide) (by kernel_rfl) (by kernel_rfl) (by kernel_rfl) (fun _ _ _ h=>h) (Or.inr ⟨by rfl,rfl⟩) hS ?_
    simp only [Gb1a,Gb1b,Gb1c]
    refine take_T 9 54 (.bool false) rfl (by rfl) (by kernel_rfl) (by decide) (by kernel_rfl) (by kernel_rfl) (by kernel_rfl) (fun _ _ _ h=>h) (Or.inl ⟨by rfl,fun w' hSw=>by obtain⟨s0,s1,s2,s3,s4,s5⟩:=hSw;go_simp⟩) hS ?_
    simp only [Gb1a,Gb1b,Gb1c]
    have HS9:=hid (show TkStV w q N kd ((.slice A5 n5 c5)) DE l3 true wE.drew from HSF.out.below (Below.refl _ _).drew)
    refine only_T 10 rfl (by kernel_rfl) (by decide) (by rfl) (fun K hK=>?_)
    refine wp_store_row 31 (.tmp 2) (.tmp 45) rfl w.heap.size #[.int .u8 kd,zS,zS,(.slice A5 n5 c5)] rfl rfl 31 #[.int .u8 0,zS,zS,zS] HS9.out.res (by kernel_rfl) rfl HONE.out ?_
    obtain⟨hown,hrow9⟩:=HS9.out.out HND.out
    have HOWN:=hid hown
    have HROW9:=hid hrow9
    have hS2:(wE.drew.setRow w.heap.size #[.int .u8 kd,zS,zS,(.slice A5 n5 c5)]).cell? ⟨N,0,none⟩=some (.int .u8 kd)∧(wE.drew.setRow w.heap.size #[.int .u8 kd,zS,zS,(.slice A5 n5 c5)]).cell? ⟨N,1,none⟩=some (zS)∧(wE.drew.setRow w.heap.size #[.int .u8 kd,zS,zS,(.slice A5 n5 c5)]).cell? ⟨N,2,none⟩=some (zS)∧(wE.drew.setRow w.heap.size #[.int .u8 kd,zS,zS,(.slice A5 n5 c5)]).cell? ⟨N,3,none⟩=some ((.slice A5 n5 c5))∧(wE.drew.setRow w.heap.size #[.int .u8 kd,zS,zS,(.slice A5 n5 c5)]).cell? ⟨q,0,none⟩=some (.string (bs l3))∧(wE.drew.setRow w.heap.size #[.int .u8 kd,zS,zS,(.slice A5 n5 c5)]).cell? ⟨q,1,none⟩=some (.bool true):=by
     have hs:=grown_setRow wE.drew w.heap.size #[.int .u8 kd,zS,zS,(.slice A5 n5 c5)]
     have rN:=(hs.block N (row_lt HS9.out.row) (fun e=>Nat.ne_of_lt HS9.out.n1 (Option.some.inj e).symm)).trans HS9.out.row
     have rq:=(hs.block q HS9.out.tk.lt (fun e=>Nat.ne_of_lt HS9.out.q1 (Option.some.inj e).symm)).trans HS9.out.tk
     exact⟨cell_of_row _ _ 0 _ _ _ rN,cell_of_row _ _ 1 _ _ _ rN,cell_of_row _ _ 2 _ _ _ rN,cell_of_row _ _ 3 _ _ _ rN,cell_of_row _ _ 0 _ _ _ rq,cell_of_row _ _ 1 _ _ _ rq⟩
    refine hK.out _ _ hS2 ?_
    clear hK K
    try simp only [Act.put,Gb1a,Gb1b,Gb1c]
    clear hS hS2 hown hrow9
    generalize World.setRow _ _ _=wz at *
    refine done_T (by kernel_rfl) ?_
    simp only [List.drop_succ_cons,List.drop_zero]
    go_wp2_with fail
    rw [Exit.noGoto_ret]
    refine bodyPost_ret (v:=.tuple #[.agg #[.int .u8 kd,zS,zS,(.slice A5 n5 c5)],.bool false]) (results_row2 rfl _ _ w.heap.size 31 #[.int .u8 kd,zS,zS,(.slice A5 n5 c5)] (0,0) _ rfl HROW9.out Tryz.underlying31 rfl (by kernel_rfl) _ rfl) rfl ?_
    exact⟨_,by rw [HR2.out],HOWN.out⟩
  ·have HDN:=hid ((Hid.out hinv).done hlt)
   clear hinv
   have HSX:=hid (Hid.out hst)
   clear hst
   have HONE:=hid (show (#[.int .u8 kd,zS,zS,v1]:Array Value).all (·.oneCell')=true by rcases HSX.out.own.1.2 with ⟨h,_⟩ | ⟨g,cap,cur,h,_⟩<;>(subst h;exact four_cells _ _ _ _ rfl rfl rfl rfl))
   have HLE:=HLB
   cases b
   ·go_wp2_with fail
    clear hlt hi
    have HTR:=hid (show ∀ w',Calls Tryz.prog 154 #[.string (bs l),.string ⟨#[0]⟩] w' fun e w2=>e=.returned (.string (bs (Lib.trimB l 0)))∧(w2=w'∨w2=w'.drew) from fun w'=>Tryz.strings_Trim_one (bs l) 0 (by decide) w' (by have:=HLE.out;unfold maxLen at this;omega))
    have HND:=hid (show (tkN s.data.toList).1=⟨kd,[],[],D⟩ by rw [HT.out,HDN.out])
    by_cases hz:allz l=true
    ·have HR2:=hid (show (tkN s.data.toList).2=true by rw [HT.out,HDN.out];show (!false&&allz l)=true;rw [hz];rfl)
     have hz1:(bs (Lib.trimB l 0)).toList=[]:=str_nil (by rw [bs_size,(trimB_nil l).2 hz];rfl)
     have hz2:(bs (Lib.trimB l 0)).toList.isEmpty=true:=by rw [hz1];rfl
     clear hz
     have HSF:=hid (HSX.out)
     have HKP:=hid (show ∀ w':World,TkStV w q N kd (v1) D l false w'→w'.cell? ⟨N,0,none⟩=some (.int .u8 kd)∧w'.cell? ⟨N,1,none⟩=some (zS)∧w'.cell? ⟨N,2,none⟩=some (zS)∧w'.cell? ⟨N,3,none⟩=some (v1)∧w'.cell? ⟨q,0,none⟩=some (.string (bs l))∧w'.cell? ⟨q,1,none⟩=some (.bool false) from fun w' h=>⟨cell_of_row _ _ 0 _ _ _ h.row,cell_of_row _ _ 1 _ _ _ h.row,cell_of_row _ _ 2 _ _ _ h.row,cell_of_row _ _ 3 _ _ _ h.row,h.tk.c0,h.tk.c1⟩)
     refine wp_region_T (fun w':World=>w'.cell? ⟨N,0,none⟩=some (.int .u8 kd)∧w'.cell? ⟨N,1,none⟩=some (zS)∧w'.cell? ⟨N,2,none⟩=some (zS)∧w'.cell? ⟨N,3,none⟩=some (v1)∧w'.cell? ⟨q,0,none⟩=some (.string (bs l))∧w'.cell? ⟨q,1,none⟩=some (.bool false)) 11 (by kernel_rfl) (by kernel_rfl) ?_
     have hS:=HKP.out wr.drew (HSF.out.below (Below.refl _ _).drew)
     refine take_T 0 45 (.agg #[.int .u8 kd,zS,zS,v1]) rfl (by rfl) (by kernel_rfl) (by decide) (by kernel_rfl) (by kernel_rfl) (by kernel_rfl) (fun _ _ _ h=>h) (Or.inl ⟨by rfl,fun w' hSw=>by obtain⟨s0,s1,s2,s3,s4,s5⟩:=hSw;go_simp⟩) hS ?_
     simp only [Gb1a,Gb1b,Gb1c]
     refine take_T 1 46 (.pointer (some ⟨q,1,none⟩)) rfl (by rfl) (by kernel_rfl) (by decide) (by kernel_rfl) (by kernel_rfl) (by kernel_rfl) (fun _ _ _ h=>h) (Or.inl ⟨by rfl,fun w' hSw=>by obtain⟨s0,s1,s2,s3,s4,s5⟩:=hSw;go_simp⟩) hS ?_
     simp only [Gb1a,Gb1b,Gb1c]
     refine take_T 2 47 (.bool false) rfl (by rfl) (by kernel_rfl) (by decide) (by kernel_rfl) (by kernel_rfl) (by kernel_rfl) (fun _ _ _ h=>h) (Or.inl ⟨by rfl,fun w' hSw=>by obtain⟨s0,s1,s2,s3,s4,s5⟩:=hSw;go_simp⟩) hS ?_
     simp only [Gb1a,Gb1b,Gb1c]
     refine take_T 3 48 (.bool true) rfl (by rfl) (by kernel_rfl) (by decide) (by kernel_rfl) (by kernel_rfl) (by kernel_rfl) (fun _ _ _ h=>h) (Or.inl ⟨by rfl,fun w' hSw=>by obtain⟨s0,s1,s2,s3,s4,s5⟩:=hSw;go_simp⟩) hS ?_
     simp only [Gb1a,Gb1b,Gb1c]
     refine take_T 4 49 (.bool true) rfl (by rfl) (by kernel_rfl) (by decide) (by kernel_rfl) (by kernel_rfl) (by kernel_rfl) (fun _ _ _ h=>h) (Or.inl ⟨by rfl,fun w' hSw=>by obtain⟨s0,s1,s2,s3,s4,s5⟩:=hSw;go_simp⟩) hS ?_
     simp only [Gb1a,Gb1b,Gb1c]
     refine take_T 5 50 (.pointer (some ⟨q,0,none⟩)) rfl (by rfl) (by kernel_rfl) (by decide) (by kernel_rfl) (by kernel_rfl) (by kernel_rfl) (fun _ _ _ h=>h) (Or.inl ⟨by rfl,fun w' hSw=>by obtain⟨s0,s1,s2,s3,s4,s5⟩:=hSw;go_simp⟩) hS ?_
     simp only [Gb1a,Gb1b,Gb1c]
     refine take_T 6 51 (.string (bs l)) rfl (by rfl) (by kernel_rfl) (by decide) (by kernel_rfl) (by kernel_rfl) (by kernel_rfl) (fun _ _ _ h=>h) (Or.inl ⟨by rfl,fun w' hSw=>by obtain⟨s0,s1,s2,s3,s4,s5⟩:=hSw;go_simp⟩) hS ?_
     simp only [Gb1a,Gb1b,Gb1c]
     refine only_T 7 rfl (by kernel_rfl) (by decide) (by rfl) (fun K hK=>?_)
     go_wp2_with fail
     go_at_call 154
     refine (HTR.out _).mono ?_
     rintro e w9 ⟨rfl,hw9⟩
     have HS9:=hid (show TkStV w q N kd (v1) D l false w9 from by
      rcases hw9 with rfl | rfl
      ·exact HSF.out.below (Below.refl _ _).drew
      ·exact (HSF.out.below (Below.refl _ _).drew).below (Below.refl _ _).drew)
     clear hw9
     have hS2:=HKP.out _ HS9.out
     refine hK.out _ _ hS2 ?_
     clear hK K
     try simp only [Act.put,Gb1a,Gb1b,Gb1c]
     clear hS
     have hS:=hS2
     clear hS2
     refine take_T 8 53 (.bool true) rfl (by rfl) (by kernel_rfl) (by decide) (by kernel_rfl) (by kernel_rfl) (by kernel_rfl) (fun _ _ _ h=>h) (Or.inl ⟨by rfl,fun w' hSw=>by obtain⟨s0,s1,s2,s3,s4,s5⟩:=hSw;go_simp⟩) hS ?_
     simp only [Gb1a,Gb1b,Gb1c]
     refine take_T 9 54 (.bool true) rfl (by rfl) (by kernel_rfl) (by decide) (by kernel_rfl) (by kernel_rfl) (by kernel_rfl) (fun _ _ _ h=>h) (Or.inl ⟨by rfl,fun w' hSw=>by obtain⟨s0,s1,s2,s3,s4,s5⟩:=hSw;go_simp⟩) hS ?_
     simp only [Gb1a,Gb1b,Gb1c]
     refine only_T 10 rfl (by kernel_rfl) (by decide) (by rfl) (fun K hK=>?_)
     refine wp_store_row 31 (.tmp 2) (.tmp 45) rfl w.heap.size #[.int .u8 kd,zS,zS,v1] rfl rfl 31 #[.int .u8 0,zS,zS,zS] HS9.out.res (by kernel_rfl) rfl HONE.out ?_
     obtain⟨hown,hrow9⟩:=HS9.out.out HND.out
     have HOWN:=hid hown
     have HROW9:=hid hrow9
     have hS2:(w9.setRow w.heap.size #[.int .u8 kd,zS,zS,v1]).cell? ⟨N,0,none⟩=some (.int .u8 kd)∧(w9.setRow w.heap.size #[.int .u8 kd,zS,zS,v1]).cell? ⟨N,1,none⟩=some (zS)∧(w9.setRow w.heap.size #[.int .u8 kd,zS,zS,v1]).cell? ⟨N,2,none⟩=some (zS)∧(w9.setRow w.heap.size #[.int .u8 kd,zS,zS,v1]).cell? ⟨N,3,none⟩=some (v1)∧(w9.setRow w.heap.size #[.int .u8 kd,zS,zS,v1]).cell? ⟨q,0,none⟩=some (.string (bs l))∧(w9.setRow w.heap.size #[.int .u8 kd,zS,zS,v1]).cell? ⟨q,1,none⟩=some (.bool false):=by
      have hs:=grown_setRow w9 w.heap.size #[.int .u8 kd,zS,zS,v1]
      have rN:=(hs.block N (row_lt HS9.out.row) (fun e=>Nat.ne_of_lt HS9.out.n1 (Option.some.inj e).symm)).trans HS9.out.row
      have rq:=(hs.block q HS9.out.tk.lt (fun e=>Nat.ne_of_lt HS9.out.q1 (Option.some.inj e).symm)).trans HS9.out.tk
      exact⟨cell_of_row _ _ 0 _ _ _ rN,cell_of_row _ _ 1 _ _ _ rN,cell_of_row _ _ 2 _ _ _ rN,cell_of_row _ _ 3 _ _ _ rN,cell_of_row _ _ 0 _ _ _ rq,cell_of_row _ _ 1 _ _ _ rq⟩
     refine hK.out _ _ hS2 ?_
     clear hK K
     try simp only [Act.put,Gb1a,Gb1b,Gb1c]
     clear hS hS2 hown hrow9
     generalize World.setRow _ _ _=wz at *
     refine done_T (by kernel_rfl) ?_
     simp only [List.drop_succ_cons,List.drop_zero]
     go_wp2_with fail
     rw [Exit.noGoto_ret]
     refine bodyPost_ret (v:=.tuple #[.agg #[.int .u8 kd,zS,zS,v1],.bool true]) (results_row2 rfl _ _ w.heap.size 31 #[.int .u8 kd,zS,zS,v1] (0,0) _ rfl HROW9.out Tryz.underlying31 rfl (by kernel_rfl) _ rfl) rfl ?_
     exact⟨_,by rw [HR2.out],HOWN.out⟩
    ·have hz0:(bs (Lib.trimB l 0)).size≠0:=by
      rw [bs_size];intro h;exact hz ((trimB_nil l).1 (List.eq_nil_of_length_eq_zero h))
     have HR2:=hid (show (tkN s.data.toList).2=false by rw [HT.out,HDN.out];show (!false&&allz l)=false;rw [Bool.eq_false_iff.2 hz];rfl)
     have hz1:=str_empty hz0
     have hz2:=str_nonil hz0
     clear hz hz0
     have HSF:=hid (HSX.out)
     have HKP:=hid (show ∀ w':World,TkStV w q N kd (v1) D l false w'→w'.cell? ⟨N,0,none⟩=some (.int .u8 kd)∧w'.cell? ⟨N,1,none⟩=some (zS)∧w'.cell? ⟨N,2,none⟩=some (zS)∧w'.cell? ⟨N,3,none⟩=some (v1)∧w'.cell? ⟨q,0,none⟩=some (.string (bs l))∧w'.cell? ⟨q,1,none⟩=some (.bool false) from fun w' h=>⟨cell_of_row _ _ 0 _ _ _ h.row,cell_of_row _ _ 1 _ _ _ h.row,cell_of_row _ _ 2 _ _ _ h.row,cell_of_row _ _ 3 _ _ _ h.row,h.tk.c0,h.tk.c1⟩)
     refine wp_region_T (fun w':World=>w'.cell? ⟨N,0,none⟩=some (.int .u8 kd)∧w'.cell? ⟨N,1,none⟩=some (zS)∧w'.cell? ⟨N,2,none⟩=some (zS)∧w'.cell? ⟨N,3,none⟩=some (v1)∧w'.cell? ⟨q,0,none⟩=some (.string (bs l))∧w'.cell? ⟨q,1,none⟩=some (.bool false)) 11 (by kernel_rfl) (by kernel_rfl) ?_
     have hS:=HKP.out wr.drew (HSF.out.below (Below.refl _ _).drew)
     refine take_T 0 45 (.agg #[.int .u8 kd,zS,zS,v1]) rfl (by rfl) (by kernel_rfl) (by decide) (by kernel_rfl) (by kernel_rfl) (by kernel_rfl) (fun _ _ _ h=>h) (Or.inl ⟨by rfl,fun w' hSw=>by obtain⟨s0,s1,s2,s3,s4,s5⟩:=hSw;go_simp⟩) hS ?_
     simp only [Gb1a,Gb1b,Gb1c]
     refine take_T 1 46 (.pointer (some ⟨q,1,none⟩)) rfl (by rfl) (by kernel_rfl) (by decide) (by kernel_rfl) (by kernel_rfl) (by kernel_rfl) (fun _ _ _ h=>h) (Or.inl ⟨by rfl,fun w' hSw=>by obtain⟨s0,s1,s2,s3,s4,s5⟩:=hSw;go_simp⟩) hS ?_
     simp only [Gb1a,Gb1b,Gb1c]
     refine take_T 2 47 (.bool false) rfl (by rfl) (by kernel_rfl) (by decide) (by kernel_rfl) (by kernel_rfl) (by kernel_rfl) (fun _ _ _ h=>h) (Or.inl ⟨by rfl,fun w' hSw=>by obtain⟨s0,s1,s2,s3,s4,s5⟩:=hSw;go_simp⟩) hS ?_
     simp only [Gb1a,Gb1b,Gb1c]
     refine take_T 3 48 (.bool true) rfl (by rfl) (by kernel_rfl) (by decide) (by kernel_rfl) (by kernel_rfl) (by kernel_rfl) (fun _ _ _ h=>h) (Or.inl ⟨by rfl,fun w' hSw=>by obtain⟨s0,s1,s2,s3,s4,s5⟩:=hSw;go_simp⟩) hS ?_
     simp only [Gb1a,Gb1b,Gb1c]
     refine take_T 4 49 (.bool true) rfl (by rfl) (by kernel_rfl) (by decide) (by kernel_rfl) (by kernel_rfl) (by kernel_rfl) (fun _ _ _ h=>h) (Or.inl ⟨by rfl,fun w' hSw=>by obtain⟨s0,s1,s2,s3,s4,s5⟩:=hSw;go_simp⟩) hS ?_
     simp only [Gb1a,Gb1b,Gb1c]
     refine take_T 5 50 (.pointer (some ⟨q,0,none⟩)) rfl (by rfl) (by kernel_rfl) (by decide) (by kernel_rfl) (by kernel_rfl) (by kernel_rfl) (fun _ _ _ h=>h) (Or.inl ⟨by rfl,fun w' hSw=>by obtain⟨s0,s1,s2,s3,s4,s5⟩:=hSw;go_simp⟩) hS ?_
     simp only [Gb1a,Gb1b,Gb1c]
     refine take_T 6 51 (.string (bs l)) rfl (by rfl) (by kernel_rfl) (by decide) (by kernel_rfl) (by kernel_rfl) (by kernel_rfl) (fun _ _ _ h=>h) (Or.inl ⟨by rfl,fun w' hSw=>by obtain⟨s0,s1,s2,s3,s4,s5⟩:=hSw;go_simp⟩) hS ?_
     simp only [Gb1a,Gb1b,Gb1c]
     refine only_T 7 rfl (by kernel_rfl) (by decide) (by rfl) (fun K hK=>?_)
     go_wp2_with fail
     go_at_call 154
     refine (HTR.out _).mono ?_
     rintro e w9 ⟨rfl,hw9⟩
     have HS9:=hid (show TkStV w q N kd (v1) D l false w9 from by
      rcases hw9 with rfl | rfl
      ·exact HSF.out.below (Below.refl _ _).drew
      ·exact (HSF.out.below (Below.refl _ _).drew).below (Below.refl _ _).drew)
     clear hw9
     have hS2:=HKP.out _ HS9.out
     refine hK.out _ _ hS2 ?_
     clear hK K
     try simp only [Act.put,Gb1a,Gb1b,Gb1c]
     clear hS
     have hS:=hS2
     clear hS2
     refine take_T 8 53 (.bool false) rfl (by rfl) (by kernel_rfl) (by decide) (by kernel_rfl) (by kernel_rfl) (by kernel_rfl) (fun _ _ _ h=>h) (Or.inl ⟨by rfl,fun w' hSw=>by obtain⟨s0,s1,s2,s3,s4,s5⟩:=hSw;go_simp⟩) hS ?_
     simp only [Gb1a,Gb1b,Gb1c]
     refine take_T 9 54 (.bool false) rfl (by rfl) (by kernel_rfl) (by decide) (by kernel_rfl) (by kernel_rfl) (by kernel_rfl) (fun _ _ _ h=>h) (Or.inl ⟨by rfl,fun w' hSw=>by obtain⟨s0,s1,s2,s3,s4,s5⟩:=hSw;go_simp⟩) hS ?_
     simp only [Gb1a,Gb1b,Gb1c]
     refine only_T 10 rfl (by kernel_rfl) (by decide) (by rfl) (fun K hK=>?_)
     refine wp_store_row 31 (.tmp 2) (.tmp 45) rfl w.heap.size #[.int .u8 kd,zS,zS,v1] rfl rfl 31 #[.int .u8 0,zS,zS,zS] HS9.out.res (by kernel_rfl) rfl HONE.out ?_
     obtain⟨hown,hrow9⟩:=HS9.out.out HND.out
     have HOWN:=hid hown
     have HROW9:=hid hrow9
     have hS2:(w9.setRow w.heap.size #[.int .u8 kd,zS,zS,v1]).cell? ⟨N,0,none⟩=some (.int .u8 kd)∧(w9.setRow w.heap.size #[.int .u8 kd,zS,zS,v1]).cell? ⟨N,1,none⟩=some (zS)∧(w9.setRow w.heap.size #[.int .u8 kd,zS,zS,v1]).cell? ⟨N,2,none⟩=some (zS)∧(w9.setRow w.heap.size #[.int .u8 kd,zS,zS,v1]).cell? ⟨N,3,none⟩=some (v1)∧(w9.setRow w.heap.size #[.int .u8 kd,zS,zS,v1]).cell? ⟨q,0,none⟩=some (.string (bs l))∧(w9.setRow w.heap.size #[.int .u8 kd,zS,zS,v1]).cell? ⟨q,1,none⟩=some (.bool false):=by
      have hs:=grown_setRow w9 w.heap.size #[.int .u8 kd,zS,zS,v1]
      have rN:=(hs.block N (row_lt HS9.out.row) (fun e=>Nat.ne_of_lt HS9.out.n1 (Option.some.inj e).symm)).trans HS9.out.row
      have rq:=(hs.block q HS9.out.tk.lt (fun e=>Nat.ne_of_lt HS9.out.q1 (Option.some.inj e).symm)).trans HS9.out.tk
      exact⟨cell_of_row _ _ 0 _ _ _ rN,cell_of_row _ _ 1 _ _ _ rN,cell_of_row _ _ 2 _ _ _ rN,cell_of_row _ _ 3 _ _ _ rN,cell_of_row _ _ 0 _ _ _ rq,cell_of_row _ _ 1 _ _ _ rq⟩
     refine hK.out _ _ hS2 ?_
     clear hK K
     try simp only [Act.put,Gb1a,Gb1b,Gb1c]
     clear hS hS2 hown hrow9
     generalize World.setRow _ _ _=wz at *
     refine done_T (by kernel_rfl) ?_
     simp only [List.drop_succ_cons,List.drop_zero]
     go_wp2_with fail
     rw [Exit.noGoto_ret]
     refine bodyPost_ret (v:=.tuple #[.agg #[.int .u8 kd,zS,zS,v1],.bool false]) (results_row2 rfl _ _ w.heap.size 31 #[.int .u8 kd,zS,zS,v1] (0,0) _ rfl HROW9.out Tryz.underlying31 rfl (by kernel_rfl) _ rfl) rfl ?_
     exact⟨_,by rw [HR2.out],HOWN.out⟩
   ·go_wp2_with fail
    clear hlt hi
    have HR2:=hid (show (tkN s.data.toList).2=false by rw [HT.out,HDN.out];rfl)
    have HND:=hid (show (tkN s.data.toList).1=⟨kd,[],[],D⟩ by rw [HT.out,HDN.out])
    have HSF:=hid (HSX.out)
    have HKP:=hid (show ∀ w':World,TkStV w q N kd (v1) D l true w'→w'.cell? ⟨N,0,none⟩=some (.int .u8 kd)∧w'.cell? ⟨N,1,none⟩=some (zS)∧w'.cell? ⟨N,2,none⟩=some (zS)∧w'.cell? ⟨N,3,none⟩=some (v1)∧w'.cell? ⟨q,0,none⟩=some (.string (bs l))∧w'.cell? ⟨q,1,none⟩=some (.bool true) from fun w' h=>⟨cell_of_row _ _ 0 _ _ _ h.row,cell_of_row _ _ 1 _ _ _ h.row,cell_of_row _ _ 2 _ _ _ h.row,cell_of_row _ _ 3 _ _ _ h.row,h.tk.c0,h.tk.c1⟩)
    refine wp_region_T (fun w':World=>w'.cell? ⟨N,0,none⟩=some (.int .u8 kd)∧w'.cell? ⟨N,1,none⟩=some (zS)∧w'.cell? ⟨N,2,none⟩=some (zS)∧w'.cell? ⟨N,3,none⟩=some (v1)∧w'.cell? ⟨q,0,none⟩=some (.string (bs l))∧w'.cell? ⟨q,1,none⟩=some (.bool true)) 11 (by kernel_rfl) (by kernel_rfl) ?_
    have hS:=HKP.out wr.drew (HSF.out.below (Below.refl _ _).drew)
    refine take_T 0 45 (.agg #[.int .u8 kd,zS,zS,v1]) rfl (by rfl) (by kernel_rfl) (by decide) (by kernel_rfl) (by kernel_rfl) (by kernel_rfl) (fun _ _ _ h=>h) (Or.inl ⟨by rfl,fun w' hSw=>by obtain⟨s0,s1,s2,s3,s4,s5⟩:=hSw;go_simp⟩) hS ?_
    simp only [Gb1a,Gb1b,Gb1c]
    refine take_T 1 46 (.pointer (some ⟨q,1,none⟩)) rfl (by rfl) (by kernel_rfl) (by decide) (by kernel_rfl) (by kernel_rfl) (by kernel_rfl) (fun _ _ _ h=>h) (Or.inl ⟨by rfl,fun w' hSw=>by obtain⟨s0,s1,s2,s3,s4,s5⟩:=hSw;go_simp⟩) hS ?_
    simp only [Gb1a,Gb1b,Gb1c]
    refine take_T 2 47 (.bool true) rfl (by rfl) (by kernel_rfl) (by decide) (by kernel_rfl) (by kernel_rfl) (by kernel_rfl) (fun _ _ _ h=>h) (Or.inl ⟨by rfl,fun w' hSw=>by obtain⟨s0,s1,s2,s3,s4,s5⟩:=hSw;go_simp⟩) hS ?_
    simp only [Gb1a,Gb1b,Gb1c]
    refine take_T 3 48 (.bool false) rfl (by rfl) (by kernel_rfl) (by decide) (by kernel_rfl) (by kernel_rfl) (by kernel_rfl) (fun _ _ _ h=>h) (Or.inl ⟨by rfl,fun w' hSw=>by obtain⟨s0,s1,s2,s3,s4,s5⟩:=hSw;go_simp⟩) hS ?_
    simp only [Gb1a,Gb1b,Gb1c]
    refine take_T 4 49 (.bool false) rfl (by rfl) (by kernel_rfl) (by decide) (by kernel_rfl) (by kernel_rfl) (by kernel_rfl) (fun _ _ _ h=>h) (Or.inl ⟨by rfl,fun w' hSw=>by obtain⟨s0,s1,s2,s3,s4,s5⟩:=hSw;go_simp⟩) hS ?_
    simp only [Gb1a,Gb1b,Gb1c]
    refine take_T 5 50 undef rfl (by rfl) (by kernel_rfl) (by decide) (by kernel_rfl) (by kernel_rfl) (by kernel_rfl) (fun _ _ _ h=>h) (Or.inr ⟨by rfl,rfl⟩) hS ?_
    simp only [Gb1a,Gb1b,Gb1c]
    refine take_T 6 51 undef rfl (by rfl) (by kernel_rfl) (by decide) (by kernel_rfl) (by kernel_rfl) (by kernel_rfl) (fun _ _ _ h=>h) (Or.inr ⟨by rfl,rfl⟩) hS ?_
    simp only [Gb1a,Gb1b,Gb1c]
    refine take_T 7 52 undef rfl (by rfl) (by kernel_rfl) (by decide) (by kernel_rfl) (by kernel_rfl) (by kernel_rfl) (fun _ _ _ h=>h) (Or.inr ⟨by rfl,rfl⟩) hS ?_
    simp only [Gb1a,Gb1b,Gb1c]
    refine take_T 8 53 undef rfl (by rfl) (by kernel_rfl) (by decide) (by kernel_rfl) (by kernel_rfl) (by kernel_rfl) (fun _ _ _ h=>h) (Or.inr ⟨by rfl,rfl⟩) hS ?_
    simp only [Gb1a,Gb1b,Gb1c]
    refine take_T 9 54 (.bool false) rfl (by rfl) (by kernel_rfl) (by decide) (by kernel_rfl) (by kernel_rfl) (by kernel_rfl) (fun _ _ _ h=>h) (Or.inl ⟨by rfl,fun w' hSw=>by obtain⟨s0,s1,s2,s3,s4,s5⟩:=hSw;go_simp⟩) hS ?_
    simp only [Gb1a,Gb1b,Gb1c]
    have HS9:=hid (show TkStV w q N kd (v1) D l true wr.drew from HSF.out.below (Below.refl _ _).drew)
    refine only_T 10 rfl (by kernel_rfl) (by decide) (by rfl) (fun K hK=>?_)
    refine wp_store_row 31 (.tmp 2) (.tmp 45) rfl w.heap.size #[.int .u8 kd,zS,zS,v1] rfl rfl 31 #[.int .u8 0,zS,zS,zS] HS9.out.res (by kernel_rfl) rfl HONE.out ?_
    obtain⟨hown,hrow9⟩:=HS9.out.out HND.out
    have HOWN:=hid hown
    have HROW9:=hid hrow9
    have hS2:(wr.drew.setRow w.heap.size #[.int .u8 kd,zS,zS,v1]).cell? ⟨N,0,none⟩=some (.int .u8 kd)∧(wr.drew.setRow w.heap.size #[.int .u8 kd,zS,zS,v1]).cell? ⟨N,1,none⟩=some (zS)∧(wr.drew.setRow w.heap.size #[.int .u8 kd,zS,zS,v1]).cell? ⟨N,2,none⟩=some (zS)∧(wr.drew.setRow w.heap.size #[.int .u8 kd,zS,zS,v1]).cell? ⟨N,3,none⟩=some (v1)∧(wr.drew.setRow w.heap.size #[.int .u8 kd,zS,zS,v1]).cell? ⟨q,0,none⟩=some (.string (bs l))∧(wr.drew.setRow w.heap.size #[.int .u8 kd,zS,zS,v1]).cell? ⟨q,1,none⟩=some (.bool true):=by
     have hs:=grown_setRow wr.drew w.heap.size #[.int .u8 kd,zS,zS,v1]
     have rN:=(hs.block N (row_lt HS9.out.row) (fun e=>Nat.ne_of_lt HS9.out.n1 (Option.some.inj e).symm)).trans HS9.out.row
     have rq:=(hs.block q HS9.out.tk.lt (fun e=>Nat.ne_of_lt HS9.out.q1 (Option.some.inj e).symm)).trans HS9.out.tk
     exact⟨cell_of_row _ _ 0 _ _ _ rN,cell_of_row _ _ 1 _ _ _ rN,cell_of_row _ _ 2 _ _ _ rN,cell_of_row _ _ 3 _ _ _ rN,cell_of_row _ _ 0 _ _ _ rq,cell_of_row _ _ 1 _ _ _ rq⟩
    refine hK.out _ _ hS2 ?_
    clear hK K
    try simp only [Act.put,Gb1a,Gb1b,Gb1c]
    clear hS hS2 hown hrow9
    generalize World.setRow _ _ _=wz at *
    refine done_T (by kernel_rfl) ?_
    simp only [List.drop_succ_cons,List.drop_zero]
    go_wp2_with fail
    rw [Exit.noGoto_ret]
    refine bodyPost_ret (v:=.tuple #[.agg #[.int .u8 kd,zS,zS,v1],.bool false]) (results_row2 rfl _ _ w.heap.size 31 #[.int .u8 kd,zS,zS,v1] (0,0) _ rfl HROW9.out Tryz.underlying31 rfl (by kernel_rfl) _ rfl) rfl ?_
    exact⟨_,by rw [HR2.out],HOWN.out⟩
set_option maxRecDepth 100000 in
set_option maxHeartbeats 8000000 in
theorem takenZ (s:ByteArray) (h4:s.size≤maxLen) (hkd:(tkNum 1 (s.data.toList,false)).1≠1∧(tkNum 1 (s.data.toList,false)).1≠2∧(tkNum 1 (s.data.toList,false)).1≠3) (w:World):Calls Tryz.prog 121 #[.string s] w (TkPost s.data.toList w):=by
 obtain⟨kd,⟨l1,b1⟩,e1⟩:∃ V s2,tkNum 1 (s.data.toList,false)=(V,s2):=⟨_,_,rfl⟩
 obtain⟨c,⟨l2,b2⟩,e2⟩:∃ V s2,tkNum 1 (l1,b1)=(V,s2):=⟨_,_,rfl⟩
 have hkd8:=num_byte (s.data.toList,false)
 have hc8:=num_byte (l1,b1)
 have hl1:=num_less 1 (s.data.toList,false)
 have hl2:=num_less 1 (l1,b1)
 rw [e1] at hkd8 hl1
 rw [e2] at hc8 hl2
 dsimp only at hkd8 hl1 hc8 hl2
 have hm1:(bs l1).size≤maxLen:=bs_le (s:=s) hl1 h4
 have hm2:(bs l2).size≤maxLen:=bs_le (s:=bs l1) hl2 hm1
 have HC1:=hid (show ∀ w q,TkR w q s false→Calls Tryz.prog 150 #[.pointer (some ⟨q,0,none⟩),.int .i64 1] w fun e w'=>e=.returned (.int .u64 (kd:Nat))∧TkR w' q (bs l1) b1∧w.grownBy w' (some q) from fun w q h=>by
  have c:=number_tk h 1 (by omega) (by omega) h4
  rw [e1] at c
  exact c)
 have HC2:=hid (show ∀ w q,TkR w q (bs l1) b1→Calls Tryz.prog 150 #[.pointer (some ⟨q,0,none⟩),.int .i64 1] w fun e w'=>e=.returned (.int .u64 (c:Nat))∧TkR w' q (bs l2) b2∧w.grownBy w' (some q) from fun w q h=>by
  have c:=number_tk h 1 (by omega) (by omega) hm1
  rw [bs_data,e2] at c
  exact c)
 rw [e1] at hkd
 dsimp only at hkd
 have HT:=hid (show tkN s.data.toList=(⟨kd,[],[],[]⟩,!b2&&allz l2) by
  unfold tkN
  rw [e1]
  dsimp only
  rw [e2]
  dsimp only
  rw [if_neg hkd.1,if_neg hkd.2.1,if_neg hkd.2.2])
 have HM2:=hid hm2
 have HKD:=hid hkd
 have eu:IntKind.u8.wrap (kd:Int)=(kd:Int):=IntWalk.u8_in _ (by omega)
 obtain⟨R1,R2,S0,Z0⟩:=two_new w #[.int .u8 0,zS,zS,zS] #[.string s,.bool false] 31 203
 have HR1:=hid R1
 have HT2:=hid (show TkR _ (w.heap.size+1) s false from R2)
 have HS0:=hid S0
 clear R1 R2 S0 Z0 hm1 hm2 hl1 hl2 hkd e1 e2 h4
 go_enter Tryz.func121,Tryz.ntmps121
 go_wp2_with fail
 go_step3
 go_wp2_with fail
 generalize (w.alloc _).alloc _=W2 at *
 go_at_call 150
 refine (HC1.out _ _ HT2.out).mono ?_
 rintro e w3 ⟨rfl,ht,hg⟩
 have HT3:=hid ht
 have HR3:=hid ((hg.block w.heap.size (row_lt HR1.out) (fun e=>by have:=Option.some.inj e;omega)).trans HR1.out)
 have HB3:=hid (HS0.out.grown hg HS0.out.size (fun k hk=>by cases hk;exact Nat.le_succ _))
 clear ht hg HT2 HR1 HS0
 go_wp2_with fail
 have hal:Below w3.heap.size w3 (w3.alloc (.cells #[.int .u8 kd,zS,zS,zS] 31)):=(Below.refl _ _).alloc (Nat.le_refl _) _
 have HN4:=hid (heap_alloc_new w3 (.cells #[.int .u8 kd,zS,zS,zS] 31))
 have HT4:=hid (HT3.out.below hal)
 have HR4:=hid ((hal.block w.heap.size (row_lt HR3.out)).trans HR3.out)
 have HB4:=hid (HB3.out.trans (hal.mono HB3.out.size))
 have HN1:=hid (show w.heap.size<w3.heap.size from row_lt HR3.out)
 have HQN:=hid (show w.heap.size+1≠w3.heap.size from Nat.ne_of_lt HT3.out.lt)
 have HQ1:=hid (show w.heap.size<w.heap.size+1 from Nat.lt_succ_self _)
 have HS4:=hid (show TkStI w (w.heap.size+1) w3.heap.size kd zS [] l1 b1 (w3.alloc (.cells #[.int .u8 kd,zS,zS,zS] 31)) from⟨HT4.out,HN4.out,HR4.out,Mk.nil HB4.out,HQ1.out,HN1.out,HQN.out⟩)
 clear hal HN4 HT3 HR3 HB3 HR4 HB4 HN1 HQN HQ1
 generalize w3.alloc _=w4 at *
 generalize w3.heap.size=N at *
 go_at_call 150
 refine (HC2.out _ _ HT4.out).mono ?_
 rintro e w5 ⟨rfl,ht,hg⟩
 have HS5:=hid (HS4.out.took ht hg)
 clear ht hg HS4 HT4 HC1 HC2
 generalize hq:w.heap.size+1=q at *
 clear hq
 go_wp2_with fail
 go_step3
 go_wp2_with fail
 go_loopw [14] (fun iv wr=>iv=.int .u64 0∧Hid (TkStI w q N kd zS [] l2 b2 wr)) (fun iv _=>0)
 case atStart=>exact⟨rfl,HS5.out⟩
 case round =>
  obtain⟨rfl,hst⟩:=hrel
  by_cases hc0:0<c
  ·have HSX:=hid (Hid.out hst)
   clear hst
   have HONE:=hid (show (#[.int .u8 kd,zS,zS,zS]:Array Value).all (·.oneCell')=true from four_cells _ _ _ _ rfl rfl rfl rfl)
   have HLE:=HM2
   have k0:wr.cell? ⟨N,0,none⟩=some (.int .u8 kd):=cell_of_row _ _ 0 _ _ _ HSX.out.row
   have q1:((kd:Int)==1)=false:=by rw [beq_eq_false_iff_ne];have:=HKD.out;omega
   have q2:((kd:Int)==2)=false:=by rw [beq_eq_false_iff_ne];have:=HKD.out;omega
   have q3:((kd:Int)==3)=false:=by rw [beq_eq_false_iff_ne];have:=HKD.out;omega
   cases b2
   ·go_wp2_with fail
    have HTR:=hid (show ∀ w',Calls Tryz.prog 154 #[.string (bs l2),.string ⟨#[0]⟩] w' fun e w2=>e=.returned (.string (bs (Lib.trimB l2 0)))∧(w2=w'∨w2=w'.drew) from fun w'=>Tryz.strings_Trim_one (bs l2) 0 (by decide) w' (by have:=HLE.out;unfold maxLen at this;omega))
    have HND:=hid (show (tkN s.data.toList).1=⟨kd,[],[],[]⟩ by rw [HT.out])
    by_cases hz:allz l2=true
    ·have HR2:=hid (show (tkN s.data.toList).2=true by rw [HT.out];show (!false&&allz l2)=true;rw [hz];rfl)
     have hz1:(bs (Lib.trimB l2 0)).toList=[]:=str_nil (by rw [bs_size,(trimB_nil l2).2 hz];rfl)
     have hz2:(bs (Lib.trimB l2 0)).toList.isEmpty=true:=by rw [hz1];rfl
     clear hz
     have HSF:=hid (HSX.out)
     have HKP:=hid (show ∀ w':World,TkStI w q N kd (zS) [] l2 false w'→w'.cell? ⟨N,0,none⟩=some (.int .u8 kd)∧w'.cell? ⟨N,1,none⟩=some (zS)∧w'.cell? ⟨N,2,none⟩=some (zS)∧w'.cell? ⟨N,3,none⟩=some (zS)∧w'.cell? ⟨q,0,none⟩=some (.string (bs l2))∧w'.cell? ⟨q,1,none⟩=some (.bool false) from fun w' h=>⟨cell_of_row _ _ 0 _ _ _ h.row,cell_of_row _ _ 1 _ _ _ h.row,cell_of_row _ _ 2 _ _ _ h.row,cell_of_row _ _ 3 _ _ _ h.row,h.tk.c0,h.tk.c1⟩)
     refine wp_region_T (fun w':World=>w'.cell? ⟨N,0,none⟩=some (.int .u8 kd)∧w'.cell? ⟨N,1,none⟩=some (zS)∧w'.cell? ⟨N,2,none⟩=some (zS)∧w'.cell? ⟨N,3,none⟩=some (zS)∧w'.cell? ⟨q,0,none⟩=some (.string (bs l2))∧w'.cell? ⟨q,1,none⟩=some (.bool false)) 11 (by kernel_rfl) (by kernel_rfl) ?_
     have hS:=HKP.out wr.drew (HSF.out.below (Below.refl _ _).drew)
     refine take_T 0 45 (.agg #[.int .u8 kd,zS,zS,zS]) rfl (by rfl) (by kernel_rfl) (by decide) (by kernel_rfl) (by kernel_rfl) (by kernel_rfl) (fun _ _ _ h=>h) (Or.inl ⟨by rfl,fun w' hSw=>by obtain⟨s0,s1,s2,s3,s4,s5⟩:=hSw;go_simp⟩) hS ?_
     simp only [Gb1a,Gb1b,Gb1c]
     refine take_T 1 46 (.pointer (some ⟨q,1,none⟩)) rfl (by rfl) (by kernel_rfl) (by decide) (by kernel_rfl) (by kernel_rfl) (by kernel_rfl) (fun _ _ _ h=>h) (Or.inl ⟨by rfl,fun w' hSw=>by obtain⟨s0,s1,s2,s3,s4,s5⟩:=hSw;go_simp⟩) hS ?_
     simp only [Gb1a,Gb1b,Gb1c]
     refine take_T 2 47 (.bool false) rfl (by rfl) (by kernel_rfl) (by decide) (by kernel_rfl) (by kernel_rfl) (by kernel_rfl) (fun _ _ _ h=>h) (Or.inl ⟨by rfl,fun w' hSw=>by obtain⟨s0,s1,s2,s3,s4,s5⟩:=hSw;go_simp⟩) hS ?_
     simp only [Gb1a,Gb1b,Gb1c]
     refine take_T 3 48 (.bool true) rfl (by rfl) (by kernel_rfl) (by decide) (by kernel_rfl) (by kernel_rfl) (by kernel_rfl) (fun _ _ _ h=>h) (Or.inl ⟨by rfl,fun w' hSw=>by obtain⟨s0,s1,s2,s3,s4,s5⟩:=hSw;go_simp⟩) hS ?_
     simp only [Gb1a,Gb1b,Gb1c]
     refine take_T 4 49 (.bool true) rfl (by rfl) (by kernel_rfl) (by decide) (by kernel_rfl) (by kernel_rfl) (by kernel_rfl) (fun _ _ _ h=>h) (Or.inl ⟨by rfl,fun w' hSw=>by obtain⟨s0,s1,s2,s3,s4,s5⟩:=hSw;go_simp⟩) hS ?_
     simp only [Gb1a,Gb1b,Gb1c]
     refine take_T 5 50 (.pointer (some ⟨q,0,none⟩)) rfl (by rfl) (by kernel_rfl) (by decide) (by kernel_rfl) (by kernel_rfl) (by kernel_rfl) (fun _ _ _ h=>h) (Or.inl ⟨by rfl,fun w' hSw=>by obtain⟨s0,s1,s2,s3,s4,s5⟩:=hSw;go_simp⟩) hS ?_
     simp only [Gb1a,Gb1b,Gb1c]
     refine take_T 6 51 (.string (bs l2)) rfl (by rfl) (by kernel_rfl) (by decide) (by kernel_rfl) (by kernel_rfl) (by kernel_rfl) (fun _ _ _ h=>h) (Or.inl ⟨by rfl,fun w' hSw=>by obtain⟨s0,s1,s2,s3,s4,s5⟩:=hSw;go_simp⟩) hS ?_
     simp only [Gb1a,Gb1b,Gb1c]
     refine only_T 7 rfl (by kernel_rfl) (by decide) (by rfl) (fun K hK=>?_)
     go_wp2_with fail
     go_at_call 154
     refine (HTR.out _).mono ?_
     rintro e w9 ⟨rfl,hw9⟩
     have HS9:=hid (show TkStI w q N kd (zS) [] l2 false w9 from by
      rcases hw9 with rfl | rfl
      ·exact HSF.out.below (Below.refl _ _).drew
      ·exact (HSF.out.below (Below.refl _ _).drew).below (Below.refl _ _).drew)
     clear hw9
     have hS2:=HKP.out _ HS9.out
     refine hK.out _ _ hS2 ?_
     clear hK K
     try simp only [Act.put,Gb1a,Gb1b,Gb1c]
     clear hS
     have hS:=hS2
     clear hS2
     refine take_T 8 53 (.bool true) rfl (by rfl) (by kernel_rfl) (by decide) (by kernel_rfl) (by kernel_rfl) (by kernel_rfl) (fun _ _ _ h=>h) (Or.inl ⟨by rfl,fun w' hSw=>by obtain⟨s0,s1,s2,s3,s4,s5⟩:=hSw;go_simp⟩) hS ?_
     simp only [Gb1a,Gb1b,Gb1c]
     refine take_T 9 54 (.bool true) rfl (by rfl) (by kernel_rfl) (by decide) (by kernel_rfl) (by kernel_rfl) (by kernel_rfl) (fun _ _ _ h=>h) (Or.inl ⟨by rfl,fun w' hSw=>by obtain⟨s0,s1,s2,s3,s4,s5⟩:=hSw;go_simp⟩) hS ?_
     simp only [Gb1a,Gb1b,Gb1c]
     refine only_T 10 rfl (by kernel_rfl) (by decide) (by rfl) (fun K hK=>?_)
     refine wp_store_row 31 (.tmp 2) (.tmp 45) rfl w.heap.size #[.int .u8 kd,zS,zS,zS] rfl rfl 31 #[.int .u8 0,zS,zS,zS] HS9.out.res (by kernel_rfl) rfl HONE.out ?_
     obtain⟨hown,hrow9⟩:=HS9.out.out HND.out
     have HOWN:=hid hown
     have HROW9:=hid hrow9
     have hS2:(w9.setRow w.heap.size #[.int .u8 kd,zS,zS,zS]).cell? ⟨N,0,none⟩=some (.int .u8 kd)∧(w9.setRow w.heap.size #[.int .u8 kd,zS,zS,zS]).cell? ⟨N,1,none⟩=some (zS)∧(w9.setRow w.heap.size #[.int .u8 kd,zS,zS,zS]).cell? ⟨N,2,none⟩=some (zS)∧(w9.setRow w.heap.size #[.int .u8 kd,zS,zS,zS]).cell? ⟨N,3,none⟩=some (zS)∧(w9.setRow w.heap.size #[.int .u8 kd,zS,zS,zS]).cell? ⟨q,0,none⟩=some (.string (bs l2))∧(w9.setRow w.heap.size #[.int .u8 kd,zS,zS,zS]).cell? ⟨q,1,none⟩=some (.bool false):=by
      have hs:=grown_setRow w9 w.heap.size #[.int .u8 kd,zS,zS,zS]
      have rN:=(hs.block N (row_lt HS9.out.row) (fun e=>Nat.ne_of_lt HS9.out.n1 (Option.some.inj e).symm)).trans HS9.out.row
      have rq:=(hs.block q HS9.out.tk.lt (fun e=>Nat.ne_of_lt HS9.out.q1 (Option.some.inj e).symm)).trans HS9.out.tk
      exact⟨cell_of_row _ _ 0 _ _ _ rN,cell_of_row _ _ 1 _ _ _ rN,cell_of_row _ _ 2 _ _ _ rN,cell_of_row _ _ 3 _ _ _ rN,cell_of_row _ _ 0 _ _ _ rq,cell_of_row _ _ 1 _ _ _ rq⟩
     refine hK.out _ _ hS2 ?_
     clear hK K
     try simp only [Act.put,Gb1a,Gb1b,Gb1c]
     clear hS hS2 hown hrow9
     generalize World.setRow _ _ _=wz at *
     refine done_T (by kernel_rfl) ?_
     simp only [List.drop_succ_cons,List.drop_zero]
     go_wp2_with fail
     rw [Exit.noGoto_ret]
     refine bodyPost_ret (v:=.tuple #[.agg #[.int .u8 kd,zS,zS,zS],.bool true]) (results_row2 rfl _ _ w.heap.size 31 #[.int .u8 kd,zS,zS,zS] (0,0) _ rfl HROW9.out Tryz.underlying31 rfl (by kernel_rfl) _ rfl) rfl ?_
     exact⟨_,by rw [HR2.out],HOWN.out⟩
    ·have hz0:(bs (Lib.trimB l2 0)).size≠0:=by
      rw [bs_size];intro h;exact hz ((trimB_nil l2).1 (List.eq_nil_of_length_eq_zero h))
     have HR2:=hid (show (tkN s.data.toList).2=false by rw [HT.out];show (!false&&allz l2)=false;rw [Bool.eq_false_iff.2 hz];rfl)
     have hz1:=str_empty hz0
     have hz2:=str_nonil hz0
     clear hz hz0
     have HSF:=hid (HSX.out)
     have HKP:=hid (show ∀ w':World,TkStI w q N kd (zS) [] l2 false w'→w'.cell? ⟨N,0,none⟩=some (.int .u8 kd)∧w'.cell? ⟨N,1,none⟩=some (zS)∧w'.cell? ⟨N,2,none⟩=some (zS)∧w'.cell? ⟨N,3,none⟩=some (zS)∧w'.cell? ⟨q,0,none⟩=some (.string (bs l2))∧w'.cell? ⟨q,1,none⟩=some (.bool false) from fun w' h=>⟨cell_of_row _ _ 0 _ _ _ h.row,cell_of_row _ _ 1 _ _ _ h.row,cell_of_row _ _ 2 _ _ _ h.row,cell_of_row _ _ 3 _ _ _ h.row,h.tk.c0,h.tk.c1⟩)
     refine wp_region_T (fun w':World=>w'.cell? ⟨N,0,none⟩=some (.int .u8 kd)∧w'.cell? ⟨N,1,none⟩=some (zS)∧w'.cell? ⟨N,2,none⟩=some (zS)∧w'.cell? ⟨N,3,none⟩=some (zS)∧w'.cell? ⟨q,0,none⟩=some (.string (bs l2))∧w'.cell? ⟨q,1,none⟩=some (.bool false)) 11 (by kernel_rfl) (by kernel_rfl) ?_
     have hS:=HKP.out wr.drew (HSF.out.below (Below.refl _ _).drew)
     refine take_T 0 45 (.agg #[.int .u8 kd,zS,zS,zS]) rfl (by rfl) (by kernel_rfl) (by decide) (by kernel_rfl) (by kernel_rfl) (by kernel_rfl) (fun _ _ _ h=>h) (Or.inl ⟨by rfl,fun w' hSw=>by obtain⟨s0,s1,s2,s3,s4,s5⟩:=hSw;go_simp⟩) hS ?_
     simp only [Gb1a,Gb1b,Gb1c]
     refine take_T 1 46 (.pointer (some ⟨q,1,none⟩)) rfl (by rfl) (by kernel_rfl) (by decide) (by kernel_rfl) (by kernel_rfl) (by kernel_rfl) (fun _ _ _ h=>h) (Or.inl ⟨by rfl,fun w' hSw=>by obtain⟨s0,s1,s2,s3,s4,s5⟩:=hSw;go_simp⟩) hS ?_
     simp only [Gb1a,Gb1b,Gb1c]
     refine take_T 2 47 (.bool false) rfl (by rfl) (by kernel_rfl) (by decide) (by kernel_rfl) (by kernel_rfl) (by kernel_rfl) (fun _ _ _ h=>h) (Or.inl ⟨by rfl,fun w' hSw=>by obtain⟨s0,s1,s2,s3,s4,s5⟩:=hSw;go_simp⟩) hS ?_
     simp only [Gb1a,Gb1b,Gb1c]
     refine take_T 3 48 (.bool true) rfl (by rfl) (by kernel_rfl) (by decide) (by kernel_rfl) (by kernel_rfl) (by kernel_rfl) (fun _ _ _ h=>h) (Or.inl ⟨by rfl,fun w' hSw=>by obtain⟨s0,s1,s2,s3,s4,s5⟩:=hSw;go_simp⟩) hS ?_
     simp only [Gb1a,Gb1b,Gb1c]
     refine take_T 4 49 (.bool true) rfl (by rfl) (by kernel_rfl) (by decide) (by kernel_rfl) (by kernel_rfl) (by kernel_rfl) (fun _ _ _ h=>h) (Or.inl ⟨by rfl,fun w' hSw=>by obtain⟨s0,s1,s2,s3,s4,s5⟩:=hSw;go_simp⟩) hS ?_
     simp only [Gb1a,Gb1b,Gb1c]
     refine take_T 5 50 (.pointer (some ⟨q,0,none⟩)) rfl (by rfl) (by kernel_rfl) (by decide) (by kernel_rfl) (by kernel_rfl) (by kernel_rfl) (fun _ _ _ h=>h) (Or.inl ⟨by rfl,fun w' hSw=>by obtain⟨s0,s1,s2,s3,s4,s5⟩:=hSw;go_simp⟩) hS ?_
     simp only [Gb1a,Gb1b,Gb1c]
     refine take_T 6 51 (.string (bs l2)) rfl (by rfl) (by kernel_rfl) (by decide) (by kernel_rfl) (by kernel_rfl) (by kernel_rfl) (fun _ _ _ h=>h) (Or.inl ⟨by rfl,fun w' hSw=>by obtain⟨s0,s1,s2,s3,s4,s5⟩:=hSw;go_simp⟩) hS ?_
     simp only [Gb1a,Gb1b,Gb1c]
     refine only_T 7 rfl (by kernel_rfl) (by decide) (by rfl) (fun K hK=>?_)
     go_wp2_with fail
     go_at_call 154
     refine (HTR.out _).mono ?_
     rintro e w9 ⟨rfl,hw9⟩
     have HS9:=hid (show TkStI w q N kd (zS) [] l2 false w9 from by
      rcases hw9 with rfl | rfl
      ·exact HSF.out.below (Below.refl _ _).drew
      ·exact (HSF.out.below (Below.refl _ _).drew).below (Below.refl _ _).drew)
     clear hw9
     have hS2:=HKP.out _ HS9.out
     refine hK.out _ _ hS2 ?_
     clear hK K
     try simp only [Act.put,Gb1a,Gb1b,Gb1c]
     clear hS
     have hS:=hS2
     clear hS2
     refine take_T 8 53 (.bool false) rfl (by rfl) (by kernel_rfl) (by decide) (by kernel_rfl) (by kernel_rfl) (by kernel_rfl) (fun _ _ _ h=>h) (Or.inl ⟨by rfl,fun w' hSw=>by obtain⟨s0,s1,s2,s3,s4,s5⟩:=hSw;go_simp⟩) hS ?_
     simp only [Gb1a,Gb1b,Gb1c]
     refine take_T 9 54 (.bool false) rfl (by rfl) (by kernel_rfl) (by decide) (by kernel_rfl) (by kernel_rfl) (by kernel_rfl) (fun _ _ _ h=>h) (Or.inl ⟨by rfl,fun w' hSw=>by obtain⟨s0,s1,s2,s3,s4,s5⟩:=hSw;go_simp⟩) hS ?_
     simp only [Gb1a,Gb1b,Gb1c]
     refine only_T 10 rfl (by kernel_rfl) (by decide) (by rfl) (fun K hK=>?_)
     refine wp_store_row 31 (.tmp 2) (.tmp 45) rfl w.heap.size #[.int .u8 kd,zS,zS,zS] rfl rfl 31 #[.int .u8 0,zS,zS,zS] HS9.out.res (by kernel_rfl) rfl HONE.out ?_
     obtain⟨hown,hrow9⟩:=HS9.out.out HND.out
     have HOWN:=hid hown
     have HROW9:=hid hrow9
     have hS2:(w9.setRow w.heap.size #[.int .u8 kd,zS,zS,zS]).cell? ⟨N,0,none⟩=some (.int .u8 kd)∧(w9.setRow w.heap.size #[.int .u8 kd,zS,zS,zS]).cell? ⟨N,1,none⟩=some (zS)∧(w9.setRow w.heap.size #[.int .u8 kd,zS,zS,zS]).cell? ⟨N,2,none⟩=some (zS)∧(w9.setRow w.heap.size #[.int .u8 kd,zS,zS,zS]).cell? ⟨N,3,none⟩=some (zS)∧(w9.setRow w.heap.size #[.int .u8 kd,zS,zS,zS]).cell? ⟨q,0,none⟩=some (.string (bs l2))∧(w9.setRow w.heap.size #[.int .u8 kd,zS,zS,zS]).cell? ⟨q,1,none⟩=some (.bool false):=by
      have hs:=grown_setRow w9 w.heap.size #[.int .u8 kd,zS,zS,zS]
      have rN:=(hs.block N (row_lt HS9.out.row) (fun e=>Nat.ne_of_lt HS9.out.n1 (Option.some.inj e).symm)).trans HS9.out.row
      have rq:=(hs.block q HS9.out.tk.lt (fun e=>Nat.ne_of_lt HS9.out.q1 (Option.some.inj e).symm)).trans HS9.out.tk
      exact⟨cell_of_row _ _ 0 _ _ _ rN,cell_of_row _ _ 1 _ _ _ rN,cell_of_row _ _ 2 _ _ _ rN,cell_of_row _ _ 3 _ _ _ rN,cell_of_row _ _ 0 _ _ _ rq,cell_of_row _ _ 1 _ _ _ rq⟩
     refine hK.out _ _ hS2 ?_
     clear hK K
     try simp only [Act.put,Gb1a,Gb1b,Gb1c]
     clear hS hS2 hown hrow9
     generalize World.setRow _ _ _=wz at *
     refine done_T (by kernel_rfl) ?_
     simp only [List.drop_succ_cons,List.drop_zero]
     go_wp2_with fail
     rw [Exit.noGoto_ret]
     refine bodyPost_ret (v:=.tuple #[.agg #[.int .u8 kd,zS,zS,zS],.bool false]) (results_row2 rfl _ _ w.heap.size 31 #[.int .u8 kd,zS,zS,zS] (0,0) _ rfl HROW9.out Tryz.underlying31 rfl (by kernel_rfl) _ rfl) rfl ?_
     exact⟨_,by rw [HR2.out],HOWN.out⟩
   ·go_wp2_with fail
    have HR2:=hid (show (tkN s.data.toList).2=false by rw [HT.out];rfl)
    have HND:=hid (show (tkN s.data.toList).1=⟨kd,[],[],[]⟩ by rw [HT.out])
    have HSF:=hid (HSX.out)
    have HKP:=hid (show ∀ w':World,TkStI w q N kd (zS) [] l2 true w'→w'.cell? ⟨N,0,none⟩=some (.int .u8 kd)∧w'.cell? ⟨N,1,none⟩=some (zS)∧w'.cell? ⟨N,2,none⟩=some (zS)∧w'.cell? ⟨N,3,none⟩=some (zS)∧w'.cell? ⟨q,0,none⟩=some (.string (bs l2))∧w'.cell? ⟨q,1,none⟩=some (.bool true) from fun w' h=>⟨cell_of_row _ _ 0 _ _ _ h.row,cell_of_row _ _ 1 _ _ _ h.row,cell_of_row _ _ 2 _ _ _ h.row,cell_of_row _ _ 3 _ _ _ h.row,h.tk.c0,h.tk.c1⟩)
    refine wp_region_T (fun w':World=>w'.cell? ⟨N,0,none⟩=some (.int .u8 kd)∧w'.cell? ⟨N,1,none⟩=some (zS)∧w'.cell? ⟨N,2,none⟩=some (zS)∧w'.cell? ⟨N,3,none⟩=some (zS)∧w'.cell? ⟨q,0,none⟩=some (.string (bs l2))∧w'.cell? ⟨q,1,none⟩=some (.bool true)) 11 (by kernel_rfl) (by kernel_rfl) ?_
    have hS:=HKP.out wr.drew (HSF.out.below (Below.refl _ _).drew)
    refine take_T 0 45 (.agg #[.int .u8 kd,zS,zS,zS]) rfl (by rfl) (by kernel_rfl) (by decide) (by kernel_rfl) (by kernel_rfl) (by kernel_rfl) (fun _ _ _ h=>h) (Or.inl ⟨by rfl,fun w' hSw=>by obtain⟨s0,s1,s2,s3,s4,s5⟩:=hSw;go_simp⟩) hS ?_
    simp only [Gb1a,Gb1b,Gb1c]
    refine take_T 1 46 (.pointer (some ⟨q,1,none⟩)) rfl (by rfl) (by kernel_rfl) (by decide) (by kernel_rfl) (by kernel_rfl) (by kernel_rfl) (fun _ _ _ h=>h) (Or.inl ⟨by rfl,fun w' hSw=>by obtain⟨s0,s1,s2,s3,s4,s5⟩:=hSw;go_simp⟩) hS ?_
    simp only [Gb1a,Gb1b,Gb1c]
    refine take_T 2 47 (.bool true) rfl (by rfl) (by kernel_rfl) (by decide) (by kernel_rfl) (by kernel_rfl) (by kernel_rfl) (fun _ _ _ h=>h) (Or.inl ⟨by rfl,fun w' hSw=>by obtain⟨s0,s1,s2,s3,s4,s5⟩:=hSw;go_simp⟩) hS ?_
    simp only [Gb1a,Gb1b,Gb1c]
    refine take_T 3 48 (.bool false) rfl (by rfl) (by kernel_rfl) (by decide) (by kernel_rfl) (by kernel_rfl) (by kernel_rfl) (fun _ _ _ h=>h) (Or.inl ⟨by rfl,fun w' hSw=>by obtain⟨s0,s1,s2,s3,s4,s5⟩:=hSw;go_simp⟩) hS ?_
    simp only [Gb1a,Gb1b,Gb1c]
    refine take_T 4 49 (.bool false) rfl (by rfl) (by kernel_rfl) (by decide) (by kernel_rfl) (by kernel_rfl) (by kernel_rfl) (fun _ _ _ h=>h) (Or.inl ⟨by rfl,fun w' hSw=>by obtain⟨s0,s1,s2,s3,s4,s5⟩:=hSw;go_simp⟩) hS ?_
    simp only [Gb1a,Gb1b,Gb1c]
    refine take_T 5 50 undef rfl (by rfl) (by kernel_rfl) (by decide) (by kernel_rfl) (by kernel_rfl) (by kernel_rfl) (fun _ _ _ h=>h) (Or.inr ⟨by rfl,rfl⟩) hS ?_
    simp only [Gb1a,Gb1b,Gb1c]
    refine take_T 6 51 undef rfl (by rfl) (by kernel_rfl) (by decide) (by kernel_rfl) (by kernel_rfl) (by kernel_rfl) (fun _ _ _ h=>h) (Or.inr ⟨by rfl,rfl⟩) hS ?_
    simp only [Gb1a,Gb1b,Gb1c]
    refine take_T 7 52 undef rfl (by rfl) (by kernel_rfl) (by decide) (by kernel_rfl) (by kernel_rfl) (by kernel_rfl) (fun _ _ _ h=>h) (Or.inr ⟨by rfl,rfl⟩) hS ?_
    simp only [Gb1a,Gb1b,Gb1c]
    refine take_T 8 53 undef rfl (by rfl) (by kernel_rfl) (by decide) (by kernel_rfl) (by kernel_rfl) (by kernel_rfl) (fun _ _ _ h=>h) (Or.inr ⟨by rfl,rfl⟩) hS ?_
    simp only [Gb1a,Gb1b,Gb1c]
    refine take_T 9 54 (.bool false) rfl (by rfl) (by kernel_rfl) (by decide) (by kernel_rfl) (by kernel_rfl) (by kernel_rfl) (fun _ _ _ h=>h) (Or.inl ⟨by rfl,fun w' hSw=>by obtain⟨s0,s1,s2,s3,s4,s5⟩:=hSw;go_simp⟩) hS ?_
    simp only [Gb1a,Gb1b,Gb1c]
    have HS9:=hid (show TkStI w q N kd (zS) [] l2 true wr.drew from HSF.out.below (Below.refl _ _).drew)
    refine only_T 10 rfl (by kernel_rfl) (by decide) (by rfl) (fun K hK=>?_)
    refine wp_store_row 31 (.tmp 2) (.tmp 45) rfl w.heap.size #[.int .u8 kd,zS,zS,zS] rfl rfl 31 #[.int .u8 0,zS,zS,zS] HS9.out.res (by kernel_rfl) rfl HONE.out ?_
    obtain⟨hown,hrow9⟩:=HS9.out.out HND.out
    have HOWN:=hid hown
    have HROW9:=hid hrow9
    have hS2:(wr.drew.setRow w.heap.size #[.int .u8 kd,zS,zS,zS]).cell? ⟨N,0,none⟩=some (.int .u8 kd)∧(wr.drew.setRow w.heap.size #[.int .u8 kd,zS,zS,zS]).cell? ⟨N,1,none⟩=some (zS)∧(wr.drew.setRow w.heap.size #[.int .u8 kd,zS,zS,zS]).cell? ⟨N,2,none⟩=some (zS)∧(wr.drew.setRow w.heap.size #[.int .u8 kd,zS,zS,zS]).cell? ⟨N,3,none⟩=some (zS)∧(wr.drew.setRow w.heap.size #[.int .u8 kd,zS,zS,zS]).cell? ⟨q,0,none⟩=some (.string (bs l2))∧(wr.drew.setRow w.heap.size #[.int .u8 kd,zS,zS,zS]).cell? ⟨q,1,none⟩=some (.bool true):=by
     have hs:=grown_setRow wr.drew w.heap.size #[.int .u8 kd,zS,zS,zS]
     have rN:=(hs.block N (row_lt HS9.out.row) (fun e=>Nat.ne_of_lt HS9.out.n1 (Option.some.inj e).symm)).trans HS9.out.row
     have rq:=(hs.block q HS9.out.tk.lt (fun e=>Nat.ne_of_lt HS9.out.q1 (Option.some.inj e).symm)).trans HS9.out.tk
     exact⟨cell_of_row _ _ 0 _ _ _ rN,cell_of_row _ _ 1 _ _ _ rN,cell_of_row _ _ 2 _ _ _ rN,cell_of_row _ _ 3 _ _ _ rN,cell_of_row _ _ 0 _ _ _ rq,cell_of_row _ _ 1 _ _ _ rq⟩
    refine hK.out _ _ hS2 ?_
    clear hK K
    try simp only [Act.put,Gb1a,Gb1b,Gb1c]
    clear hS hS2 hown hrow9
    generalize World.setRow _ _ _=wz at *
    refine done_T (by kernel_rfl) ?_
    simp only [List.drop_succ_cons,List.drop_zero]
    go_wp2_with fail
    rw [Exit.noGoto_ret]
    refine bodyPost_ret (v:=.tuple #[.agg #[.int .u8 kd,zS,zS,zS],.bool false]) (results_row2 rfl _ _ w.heap.size 31 #[.int .u8 kd,zS,zS,zS] (0,0) _ rfl HROW9.out Tryz.underlying31 rfl (by kernel_rfl) _ rfl) rfl ?_
    exact⟨_,by rw [HR2.out],HOWN.out⟩
  ·have HSX:=hid (Hid.out hst)
   clear hst
   have HONE:=hid (show (#[.int .u8 kd,zS,zS,zS]:Array Value).all (·.oneCell')=true from four_cells _ _ _ _ rfl rfl rfl rfl)
   have HLE:=HM2
   cases b2
   ·go_wp2_with fail
    have HTR:=hid (show ∀ w',Calls Tryz.prog 154 #[.string (bs l2),.string ⟨#[0]⟩] w' fun e w2=>e=.returned (.string (bs (Lib.trimB l2 0)))∧(w2=w'∨w2=w'.drew) from fun w'=>Tryz.strings_Trim_one (bs l2) 0 (by decide) w' (by have:=HLE.out;unfold maxLen at this;omega))
    have HND:=hid (show (tkN s.data.toList).1=⟨kd,[],[],[]⟩ by rw [HT.out])
    by_cases hz:allz l2=true
    ·have HR2:=hid (show (tkN s.data.toList).2=true by rw [HT.out];show (!false&&allz l2)=true;rw [hz];rfl)
     have hz1:(bs (Lib.trimB l2 0)).toList=[]:=str_nil (by rw [bs_size,(trimB_nil l2).2 hz];rfl)
     have hz2:(bs (Lib.trimB l2 0)).toList.isEmpty=true:=by rw [hz1];rfl
     clear hz
     have HSF:=hid (HSX.out)
     have HKP:=hid (show ∀ w':World,TkStI w q N kd (zS) [] l2 false w'→w'.cell? ⟨N,0,none⟩=some (.int .u8 kd)∧w'.cell? ⟨N,1,none⟩=some (zS)∧w'.cell? ⟨N,2,none⟩=some (zS)∧w'.cell? ⟨N,3,none⟩=some (zS)∧w'.cell? ⟨q,0,none⟩=some (.string (bs l2))∧w'.cell? ⟨q,1,none⟩=some (.bool false) from fun w' h=>⟨cell_of_row _ _ 0 _ _ _ h.row,cell_of_row _ _ 1 _ _ _ h.row,cell_of_row _ _ 2 _ _ _ h.row,cell_of_row _ _ 3 _ _ _ h.row,h.tk.c0,h.tk.c1⟩)
     refine wp_region_T (fun w':World=>w'.cell? ⟨N,0,none⟩=some (.int .u8 kd)∧w'.cell? ⟨N,1,none⟩=some (zS)∧w'.cell? ⟨N,2,none⟩=some (zS)∧w'.cell? ⟨N,3,none⟩=some (zS)∧w'.cell? ⟨q,0,none⟩=some (.string (bs l2))∧w'.cell? ⟨q,1,none⟩=some (.bool false)) 11 (by kernel_rfl) (by kernel_rfl) ?_
     have hS:=HKP.out wr.drew (HSF.out.below (Below.refl _ _).drew)
     refine take_T 0 45 (.agg #[.int .u8 kd,zS,zS,zS]) rfl (by rfl) (by kernel_rfl) (by decide) (by kernel_rfl) (by kernel_rfl) (by kernel_rfl) (fun _ _ _ h=>h) (Or.inl ⟨by rfl,fun w' hSw=>by obtain⟨s0,s1,s2,s3,s4,s5⟩:=hSw;go_simp⟩) hS ?_
     simp only [Gb1a,Gb1b,Gb1c]
     refine take_T 1 46 (.pointer (some ⟨q,1,none⟩)) rfl (by rfl) (by kernel_rfl) (by decide) (by kernel_rfl) (by kernel_rfl) (by kernel_rfl) (fun _ _ _ h=>h) (Or.inl ⟨by rfl,fun w' hSw=>by obtain⟨s0,s1,s2,s3,s4,s5⟩:=hSw;go_simp⟩) hS ?_
     simp only [Gb1a,Gb1b,Gb1c]
     refine take_T 2 47 (.bool false) rfl (by rfl) (by kernel_rfl) (by decide) (by kernel_rfl) (by kernel_rfl) (by kernel_rfl) (fun _ _ _ h=>h) (Or.inl ⟨by rfl,fun w' hSw=>by obtain⟨s0,s1,s2,s3,s4,s5⟩:=hSw;go_simp⟩) hS ?_
     simp only [Gb1a,Gb1b,Gb1c]
     refine take_T 3 48 (.bool true) rfl (by rfl) (by kernel_rfl) (by decide) (by kernel_rfl) (by kernel_rfl) (by kernel_rfl) (fun _ _ _ h=>h) (Or.inl ⟨by rfl,fun w' hSw=>by obtain⟨s0,s1,s2,s3,s4,s5⟩:=hSw;go_simp⟩) hS ?_
     simp only [Gb1a,Gb1b,Gb1c]
     refine take_T 4 49 (.bool true) rfl (by rfl) (by kernel_rfl) (by decide) (by kernel_rfl) (by kernel_rfl) (by kernel_rfl) (fun _ _ _ h=>h) (Or.inl ⟨by rfl,fun w' hSw=>by obtain⟨s0,s1,s2,s3,s4,s5⟩:=hSw;go_simp⟩) hS ?_
     simp only [Gb1a,Gb1b,Gb1c]
     refine take_T 5 50 (.pointer (some ⟨q,0,none⟩)) rfl (by rfl) (by kernel_rfl) (by decide) (by kernel_rfl) (by kernel_rfl) (by kernel_rfl) (fun _ _ _ h=>h) (Or.inl ⟨by rfl,fun w' hSw=>by obtain⟨s0,s1,s2,s3,s4,s5⟩:=hSw;go_simp⟩) hS ?_
     simp only [Gb1a,Gb1b,Gb1c]
     refine take_T 6 51 (.string (bs l2)) rfl (by rfl) (by kernel_rfl) (by decide) (by kernel_rfl) (by kernel_rfl) (by kernel_rfl) (fun _ _ _ h=>h) (Or.inl ⟨by rfl,fun w' hSw=>by obtain⟨s0,s1,s2,s3,s4,s5⟩:=hSw;go_simp⟩) hS ?_
     simp only [Gb1a,Gb1b,Gb1c]
     refine only_T 7 rfl (by kernel_rfl) (by decide) (by rfl) (fun K hK=>?_)
     go_wp2_with fail
     go_at_call 154
     refine (HTR.out _).mono ?_
     rintro e w9 ⟨rfl,hw9⟩
     have HS9:=hid (show TkStI w q N kd (zS) [] l2 false w9 from by
      rcases hw9 with rfl | rfl
      ·exact HSF.out.below (Below.refl _ _).drew
      ·exact (HSF.out.below (Below.refl _ _).drew).below (Below.refl _ _).drew)
     clear hw9
     have hS2:=HKP.out _ HS9.out
     refine hK.out _ _ hS2 ?_
     clear hK K
     try simp only [Act.put,Gb1a,Gb1b,Gb1c]
     clear hS
     have hS:=hS2
     clear hS2
     refine take_T 8 53 (.bool true) rfl (by rfl) (by kernel_rfl) (by decide) (by kernel_rfl) (by kernel_rfl) (by kernel_rfl) (fun _ _ _ h=>h) (Or.inl ⟨by rfl,fun w' hSw=>by obtain⟨s0,s1,s2,s3,s4,s5⟩:=hSw;go_simp⟩) hS ?_
     simp only [Gb1a,Gb1b,Gb1c]
     refine take_T 9 54 (.bool true) rfl (by rfl) (by kernel_rfl) (by decide) (by kernel_rfl) (by kernel_rfl) (by kernel_rfl) (fun _ _ _ h=>h) (Or.inl ⟨by rfl,fun w' hSw=>by obtain⟨s0,s1,s2,s3,s4,s5⟩:=hSw;go_simp⟩) hS ?_
     simp only [Gb1a,Gb1b,Gb1c]
     refine only_T 10 rfl (by kernel_rfl) (by decide) (by rfl) (fun K hK=>?_)
     refine wp_store_row 31 (.tmp 2) (.tmp 45) rfl w.heap.size #[.int .u8 kd,zS,zS,zS] rfl rfl 31 #[.int .u8 0,zS,zS,zS] HS9.out.res (by kernel_rfl) rfl HONE.out ?_
     obtain⟨hown,hrow9⟩:=HS9.out.out HND.out
     have HOWN:=hid hown
     have HROW9:=hid hrow9
     have hS2:(w9.setRow w.heap.size #[.int .u8 kd,zS,zS,zS]).cell? ⟨N,0,none⟩=some (.int .u8 kd)∧(w9.setRow w.heap.size #[.int .u8 kd,zS,zS,zS]).cell? ⟨N,1,none⟩=some (zS)∧(w9.setRow w.heap.size #[.int .u8 kd,zS,zS,zS]).cell? ⟨N,2,none⟩=some (zS)∧(w9.setRow w.heap.size #[.int .u8 kd,zS,zS,zS]).cell? ⟨N,3,none⟩=some (zS)∧(w9.setRow w.heap.size #[.int .u8 kd,zS,zS,zS]).cell? ⟨q,0,none⟩=some (.string (bs l2))∧(w9.setRow w.heap.size #[.int .u8 kd,zS,zS,zS]).cell? ⟨q,1,none⟩=some (.bool false):=by
      have hs:=grown_setRow w9 w.heap.size #[.int .u8 kd,zS,zS,zS]
      have rN:=(hs.block N (row_lt HS9.out.row) (fun e=>Nat.ne_of_lt HS9.out.n1 (Option.some.inj e).symm)).trans HS9.out.row
      have rq:=(hs.block q HS9.out.tk.lt (fun e=>Nat.ne_of_lt HS9.out.q1 (Option.some.inj e).symm)).trans HS9.out.tk
      exact⟨cell_of_row _ _ 0 _ _ _ rN,cell_of_row _ _ 1 _ _ _ rN,cell_of_row _ _ 2 _ _ _ rN,cell_of_row _ _ 3 _ _ _ rN,cell_of_row _ _ 0 _ _ _ rq,cell_of_row _ _ 1 _ _ _ rq⟩
     refine hK.out _ _ hS2 ?_
     clear hK K
     try simp only [Act.put,Gb1a,Gb1b,Gb1c]
     clear hS hS2 hown hrow9
     generalize World.setRow _ _ _=wz at *
     refine done_T (by kernel_rfl) ?_
     simp only [List.drop_succ_cons,List.drop_zero]
     go_wp2_with fail
     rw [Exit.noGoto_ret]
     refine bodyPost_ret (v:=.tuple #[.agg #[.int .u8 kd,zS,zS,zS],.bool true]) (results_row2 rfl _ _ w.heap.size 31 #[.int .u8 kd,zS,zS,zS] (0,0) _ rfl HROW9.out Tryz.underlying31 rfl (by kernel_rfl) _ rfl) rfl ?_
     exact⟨_,by rw [HR2.out],HOWN.out⟩
    ·have hz0:(bs (Lib.trimB l2 0)).size≠0:=by
      rw [bs_size];intro h;exact hz ((trimB_nil l2).1 (List.eq_nil_of_length_eq_zero h))
     have HR2:=hid (show (tkN s.data.toList).2=false by rw [HT.out];show (!false&&allz l2)=false;rw [Bool.eq_false_iff.2 hz];rfl)
     have hz1:=str_empty hz0
     have hz2:=str_nonil hz0
     clear hz hz0
     have HSF:=hid (HSX.out)
     have HKP:=hid (show ∀ w':World,TkStI w q N kd (zS) [] l2 false w'→w'.cell? ⟨N,0,none⟩=some (.int .u8 kd)∧w'.cell? ⟨N,1,none⟩=some (zS)∧w'.cell? ⟨N,2,none⟩=some (zS)∧w'.cell? ⟨N,3,none⟩=some (zS)∧w'.cell? ⟨q,0,none⟩=some (.string (bs l2))∧w'.cell? ⟨q,1,none⟩=some (.bool false) from fun w' h=>⟨cell_of_row _ _ 0 _ _ _ h.row,cell_of_row _ _ 1 _ _ _ h.row,cell_of_row _ _ 2 _ _ _ h.row,cell_of_row _ _ 3 _ _ _ h.row,h.tk.c0,h.tk.c1⟩)
     refine wp_region_T (fun w':World=>w'.cell? ⟨N,0,none⟩=some (.int .u8 kd)∧w'.cell? ⟨N,1,none⟩=some (zS)∧w'.cell? ⟨N,2,none⟩=some (zS)∧w'.cell? ⟨N,3,none⟩=some (zS)∧w'.cell? ⟨q,0,none⟩=some (.string (bs l2))∧w'.cell? ⟨q,1,none⟩=some (.bool false)) 11 (by kernel_rfl) (by kernel_rfl) ?_
     have hS:=HKP.out wr.drew (HSF.out.below (Below.refl _ _).drew)
     refine take_T 0 45 (.agg #[.int .u8 kd,zS,zS,zS]) rfl (by rfl) (by kernel_rfl) (by decide) (by kernel_rfl) (by kernel_rfl) (by kernel_rfl) (fun _ _ _ h=>h) (Or.inl ⟨by rfl,fun w' hSw=>by obtain⟨s0,s1,s2,s3,s4,s5⟩:=hSw;go_simp⟩) hS ?_
     simp only [Gb1a,Gb1b,Gb1c]
     refine take_T 1 46 (.pointer (some ⟨q,1,none⟩)) rfl (by rfl) (by kernel_rfl) (by decide) (by kernel_rfl) (by kernel_rfl) (by kernel_rfl) (fun _ _ _ h=>h) (Or.inl ⟨by rfl,fun w' hSw=>by obtain⟨s0,s1,s2,s3,s4,s5⟩:=hSw;go_simp⟩) hS ?_
     simp only [Gb1a,Gb1b,Gb1c]
     refine take_T 2 47 (.bool false) rfl (by rfl) (by kernel_rfl) (by decide) (by kernel_rfl) (by kernel_rfl) (by kernel_rfl) (fun _ _ _ h=>h) (Or.inl ⟨by rfl,fun w' hSw=>by obtain⟨s0,s1,s2,s3,s4,s5⟩:=hSw;go_simp⟩) hS ?_
     simp only [Gb1a,Gb1b,Gb1c]
     refine take_T 3 48 (.bool true) rfl (by rfl) (by kernel_rfl) (by decide) (by kernel_rfl) (by kernel_rfl) (by kernel_rfl) (fun _ _ _ h=>h) (Or.inl ⟨by rfl,fun w' hSw=>by obtain⟨s0,s1,s2,s3,s4,s5⟩:=hSw;go_simp⟩) hS ?_
     simp only [Gb1a,Gb1b,Gb1c]
     refine take_T 4 49 (.bool true) rfl (by rfl) (by kernel_rfl) (by decide) (by kernel_rfl) (by kernel_rfl) (by kernel_rfl) (fun _ _ _ h=>h) (Or.inl ⟨by rfl,fun w' hSw=>by obtain⟨s0,s1,s2,s3,s4,s5⟩:=hSw;go_simp⟩) hS ?_
     simp only [Gb1a,Gb1b,Gb1c]
     refine take_T 5 50 (.pointer (some ⟨q,0,none⟩)) rfl (by rfl) (by kernel_rfl) (by decide) (by kernel_rfl) (by kernel_rfl) (by kernel_rfl) (fun _ _ _ h=>h) (Or.inl ⟨by rfl,fun w' hSw=>by obtain⟨s0,s1,s2,s3,s4,s5⟩:=hSw;go_simp⟩) hS ?_
     simp only [Gb1a,Gb1b,Gb1c]
     refine take_T 6 51 (.string (bs l2)) rfl (by rfl) (by kernel_rfl) (by decide) (by kernel_rfl) (by kernel_rfl) (by kernel_rfl) (fun _ _ _ h=>h) (Or.inl ⟨by rfl,fun w' hSw=>by obtain⟨s0,s1,s2,s3,s4,s5⟩:=hSw;go_simp⟩) hS ?_
     simp only [Gb1a,Gb1b,Gb1c]
     refine only_T 7 rfl (by kernel_rfl) (by decide) (by rfl) (fun K hK=>?_)
     go_wp2_with fail
     go_at_call 154
     refine (HTR.out _).mono ?_
     rintro e w9 ⟨rfl,hw9⟩
     have HS9:=hid (show TkStI w q N kd (zS) [] l2 false w9 from by
      rcases hw9 with rfl | rfl
      ·exact HSF.out.below (Below.refl _ _).drew
      ·exact (HSF.out.below (Below.refl _ _).drew).below (Below.refl _ _).drew)
     clear hw9
     have hS2:=HKP.out _ HS9.out
     refine hK.out _ _ hS2 ?_
     clear hK K
     try simp only [Act.put,Gb1a,Gb1b,Gb1c]
     clear hS
     have hS:=hS2
     clear hS2
     refine take_T 8 53 (.bool false) rfl (by rfl) (by kernel_rfl) (by decide) (by kernel_rfl) (by kernel_rfl) (by kernel_rfl) (fun _ _ _ h=>h) (Or.inl ⟨by rfl,fun w' hSw=>by obtain⟨s0,s1,s2,s3,s4,s5⟩:=hSw;go_simp⟩) hS ?_
     simp only [Gb1a,Gb1b,Gb1c]
     refine take_T 9 54 (.bool false) rfl (by rfl) (by kernel_rfl) (by decide) (by kernel_rfl) (by kernel_rfl) (by kernel_rfl) (fun _ _ _ h=>h) (Or.inl ⟨by rfl,fun w' hSw=>by obtain⟨s0,s1,s2,s3,s4,s5⟩:=hSw;go_simp⟩) hS ?_
     simp only [Gb1a,Gb1b,Gb1c]
     refine only_T 10 rfl (by kernel_rfl) (by decide) (by rfl) (fun K hK=>?_)
     refine wp_store_row 31 (.tmp 2) (.tmp 45) rfl w.heap.size #[.int .u8 kd,zS,zS,zS] rfl rfl 31 #[.int .u8 0,zS,zS,zS] HS9.out.res (by kernel_rfl) rfl HONE.out ?_
     obtain⟨hown,hrow9⟩:=HS9.out.out HND.out
     have HOWN:=hid hown
     have HROW9:=hid hrow9
     have hS2:(w9.setRow w.heap.size #[.int .u8 kd,zS,zS,zS]).cell? ⟨N,0,none⟩=some (.int .u8 kd)∧(w9.setRow w.heap.size #[.int .u8 kd,zS,zS,zS]).cell? ⟨N,1,none⟩=some (zS)∧(w9.setRow w.heap.size #[.int .u8 kd,zS,zS,zS]).cell? ⟨N,2,none⟩=some (zS)∧(w9.setRow w.heap.size #[.int .u8 kd,zS,zS,zS]).cell? ⟨N,3,none⟩=some (zS)∧(w9.setRow w.heap.size #[.int .u8 kd,zS,zS,zS]).cell? ⟨q,0,none⟩=some (.string (bs l2))∧(w9.setRow w.heap.size #[.int .u8 kd,zS,zS,zS]).cell? ⟨q,1,none⟩=some (.bool false):=by
      have hs:=grown_setRow w9 w.heap.size #[.int .u8 kd,zS,zS,zS]
      have rN:=(hs.block N (row_lt HS9.out.row) (fun e=>Nat.ne_of_lt HS9.out.n1 (Option.some.inj e).symm)).trans HS9.out.row
      have rq:=(hs.block q HS9.out.tk.lt (fun e=>Nat.ne_of_lt HS9.out.q1 (Option.some.inj e).symm)).trans HS9.out.tk
      exact⟨cell_of_row _ _ 0 _ _ _ rN,cell_of_row _ _ 1 _ _ _ rN,cell_of_row _ _ 2 _ _ _ rN,cell_of_row _ _ 3 _ _ _ rN,cell_of_row _ _ 0 _ _ _ rq,cell_of_row _ _ 1 _ _ _ rq⟩
     refine hK.out _ _ hS2 ?_
     clear hK K
     try simp only [Act.put,Gb1a,Gb1b,Gb1c]
     clear hS hS2 hown hrow9
     generalize World.setRow _ _ _=wz at *
     refine done_T (by kernel_rfl) ?_
     simp only [List.drop_succ_cons,List.drop_zero]
     go_wp2_with fail
     rw [Exit.noGoto_ret]
     refine bodyPost_ret (v:=.tuple #[.agg #[.int .u8 kd,zS,zS,zS],.bool false]) (results_row2 rfl _ _ w.heap.size 31 #[.int .u8 kd,zS,zS,zS] (0,0) _ rfl HROW9.out Tryz.underlying31 rfl (by kernel_rfl) _ rfl) rfl ?_
     exact⟨_,by rw [HR2.out],HOWN.out⟩
   ·go_wp2_with fail
    have HR2:=hid (show (tkN s.data.toList).2=false by rw [HT.out];rfl)
    have HND:=hid (show (tkN s.data.toList).1=⟨kd,[],[],[]⟩ by rw [HT.out])
    have HSF:=hid (HSX.out)
    have HKP:=hid (show ∀ w':World,TkStI w q N kd (zS) [] l2 true w'→w'.cell? ⟨N,0,none⟩=some (.int .u8 kd)∧w'.cell? ⟨N,1,none⟩=some (zS)∧w'.cell? ⟨N,2,none⟩=some (zS)∧w'.cell? ⟨N,3,none⟩=some (zS)∧w'.cell? ⟨q,0,none⟩=some (.string (bs l2))∧w'.cell? ⟨q,1,none⟩=some (.bool true) from fun w' h=>⟨cell_of_row _ _ 0 _ _ _ h.row,cell_of_row _ _ 1 _ _ _ h.row,cell_of_row _ _ 2 _ _ _ h.row,cell_of_row _ _ 3 _ _ _ h.row,h.tk.c0,h.tk.c1⟩)
    refine wp_region_T (fun w':World=>w'.cell? ⟨N,0,none⟩=some (.int .u8 kd)∧w'.cell? ⟨N,1,none⟩=some (zS)∧w'.cell? ⟨N,2,none⟩=some (zS)∧w'.cell? ⟨N,3,none⟩=some (zS)∧w'.cell? ⟨q,0,none⟩=some (.string (bs l2))∧w'.cell? ⟨q,1,none⟩=some (.bool true)) 11 (by kernel_rfl) (by kernel_rfl) ?_
    have hS:=HKP.out wr.drew (HSF.out.below (Below.refl _ _).drew)
    refine take_T 0 45 (.agg #[.int .u8 kd,zS,zS,zS]) rfl (by rfl) (by kernel_rfl) (by decide) (by kernel_rfl) (by kernel_rfl) (by kernel_rfl) (fun _ _ _ h=>h) (Or.inl ⟨by rfl,fun w' hSw=>by obtain⟨s0,s1,s2,s3,s4,s5⟩:=hSw;go_simp⟩) hS ?_
    simp only [Gb1a,Gb1b,Gb1c]
    refine take_T 1 46 (.pointer (some ⟨q,1,none⟩)) rfl (by rfl) (by kernel_rfl) (by decide) (by kernel_rfl) (by kernel_rfl) (by kernel_rfl) (fun _ _ _ h=>h) (Or.inl ⟨by rfl,fun w' hSw=>by obtain⟨s0,s1,s2,s3,s4,s5⟩:=hSw;go_simp⟩) hS ?_
    simp only [Gb1a,Gb1b,Gb1c]
    refine take_T 2 47 (.bool true) rfl (by rfl) (by kernel_rfl) (by decide) (by kernel_rfl) (by kernel_rfl) (by kernel_rfl) (fun _ _ _ h=>h) (Or.inl ⟨by rfl,fun w' hSw=>by obtain⟨s0,s1,s2,s3,s4,s5⟩:=hSw;go_simp⟩) hS ?_
    simp only [Gb1a,Gb1b,Gb1c]
    refine take_T 3 48 (.bool false) rfl (by rfl) (by kernel_rfl) (by decide) (by kernel_rfl) (by kernel_rfl) (by kernel_rfl) (fun _ _ _ h=>h) (Or.inl ⟨by rfl,fun w' hSw=>by obtain⟨s0,s1,s2,s3,s4,s5⟩:=hSw;go_simp⟩) hS ?_
    simp only [Gb1a,Gb1b,Gb1c]
    refine take_T 4 49 (.bool false) rfl (by rfl) (by kernel_rfl) (by decide) (by kernel_rfl) (by kernel_rfl) (by kernel_rfl) (fun _ _ _ h=>h) (Or.inl ⟨by rfl,fun w' hSw=>by obtain⟨s0,s1,s2,s3,s4,s5⟩:=hSw;go_simp⟩) hS ?_
    simp only [Gb1a,Gb1b,Gb1c]
    refine take_T 5 50 undef rfl (by rfl) (by kernel_rfl) (by decide) (by kernel_rfl) (by kernel_rfl) (by kernel_rfl) (fun _ _ _ h=>h) (Or.inr ⟨by rfl,rfl⟩) hS ?_
    simp only [Gb1a,Gb1b,Gb1c]
    refine take_T 6 51 undef rfl (by rfl) (by kernel_rfl) (by decide) (by kernel_rfl) (by kernel_rfl) (by kernel_rfl) (fun _ _ _ h=>h) (Or.inr ⟨by rfl,rfl⟩) hS ?_
    simp only [Gb1a,Gb1b,Gb1c]
    refine take_T 7 52 undef rfl (by rfl) (by kernel_rfl) (by decide) (by kernel_rfl) (by kernel_rfl) (by kernel_rfl) (fun _ _ _ h=>h) (Or.inr ⟨by rfl,rfl⟩) hS ?_
    simp only [Gb1a,Gb1b,Gb1c]
    refine take_T 8 53 undef rfl (by rfl) (by kernel_rfl) (by decide) (by kernel_rfl) (by kernel_rfl) (by kernel_rfl) (fun _ _ _ h=>h) (Or.inr ⟨by rfl,rfl⟩) hS ?_
    simp only [Gb1a,Gb1b,Gb1c]
    refine take_T 9 54 (.bool false) rfl (by rfl) (by kernel_rfl) (by decide) (by kernel_rfl) (by kernel_rfl) (by kernel_rfl) (fun _ _ _ h=>h) (Or.inl ⟨by rfl,fun w' hSw=>by obtain⟨s0,s1,s2,s3,s4,s5⟩:=hSw;go_simp⟩) hS ?_
    simp only [Gb1a,Gb1b,Gb1c]
    have HS9:=hid (show TkStI w q N kd (zS) [] l2 true wr.drew from HSF.out.below (Below.refl _ _).drew)
    refine only_T 10 rfl (by kernel_rfl) (by decide) (by rfl) (fun K hK=>?_)
    refine wp_store_row 31 (.tmp 2) (.tmp 45) rfl w.heap.size #[.int .u8 kd,zS,zS,zS] rfl rfl 31 #[.int .u8 0,zS,zS,zS] HS9.out.res (by kernel_rfl) rfl HONE.out ?_
    obtain⟨hown,hrow9⟩:=HS9.out.out HND.out
    have HOWN:=hid hown
    have HROW9:=hid hrow9
    have hS2:(wr.drew.setRow w.heap.size #[.int .u8 kd,zS,zS,zS]).cell? ⟨N,0,none⟩=some (.int .u8 kd)∧(wr.drew.setRow w.heap.size #[.int .u8 kd,zS,zS,zS]).cell? ⟨N,1,none⟩=some (zS)∧(wr.drew.setRow w.heap.size #[.int .u8 kd,zS,zS,zS]).cell? ⟨N,2,none⟩=some (zS)∧(wr.drew.setRow w.heap.size #[.int .u8 kd,zS,zS,zS]).cell? ⟨N,3,none⟩=some (zS)∧(wr.drew.setRow w.heap.size #[.int .u8 kd,zS,zS,zS]).cell? ⟨q,0,none⟩=some (.string (bs l2))∧(wr.drew.setRow w.heap.size #[.int .u8 kd,zS,zS,zS]).cell? ⟨q,1,none⟩=some (.bool true):=by
     have hs:=grown_setRow wr.drew w.heap.size #[.int .u8 kd,zS,zS,zS]
     have rN:=(hs.block N (row_lt HS9.out.row) (fun e=>Nat.ne_of_lt HS9.out.n1 (Option.some.inj e).symm)).trans HS9.out.row
     have rq:=(hs.block q HS9.out.tk.lt (fun e=>Nat.ne_of_lt HS9.out.q1 (Option.some.inj e).symm)).trans HS9.out.tk
     exact⟨cell_of_row _ _ 0 _ _ _ rN,cell_of_row _ _ 1 _ _ _ rN,cell_of_row _ _ 2 _ _ _ rN,cell_of_row _ _ 3 _ _ _ rN,cell_of_row _ _ 0 _ _ _ rq,cell_of_row _ _ 1 _ _ _ rq⟩
    refine hK.out _ _ hS2 ?_
    clear hK K
    try simp only [Act.put,Gb1a,Gb1b,Gb1c]
    clear hS hS2 hown hrow9
    generalize World.setRow _ _ _=wz at *
    refine done_T (by kernel_rfl) ?_
    simp only [List.drop_succ_cons,List.drop_zero]
    go_wp2_with fail
    rw [Exit.noGoto_ret]
    refine bodyPost_ret (v:=.tuple #[.agg #[.int .u8 kd,zS,zS,zS],.bool false]) (results_row2 rfl _ _ w.heap.size 31 #[.int .u8 kd,zS,zS,zS] (0,0) _ rfl HROW9.out Tryz.underlying31 rfl (by kernel_rfl) _ rfl) rfl ?_
    exact⟨_,by rw [HR2.out],HOWN.out⟩
theorem taken_any (s:ByteArray) (h4:s.size≤maxLen) (w:World):Calls Tryz.prog 121 #[.string s] w (TkPost s.data.toList w):=by
 by_cases h1:(tkNum 1 (s.data.toList,false)).1=1
 ·exact takenI s h4 h1 w
 ·by_cases h2:(tkNum 1 (s.data.toList,false)).1=2
  ·exact takenK s h4 h2 w
  ·by_cases h3:(tkNum 1 (s.data.toList,false)).1=3
   ·exact takenV s h4 h3 w
   ·exact takenZ s h4 ⟨h1,h2,h3⟩ w
end Go.Proofs.YtlpejbbmemhloaaGreatDoor.Nd
