import Derived.Test.YtlpejbbmemhloaaGreatDoorLs
import Derived.Test.YtlpejbbmemhloaaGreatDoorNdN
import Derived.Test.YtlpejbbmemhloaaGreatDoorJpB
import Derived.Test.YtlpejbbmemhloaaGreatDoorRgG
import Derived.Test.YtlpejbbmemhloaaGreatDoorRgT
import Derived.Test.YtlpejbbmemhloaaGreatDoorNdB
import Derived.Test.YtlpejbbmemhloaaGreatDoorNdK
import Derived.Test.YtlpejbbmemhloaaGreatDoorNdC
import Derived.Test.YtlpejbbmemhloaaGreatDoorSum
import Derived.Test.YtlpejbbmemhloaaGreatDoorGb1
import Derived.Deep.OwnRows
import Derived.Lib.BufferWrite
import Derived.Laws.CopyOwn
import Derived.BigQuiet
set_option maxRecDepth 100000
namespace Go.Proofs.YtlpejbbmemhloaaGreatDoor.Pk
open Lib (hid)
set_option linter.unusedVariables false
open Go.ChangeShapes Go.WideShapes Go.ChangeAt Go.RowKit
theorem conv_one (W:World) (b:UInt8):(convert 139 9 (.slice (some ⟨W.heap.size,0,none⟩) 1 1)).run Tryz.prog (W.alloc (.cells #[.int .u8 (b.toNat:Int)] 5))=.ok (.string (bs [b])) (W.alloc (.cells #[.int .u8 (b.toNat:Int)] 5)) :=
 run_convert_bytes_back (P:=Tryz.prog) (W.alloc (.cells #[.int .u8 (b.toNat:Int)] 5)) 139 9 5 ⟨W.heap.size,0,none⟩ 1 [b] Tryz.underlying139 Tryz.underlying5 Tryz.underlying9 (by
  intro j hj
  match j,hj with
  | 0,hj=>simp [Addr.add])
theorem be_cons (i n:Nat):UInt8.ofNat (n / 256 ^ i)::be i n=be (i+1) n:=by
 induction i generalizing n with
 | zero=>simp [be]
 | succ i ih =>
  rw [be,← List.cons_append,be,← ih (n / 256),Nat.div_div_eq_div_mul,Nat.pow_succ,Nat.mul_comm]
theorem div_step (n i:Nat) (h0:n<18446744073709551616):IntKind.u64.wrap (((n:Int) / 256 ^ i).tdiv 256)=(n:Int) / 256 ^ i / 256:=by
 have e:(n:Int) / 256 ^ i=((n / 256 ^ i:Nat):Int):=by simp
 have hl:n / 256 ^ i≤n:=Nat.div_le_self _ _
 rw [e]
 clear e
 generalize n / 256 ^ i=q at *
 rw [Int.tdiv_eq_ediv_of_nonneg (by omega),IntKind.wrap_u64]
 omega
theorem ref_bytes (n k:Nat) (w:World) (h0:n<18446744073709551616) (h2:k≤8) :
  Calls Tryz.prog 129 #[.int .u64 n,.int .i64 k] w fun e w'=>e=.returned (.string (bs (be k n)))∧Below w.heap.size w w':=by
 go_enter Tryz.func129,Tryz.ntmps129
 go_wp2
 go_loopw [0,5,6] (fun a t v wr=>∃ i:Nat,i≤k∧v=.int .i64 i∧a=.int .u64 (n / 256 ^ i:Nat)∧t=.string (bs (be i n))∧Below w.heap.size w wr) (fun _ _ v _=>k-(intOf v).toNat)
 case atStart=>exact⟨0,Nat.zero_le _,rfl,by simp,rfl,Below.refl _ _⟩
 case round =>
  obtain⟨i,hi,rfl,rfl,rfl,hbel⟩:=hrel
  by_cases hlt:i<k
  ·have hcv:=conv_one wr (UInt8.ofNat (n / 256 ^ i))
   have ev:((UInt8.ofNat (n / 256 ^ i)).toNat:Int)=(n:Int) / 256 ^ i%256:=by simp
   rw [ev] at hcv
   have hz1:(bs [UInt8.ofNat (n / 256 ^ i)]).size≤1:=by rw [bs_size];exact Nat.le_refl _
   have hz2:(bs (be i n)).size≤8:=by rw [bs_size,be_length];omega
   have hb':=hbel.alloc (hbel.size) (.cells #[.int .u8 ((n:Int) / 256 ^ i%256)] 5)
   clear ev
   go_wp2
   go_roundw
   case rel=>exact⟨i+1,by omega,by go_num,by rw [Nat.pow_succ,← Nat.div_div_eq_div_mul];simp;exact div_step n i h0,by rw [bs_append,List.singleton_append,be_cons],hb'⟩
   case measure=>simp [intOf];omega
  ·obtain rfl:i=k:=by omega
   go_wp2
   go_ret
   exact⟨rfl,hbel⟩
theorem ref_take_any (s:ByteArray) (k:Int) (w:World) (h4:s.size≤maxLen) :
  Calls Tryz.prog 123 #[.string s,.int .i64 k] w fun e w'=>e=.returned (.tuple #[.int .u64 (tN s k),.string (tR s k),.int .i64 (tE s k)])∧Below w.heap.size w w':=by
 unfold maxLen at h4
 by_cases hk:1≤k∧k≤8
 ·obtain⟨m,rfl⟩:∃ m:Nat,k=m:=⟨k.toNat,by omega⟩
  have h1:1≤m:=by omega
  have h2:m≤8:=by omega
  have hbig:decide (8<(m:Int))=false:=by simp;omega
  by_cases hn:m≤s.size
  ·have hc:1≤(m:Int)∧(m:Int)≤8∧(m:Int).toNat≤s.size:=⟨hk.1,hk.2,by simpa using hn⟩
   have HC:=hid hc
   have hd:decide (s.size<m)=false:=by simp;omega
   clear hc hk
   go_enter Tryz.func123,Tryz.ntmps123
   go_wp2
   go_loop [7,8] (fun t v=>∃ i:Nat,i≤m∧v=.int .i64 i∧t=.int .u64 (num (s.data.toList.take i):Nat)) (fun _ v=>m-(intOf v).toNat)
   case atStart=>exact⟨0,Nat.zero_le _,rfl,rfl⟩
   case round =>
    obtain⟨i,hi,rfl,rfl⟩:=hrel
    by_cases hlt:i<m
    ·have hb:=num_small s.data.toList i (by omega)
     have hx:i<s.size:=by omega
     have hb2:=(s[i]).toNat_lt
     have HS:Hid (num (s.data.toList.take (i+1))=num (s.data.toList.take i)*256+(s[i]).toNat):=by
      rw [take_snoc s i hx,num_snoc]
      exact rfl
     go_wp2
     go_round
     case rel=>exact⟨i+1,by omega,by go_num,by rw [HS.out];go_num⟩
     case measure=>simp [intOf];omega
    ·obtain rfl:i=m:=by omega
     go_wp2
     go_quiet (fail)
     go_wp2
     go_ret3
     refine⟨ret3 ?_ ?_ ?_,⟨rfl,rfl,rfl,Nat.le_refl _,fun _ _=>rfl⟩⟩
     ·rw [tN,if_pos HC.out,Int.toNat_natCast]
     ·rw [tR,if_pos HC.out,Int.toNat_natCast]
     ·rw [tE,if_pos ⟨HC.out.1,HC.out.2.1⟩,if_pos HC.out.2.2]
  ·have hc:¬ (1≤(m:Int)∧(m:Int)≤8∧(m:Int).toNat≤s.size):=fun h=>hn (by simpa using h.2.2)
   have HC:=hid hc
   have HK:=hid hk
   clear hc hk
   have hd:decide (s.size<m)=true:=by simp;omega
   go_enter Tryz.func123,Tryz.ntmps123
   go_wp2
   go_ret3
   refine⟨ret3 ?_ ?_ ?_,Below.refl _ _⟩
   ·rw [tN,if_neg HC.out]
   ·rw [tR,if_neg HC.out];rfl
   ·rw [tE,if_pos HK.out,if_neg (by simpa using hn)]
 ·have hc:¬ (1≤k∧k≤8∧k.toNat≤s.size):=fun h=>hk ⟨h.1,h.2.1⟩
  have HC:=hid hc
  have HK:=hid hk
  by_cases h1:1≤k
  ·have h2:8<k:=by omega
   clear hk hc
   go_enter Tryz.func123,Tryz.ntmps123
   go_wp2
   go_ret3
   refine⟨ret3 ?_ ?_ ?_,Below.refl _ _⟩
   ·rw [tN,if_neg HC.out]
   ·rw [tR,if_neg HC.out];rfl
   ·rw [tE,if_neg HK.out]
  ·have h2:k<1:=by omega
   clear hk hc h1
   go_enter Tryz.func123,Tryz.ntmps123
   go_wp2
   go_ret3
   refine⟨ret3 ?_ ?_ ?_,Below.refl _ _⟩
   ·rw [tN,if_neg HC.out]
   ·rw [tR,if_neg HC.out];rfl
   ·rw [tE,if_neg HK.out]
theorem decFa {p:Prop} [Decidable p] (h:¬ p):decide p=false:=decide_eq_false h
theorem msb_hi (x:BitVec 32) (h:x.msb=true):2147483648≤vN x:=by
 rw [BitVec.msb_eq_decide,decide_eq_true_eq] at h
 unfold vN
 have:2147483648≤x.toNat:=h
 omega
theorem msb_lo (x:BitVec 32) (h:x.msb=false):vN x<2147483648:=by
 rw [BitVec.msb_eq_decide,decide_eq_false_iff_not] at h
 unfold vN
 have:¬ 2147483648≤x.toNat:=h
 omega
theorem rsum_any (s:ByteArray) (w:World) (hs:s.size≤281474976710656) :
  Calls Tryz.prog 130 #[.string s] w fun e w'=>e=.returned (.int .u32 (vN (crc s.data.toList)))∧w=w':=by
 go_enter Tryz.func130,Tryz.ntmps130
 go_wp2
 go_loop [3,4] (fun t v=>∃ i:Nat,i≤s.size∧v=.int .i64 i∧t=.int .u32 (vN (crc (s.data.toList.take i)))) (fun _ v=>s.size-(intOf v).toNat)
 case atStart=>exact⟨0,Nat.zero_le _,rfl,rfl⟩
 case round =>
  obtain⟨i,hi,rfl,rfl⟩:=hrel
  by_cases hlt:i<s.size
  ·obtain⟨x,hx⟩:∃ x,x=crc (s.data.toList.take i):=⟨_,rfl⟩
   have HT:=hid (show crc (s.data.toList.take (i+1))=step x s[i] by rw [take_snoc s i hlt,crc_snoc,hx])
   rw [← hx]
   clear hx
   have h0:=vN_lo x
   have h1:=vN_hi x
   have hb:=(s[i]).toNat_lt
   obtain⟨y,hy⟩:∃ y,y=x ^^^ byteAt s[i]:=⟨_,rfl⟩
   have hxb:=xor_byte x s[i]
   rw [← hy] at hxb
   have HX:=hid hxb
   have HS:=hid (show step x s[i]=dbls 8 y by rw [hy];rfl)
   clear hxb hy
   go_wp2
   rw [HX.out]
   go_loop [3,5] (fun c v=>∃ k:Nat,k≤8∧v=.int .i64 k∧c=.int .u32 (vN (dbls k y))) (fun _ v=>8-(intOf v).toNat)
   case atStart=>exact⟨0,Nat.zero_le _,rfl,rfl⟩
   case round =>
    obtain⟨k,hk,rfl,rfl⟩:=hrel
    by_cases hlk:k<8
    ·obtain⟨z,hz⟩:∃ z,z=dbls k y:=⟨_,rfl⟩
     have HZ:=hid (show dbls (k+1) y=dbl z by rw [dbls_succ,hz])
     rw [← hz]
     clear hz
     have z0:=vN_lo z
     have z1:=vN_hi z
     by_cases hm:z.msb=true
     ·have hge:=msb_hi z hm
      have HD:=hid (dbl_top z hm)
      clear hm
      go_wp2
      go_round
      case rel=>exact⟨k+1,by omega,by go_num,by rw [HZ.out,← HD.out]⟩
      case measure=>simp [intOf];omega
     ·have hm':z.msb=false:=by simpa using hm
      have hge:decide (2147483648≤vN z)=false:=decFa (by have:=msb_lo z hm';omega)
      have HD:=hid (dbl_low z hm')
      clear hm hm'
      go_wp2
      go_round
      case rel=>exact⟨k+1,by omega,by go_num,by rw [HZ.out,← HD.out]⟩
      case measure=>simp [intOf];omega
    ·obtain rfl:k=8:=by omega
     go_wp2
     go_round
     case rel=>exact⟨i+1,by omega,by go_num,by rw [HT.out,HS.out]⟩
     case measure=>simp [intOf];omega
  ·obtain rfl:i=s.size:=by omega
   have HT:Hid (s.data.toList.take s.size=s.data.toList):=by
    rw [List.take_of_length_le (by simp)]
    exact rfl
   go_wp2
   go_ret
   exact⟨ret_u32 (by rw [HT.out]),rfl⟩
end Go.Proofs.YtlpejbbmemhloaaGreatDoor.Pk
namespace Go.Proofs.YtlpejbbmemhloaaGreatDoor.Nr
open Lib (hid)
set_option linter.unusedVariables false
set_option linter.unusedSimpArgs false
open Go.ChangeShapes Go.WideShapes Go.ChangeAt Go.RowKit
open Nd Ar
open Pk (be num be_length crc u8s u8s_length tN tR tE)
theorem infB1:(Tryz.prog.info? 5).map (fun i=>(i.zero,i.size,i.bytes))=some (some (.int .u8 0),1,1):=by kernel_rfl
theorem zeros_conv (n:Nat) (w:World):(convert 139 9 (.slice (some ⟨w.heap.size,0,none⟩) n n)).run Tryz.prog (w.alloc (.cells (madeCells #[Value.int .u8 0] n) 5))=.ok (.string (bs (List.replicate n 0))) (w.alloc (.cells (madeCells #[Value.int .u8 0] n) 5)):=by
 have:=run_convert_bytes_back (P:=Tryz.prog) (w.alloc (.cells (madeCells #[Value.int .u8 0] n) 5)) 139 9 5 ⟨w.heap.size,0,none⟩ n (List.replicate n 0) Tryz.underlying139 Tryz.underlying5 Tryz.underlying9 (fun j hj=>by
  rw [Ar.add_plain,Nat.zero_add,cell_of_row _ _ j _ _ _ (heap_alloc_new w _)]
  have hj':j<n:=by simpa using hj
  have e:(madeCells #[Value.int .u8 0] n)[j]?=some (.int .u8 0):=by
   rw [← Array.getElem?_toList,toList_madeCells_one,List.getElem?_replicate,if_pos hj']
  rw [e]
  simp)
 rw [List.length_replicate] at this
 exact this
theorem zeros_make (n:Nat) (hn:n≤1048576) (w:World):(Instr.makeSlice 139 (.int .i64 n) (.int .i64 n)).run Tryz.prog w=.ok (.slice (some ⟨w.heap.size,0,none⟩) n n) (w.alloc (.cells (madeCells #[Value.int .u8 0] n) 5)) :=
 run_make_row' (P:=Tryz.prog) 139 5 (.int .u8 0) 1 Tryz.underlying139 infB1 rfl .i64 .i64 n (by omega) (by omega) w
theorem fill_app (s:ByteArray) (m:Nat):bs (fillz s.data.toList m)=s++bs (List.replicate (m-s.size) 0):=by
 unfold fillz
 rw [← bs_app,data_bs]
 have e:s.data.toList.length=s.size:=Array.length_toList
 rw [e]
set_option maxHeartbeats 1000000 in
theorem rfilled_any (s:ByteArray) (h:s.size≤512) (w:World) :
  Calls Tryz.prog 70 #[.string s] w fun e w'=>e=.returned (.string (bs (fillz s.data.toList 512)))∧Below w.heap.size w w':=by
 rw [fill_app]
 by_cases h5:s.size=512
 ·have hz:s++bs (List.replicate (512-s.size) 0)=s:=by
   rw [h5]
   apply ByteArray.ext
   simp [bs]
  rw [hz]
  clear hz
  have d:decide ((512:Int)≤(s.size:Int))=true:=by simp;omega
  clear h h5
  go_enter Tryz.func70,Tryz.ntmps70
  go_wp2
  go_ret
  exact⟨rfl,Below.refl _ _⟩
 ·have d:decide ((512:Int)≤(s.size:Int))=false:=by simp;omega
  obtain⟨n,hn⟩:∃ n,512-s.size=n:=⟨_,rfl⟩
  have e1:(512:Int)-(s.size:Int)=(n:Int):=by omega
  have hn5:n≤512:=by omega
  rw [hn]
  have hmk:=zeros_make n (by omega) w
  have hcv:=zeros_conv n w
  have hb:Below w.heap.size w (w.alloc (.cells (madeCells #[Value.int .u8 0] n) 5)):=(Below.refl _ _).alloc (Nat.le_refl _) _
  have HB:=hid hb
  have hz1:(bs (List.replicate n 0)).size≤512:=by rw [bs_size,List.length_replicate];exact hn5
  generalize bs (List.replicate n 0)=Z at *
  generalize w.alloc (.cells (madeCells #[Value.int .u8 0] n) 5)=W at *
  clear hn h5 hb
  go_enter Tryz.func70,Tryz.ntmps70
  go_wp2
  go_ret
  exact⟨rfl,HB.out⟩
theorem se1 {s:ByteArray}(h:s.size≠0):s.toList.isEmpty=false:=by rw [ByteArray.toList_eq,List.isEmpty_eq_false_iff];intro h2;exact h (show s.data.size=0 by rw [← Array.length_toList,h2];rfl)
theorem se2 {s:ByteArray}(h:s.size≠0):¬ s.toList=[]:=by intro h2;have:=se1 h;rw [h2] at this;cases this
theorem se3 {s:ByteArray}(h:s.size=0):s.toList=[]:=by rw [ByteArray.toList_eq];exact List.eq_nil_of_length_eq_zero (by rw [Array.length_toList];exact h)
set_option maxRecDepth 100000 in
set_option maxHeartbeats 4000000 in
theorem whole_any (s:ByteArray) (h:s.size≤508) (w:World) :
  Calls Tryz.prog 97 #[.string s] w fun e w'=>e=.returned (.string (bs (sealL s.data.toList)))∧Below w.heap.size w w':=by
 have hF:=fillz_len (l:=s.data.toList) (m:=508) (by rw [Array.length_toList];exact h)
 have hX:sealL s.data.toList=cutz (be 4 (crc (fillz s.data.toList 508)).toNat++fillz s.data.toList 508):=rfl
 rw [hX]
 clear hX
 have hfa:=fill_app s 508
 obtain⟨n,hn⟩:∃ n,508-s.size=n:=⟨_,rfl⟩
 have e1:(508:Int)-(s.size:Int)=(n:Int):=by omega
 have hn5:n≤508:=by omega
 rw [hn] at hfa
 generalize fillz s.data.toList 508=F at *
 have HS:=hid (show ∀ w,Calls Tryz.prog 130 #[.string (bs F)] w fun e w'=>e=.returned (.int .u32 ((crc F).toNat:Nat))∧w=w' from fun w=>by
  have:=Pk.rsum_any (bs F) w (by rw [bs_size];omega)
  rw [bs_data] at this
  exact this)
 have HN:=hid (show ∀ w,Calls Tryz.prog 129 #[.int .u64 ((crc F).toNat:Nat),.int .i64 4] w fun e w'=>e=.returned (.string (bs (be 4 (crc F).toNat)))∧Below w.heap.size w w' from fun w=>Pk.ref_bytes (crc F).toNat 4 w (by have:=sum_le F;omega) (by omega))
 have hz1:(bs (be 4 (crc F).toNat)).size≤4:=by rw [bs_size,be_length];omega
 have hz2:(bs F).size≤508:=by rw [bs_size];omega
 have hz3:(bs (List.replicate n 0)).size≤508:=by rw [bs_size,List.length_replicate];exact hn5
 have HT:=hid (show bs (be 4 (crc F).toNat)++bs F=bs (be 4 (crc F).toNat++F) from bs_app _ _)
 have HR:=hid (show Tm.cutB (bs (be 4 (crc F).toNat++F))=bs (cutz (be 4 (crc F).toNat++F)) from rfl)
 have hmk:=zeros_make n (by omega) w
 have hcv:=zeros_conv n w
 have HB:=hid (show Below w.heap.size w (w.alloc (.cells (madeCells #[Value.int .u8 0] n) 5)) from (Below.refl _ _).alloc (Nat.le_refl _) _)
 have hcr:(crc F).toNat<4294967296:=(crc F).isLt
 generalize w.alloc (.cells (madeCells #[Value.int .u8 0] n) 5)=W at *
 generalize (crc F).toNat=C at *
 have hzT:(bs (be 4 C++F)).size≤512:=by rw [bs_size,List.length_append,be_length];omega
 generalize bs (cutz (be 4 C++F))=R at *
 generalize bs (be 4 C++F)=T at *
 generalize bs (be 4 C)=S4 at *
 generalize bs (List.replicate n 0)=Z at *
 generalize bs F=FB at *
 have HFA:=hid hfa.symm
 clear hF hn hfa
 go_enter Tryz.func97,Tryz.ntmps97
 go_wp2_with fail
 rw [HFA.out]
 refine (HS.out _).mono ?_
 rintro e w1 ⟨rfl,rfl⟩
 go_wp2_with fail
 refine (HN.out _).mono ?_
 rintro e w2 ⟨rfl,hb⟩
 have HB2:=hid (HB.out.trans (hb.mono HB.out.size))
 clear hb HB hmk hcv
 go_wp2_with fail
 rw [HT.out]
 go_loop [0] (fun v=>∃ t:ByteArray,t.size≤512∧v=.string t∧Hid (Tm.cutB t=Tm.cutB T)) (fun v=>match v with | .string t=>t.size | _=>0)
 case atStart=>exact⟨T,hzT,rfl,rfl⟩
 case round =>
  obtain⟨t,ht,rfl,hc⟩:=hrel
  by_cases h0:t.size=0
  ·have HC:=hid ((Tm.cutB_empty h0).symm.trans (Hid.out hc))
   have s3:=se3 h0
   clear hc h0
   go_wp2
   go_ret
   exact⟨by rw [← HR.out,← HC.out];rfl,HB2.out⟩
  ·have s1:=se1 h0
   have s2:=se2 h0
   have hp:0<t.size:=by omega
   have h2:(0:Int)≤(t.size:Int)-1:=by omega
   have h3:((t.size:Int)-1).toNat=t.size-1:=by omega
   have h4:t.size-1<t.size:=by omega
   by_cases hz:t[t.size-1]=0
   ·have HC:=hid ((Tm.cutB_zero hp hz).trans (Hid.out hc))
    have hb:((t[t.size-1].toNat:Int)==0)=true:=by rw [hz];rfl
    have H5:=hid (show (t.extract 0 (t.size-1)).size=t.size-1 by simp)
    clear hc hz
    go_wp2
    exact⟨⟨_,by rw [H5.out];omega,rfl,HC.out⟩,by show (t.extract 0 (t.size-1)).size<t.size;rw [H5.out];omega⟩
   ·have HC:=hid ((Tm.cutB_done hp hz).symm.trans (Hid.out hc))
    have hb:((t[t.size-1].toNat:Int)==0)=false:=by
     rw [beq_eq_false_iff_ne]
     intro e
     have e2:t[t.size-1].toNat=0:=by omega
     exact hz (UInt8.toNat.inj e2)
    clear hc hz
    go_wp2
    go_ret
    exact⟨by rw [← HR.out,← HC.out];rfl,HB2.out⟩
def BagAt (w:World) (q:Nat) (S:ByteArray) (bad:Bool):Prop:=w.heap[q]?=some (.cells #[.string S,.bool bad] 125 (0,0))
theorem BagAt.c0 {w:World}{q:Nat}{S:ByteArray}{bad:Bool}(h:BagAt w q S bad):w.cell? ⟨q,0,none⟩=some (.string S):=cell_of_row _ _ 0 _ _ _ h
theorem BagAt.c1 {w:World}{q:Nat}{S:ByteArray}{bad:Bool}(h:BagAt w q S bad):w.cell? ⟨q,1,none⟩=some (.bool bad):=cell_of_row _ _ 1 _ _ _ h
theorem BagAt.fr {w:World}{q:Nat}{S:ByteArray}{bad:Bool}(h:BagAt w q S bad) (i:Nat):w.frozen? ⟨q,i,none⟩=false:=frozen_of_row w q _ _ _ h
theorem BagAt.lt {w:World}{q:Nat}{S:ByteArray}{bad:Bool}(h:BagAt w q S bad):q<w.heap.size:=row_lt h
theorem BagAt.below {w w':World}{q:Nat}{S:ByteArray}{bad:Bool}(h:BagAt w q S bad) (hb:Below w.heap.size w w'):BagAt w' q S bad:=(hb.block q h.lt).trans h
theorem BagAt.set0 {w:World}{q:Nat}{S S':ByteArray}{bad:Bool}(h:BagAt w q S bad):BagAt (w.setCell ⟨q,0,none⟩ (.string S')) q S' bad:=by
 unfold BagAt at *
 simp [World.setCell,h,Array.getElem?_modify]
theorem BagAt.set1 {w:World}{q:Nat}{S:ByteArray}{bad:Bool}(h:BagAt w q S bad):BagAt (w.setCell ⟨q,1,none⟩ (.bool true)) q S true:=by
 unfold BagAt at *
 simp [World.setCell,h,Array.getElem?_modify]
theorem some_good (S:ByteArray) (n q:Nat) (hn:n≤S.size) (hS:S.size≤9223372036854775807) (w:World) (h:BagAt w q S false) :
  Calls Tryz.prog 124 #[.pointer (some ⟨q,0,none⟩),.int .i64 n] w fun e w'=>e=.returned (.string (S.extract 0 n))∧BagAt w' q (S.extract n S.size) false∧w.grownBy w' (some q):=by
 have c0:=h.c0
 have c1:=h.c1
 have f0:=h.fr 0
 have d:decide ((S.size:Int)<(n:Int))=false:=by simp;omega
 have H0:=hid (h.set0 (S':=S.extract n S.size))
 have HG:=hid (grown_setCell w ⟨q,0,none⟩ (.string (S.extract n S.size)))
 clear h
 go_enter Tryz.func124,Tryz.ntmps124
 go_wp2
 go_ret
 exact⟨rfl,H0.out,HG.out⟩
set_option maxRecDepth 100000 in
set_option maxHeartbeats 1000000 in
theorem some_bad (S:ByteArray) (n q:Nat) (bad:Bool) (hn:bad=true∨S.size<n) (hz:n≤1048576) (w:World) (h:BagAt w q S bad) :
  Calls Tryz.prog 124 #[.pointer (some ⟨q,0,none⟩),.int .i64 n] w fun e w'=>e=.returned (.string (bs (List.replicate n 0)))∧BagAt w' q S true∧w.grownBy w' (some q):=by
 have c0:=h.c0
 have c1:=h.c1
 have f1:=h.fr 1
 have H1:=hid (h.set1)
 have HG:=hid (grown_setCell w ⟨q,1,none⟩ (.bool true))
 have hsz:(w.setCell ⟨q,1,none⟩ (.bool true)).heap.size=w.heap.size:=by simp
 have hmk:=zeros_make n hz (w.setCell ⟨q,1,none⟩ (.bool true))
 have hcv:=zeros_conv n (w.setCell ⟨q,1,none⟩ (.bool true))
 rw [hsz] at hmk hcv
 have HA:=hid (fun W:World=>(Below.refl W.heap.size W).alloc (Nat.le_refl _) (.cells (madeCells #[Value.int .u8 0] n) 5))
 clear h
 cases bad
 ·have hlt:S.size<n:=by rcases hn with h | h<;>first | exact h | cases h
  have d:decide ((S.size:Int)<(n:Int))=true:=by simp;omega
  have d2:decide (S.size<n)=true:=by simp;omega
  clear hn hlt
  go_enter Tryz.func124,Tryz.ntmps124
  go_wp2
  go_ret
  exact⟨rfl,H1.out.below (HA.out _),grown_trans HG.out (grown_of_below (HA.out _) _)⟩
 ·clear hn
  go_enter Tryz.func124,Tryz.ntmps124
  go_wp2
  go_ret
  exact⟨rfl,H1.out.below (HA.out _),grown_trans HG.out (grown_of_below (HA.out _) _)⟩
open Pk (be num num_lt be_length u8s u8s_length tN tR tE)
def BagR (w:World) (q:Nat) (s:S):Prop:=∃ S,BagAt w q S s.2∧S.size≤512∧(s.2=false→S.data.toList=s.1)
theorem BagR.below {w w':World}{q:Nat}{s:S}(h:BagR w q s) (hb:Below w.heap.size w w'):BagR w' q s:=by
 obtain⟨S,h1,h2,h3⟩:=h
 exact⟨S,h1.below hb,h2,h3⟩
theorem some_R (s:S) (n q:Nat) (hn:n≤1000) (w:World) (h:BagR w q s) :
  Calls Tryz.prog 124 #[.pointer (some ⟨q,0,none⟩),.int .i64 n] w fun e w'=>∃ X:ByteArray,e=.returned (.string X)∧X.size=n∧((tkBytes n s).2.2=false→X.data.toList=(tkBytes n s).1)∧BagR w' q (tkBytes n s).2∧w.grownBy w' (some q):=by
 obtain⟨S,h1,h2,h3⟩:=h
 obtain⟨L,f⟩:=s
 dsimp only at h1 h3
 have hzz:(bs (List.replicate n 0)).size=n:=by rw [bs_size,List.length_replicate]
 cases f
 ·have he:=h3 rfl
  have hl:L.length=S.size:=by rw [← he,Array.length_toList];rfl
  by_cases hlt:S.size<n
  ·have ht:tkBytes n (L,false)=([],([],true)):=by unfold tkBytes;rw [if_pos (by show L.length<n;omega)]
   rw [ht]
   exact (some_bad S n q false (.inr hlt) (by omega) w h1).mono fun e w' hh=>⟨_,hh.1,hzz,fun h=>(by cases h),⟨S,hh.2.1,h2,fun h=>(by cases h)⟩,hh.2.2⟩
  ·have ht:tkBytes n (L,false)=(L.take n,(L.drop n,false)):=by unfold tkBytes;rw [if_neg (by show ¬ L.length<n;omega)]
   rw [ht]
   refine (some_good S n q (by omega) (by omega) w h1).mono fun e w' hh=>⟨_,hh.1,by simp;omega,fun _=>?_,⟨_,hh.2.1,by simp;omega,fun _=>?_⟩,hh.2.2⟩
   ·rw [ByteArray.data_extract,Array.toList_extract,List.extract_eq_take_drop,← he];simp
   ·rw [extract_bs,bs_data,he]
 ·have ht:(tkBytes n (L,true)).2.2=true:=by unfold tkBytes;split<;>rfl
  refine (some_bad S n q true (.inl rfl) (by omega) w h1).mono fun e w' hh=>⟨_,hh.1,hzz,fun h=>?_,⟨S,?_,h2,fun h=>?_⟩,hh.2.2⟩
  ·rw [ht] at h;cases h
  ·rw [ht];exact hh.2.1
  ·rw [ht] at h;cases h
theorem num_R (s:S) (k:Nat):(tkNum k s).2=(tkBytes k s).2∧((tkBytes k s).2.2=false→(tkNum k s).1=num (tkBytes k s).1):=by
 unfold tkNum tkBytes
 by_cases h:k≤s.1.length
 ·rw [if_pos h,if_neg (by omega)];exact⟨rfl,fun _=>rfl⟩
 ·rw [if_neg h,if_pos (by omega)];exact⟨rfl,fun h=>(by cases h)⟩
theorem number_R (s:S) (k q:Nat) (h1:1≤k) (h2:k≤8) (w:World) (h:BagR w q s) :
  Calls Tryz.prog 93 #[.pointer (some ⟨q,0,none⟩),.int .i64 k] w fun e w'=>∃ v:Nat,e=.returned (.int .u64 v)∧v<256 ^ k∧((tkNum k s).2.2=false→v=(tkNum k s).1)∧BagR w' q (tkNum k s).2∧w.grownBy w' (some q):=by
 have HS:=hid (some_R s k q (by omega) w h)
 obtain⟨e1,e2⟩:=num_R s k
 have HE:=hid (And.intro e1 e2)
 have hk9:k≤8:=h2
 have hk1:1≤k:=h1
 clear h h1 h2 e1 e2
 go_enter Tryz.func93,Tryz.ntmps93
 go_wp2_with fail
 refine HS.out.mono ?_
 rintro e w1 ⟨X,rfl,hz,hX,hB,hg⟩
 have HT:=hid (Pk.ref_take_any X k w1 (by unfold maxLen;omega))
 have hlx:X.data.toList.length=k:=by rw [Array.length_toList];exact hz
 have hV:tN X (k:Int)=(num X.data.toList:Nat):=by
  unfold tN
  rw [if_pos ⟨by omega,by omega,by rw [Int.toNat_natCast,hz];exact Nat.le_refl _⟩,Int.toNat_natCast,List.take_of_length_le (by omega)]
 have HL:=hid (show num X.data.toList<256 ^ k by have:=num_lt X.data.toList;rwa [hlx] at this)
 have HX:=hid (show (tkNum k s).2.2=false→num X.data.toList=(tkNum k s).1 from fun h=>by rw [HE.out.1] at h;rw [HE.out.2 h,hX h])
 have HB:=hid (show BagR w1 q (tkNum k s).2 by rw [HE.out.1];exact hB)
 have HG:=hid hg
 rw [hV] at HT
 generalize num X.data.toList=v at *
 clear hz hX hB hg hlx hV HS
 go_wp2_with fail
 refine HT.out.mono ?_
 rintro e w2 ⟨rfl,hb⟩
 have HB2:=hid (HB.out.below hb)
 have HG2:=hid (grown_trans HG.out (grown_of_below hb _))
 clear hb HB HG HT
 go_wp2
 go_ret
 exact⟨v,rfl,HL.out,HX.out,HB2.out,HG2.out⟩
theorem text_R (s:S) (q:Nat) (w:World) (h:BagR w q s) :
  Calls Tryz.prog 94 #[.pointer (some ⟨q,0,none⟩)] w fun e w'=>∃ X:ByteArray,e=.returned (.string X)∧X.size<256∧((tkTxt s).2.2=false→X.data.toList=(tkTxt s).1)∧BagR w' q (tkTxt s).2∧w.grownBy w' (some q):=by
 have HN:=hid (number_R s 1 q (by omega) (by omega) w h)
 clear h
 go_enter Tryz.func94,Tryz.ntmps94
 go_wp2_with fail
 refine HN.out.mono ?_
 rintro e w1 ⟨v,rfl,hlt,hv,hB,hg⟩
 have hlt':v<256:=hlt
 have hu:IntKind.i64.wrap (v:Int)=v:=IntWalk.i64_in _ ⟨by omega,by omega⟩
 have HS:=hid (some_R (tkNum 1 s).2 v q (by omega) w1 hB)
 have HG:=hid hg
 have stay:(tkNum 1 s).2.2=true→(tkTxt s).2.2=true:=fun h=>by
  unfold tkTxt tkBytes
  split
  ·rfl
  ·exact h
 have HT:=hid (show ∀ w':World,(BagR w' q (tkBytes v (tkNum 1 s).2).2→BagR w' q (tkTxt s).2) from fun w' hb=>by
  cases hf:(tkNum 1 s).2.2 with
  | false=>unfold tkTxt;rw [← hv hf];exact hb
  | true =>
   have hb2:(tkBytes v (tkNum 1 s).2).2.2=true:=by
    unfold tkBytes
    split
    ·rfl
    ·exact hf
   obtain⟨S,h1,h2,h3⟩:=hb
   refine⟨S,?_,h2,fun h=>?_⟩
   ·rw [stay hf];rw [hb2] at h1;exact h1
   ·rw [stay hf] at h;cases h)
 have HX:=hid (show ∀ X:ByteArray,((tkBytes v (tkNum 1 s).2).2.2=false→X.data.toList=(tkBytes v (tkNum 1 s).2).1)→(tkTxt s).2.2=false→X.data.toList=(tkTxt s).1 from fun X hX h=>by
  cases hf:(tkNum 1 s).2.2 with
  | false=>unfold tkTxt at h ⊢;rw [← hv hf] at h ⊢;exact hX h
  | true=>rw [stay hf] at h;cases h)
 have HV:=hid hlt'
 clear hlt hv hB hg stay HN
 go_wp2_with fail
 refine HS.out.mono ?_
 rintro e w2 ⟨X,rfl,hz,hX,hB,hg⟩
 have HX2:=hid (HX.out X hX)
 have HB2:=hid (HT.out w2 hB)
 have HG2:=hid (grown_trans HG.out hg)
 have HZ:=hid (show X.size<256 by rw [hz];exact HV.out)
 clear hz hX hB hg HS HG
 go_wp2
 go_ret
 exact⟨X,rfl,HZ.out,HX2.out,HB2.out,HG2.out⟩
end Go.Proofs.YtlpejbbmemhloaaGreatDoor.Nr
namespace Go.Proofs.YtlpejbbmemhloaaGreatDoor.Sp
open Lib (hid)
set_option linter.unusedVariables false
set_option linter.unusedSimpArgs false
open Nd
open Pk (be num be_length)
structure Su where
 Z:Nat
 G:Nat
 T:Nat
 hs:List UInt8
def okS (s:Su):Bool:=(decide (16≤s.Z)&&decide (s.Z≤65536))&&((decide (1≤s.G)&&decide (s.G≤4611686018427387904))&&(decide (2≤s.T)&&decide (s.T<s.Z)))
def cS:Cod Su:=((cNum 4).pair ((cNum 8).pair ((cNum 4).pair cHash))).as (fun p=>⟨p.1,p.2.1,p.2.2.1,p.2.2.2⟩) fun s=>(s.Z,s.G,s.T,s.hs)
def wS (s:Su):List UInt8:=[67,66]++cS.wr s
def enS (s:Su):ByteArray:=if okS s then bs (sealL (wS s)) else ByteArray.empty
def tkS (d:ByteArray):Su:=(cS.tk (((d.data.toList++List.replicate 512 0).drop 6),false)).1
open Go.ChangeShapes Go.WideShapes Go.ChangeAt Go.RowKit
open Nd Rg
open BigFrame
open Pk (be num be_length nB nE numOk number_any u8s u8s_length)
theorem conv_hash {w':World}{q o:Nat}{l:List UInt8}(h:l.length=32) (hr:w'.rangeAt q o (u8s l)) :
  (convert 139 9 (.slice (some ⟨q,o,none⟩) 32 32)).run Tryz.prog w'=.ok (.string (bs l)) w':=by
 have:=run_convert_bytes_back (P:=Tryz.prog) w' 139 9 5 ⟨q,o,none⟩ 32 l Tryz.underlying139 Tryz.underlying5 Tryz.underlying9 (fun j hj=>by
  rw [Ar.add_plain]
  exact hr j _ (by unfold u8s;rw [List.getElem?_map,List.getElem?_eq_getElem hj];rfl))
 rw [h] at this
 exact this
open Pk (be num be_length u8s u8s_length)
open Pk (be num be_length num_lt tN tR tE take_any u8s u8s_length)
theorem run_copy_row_long {P:Program}(w:World) (dT sT ty elem:TypeId) (g o dLen dCap:Nat) (s:ByteArray) (cur:Array Value) (t:TypeId)
  (hu:P.underlying dT=some (.slice elem)) (hs:(P.info? elem).map (·.size)=some 1) (hg:w.heap[g]?=some (.cells cur t (0,0))) (hge:dLen≤s.size) (hfit:o+dLen≤cur.size) :
  (Builtin.copy_ #[dT,sT] ty #[.slice (some ⟨g,o,none⟩) dLen dCap,.string s]).run P w =
   .ok (goInt dLen) (w.setRow g (cur.toList.take o++Lib.byteCells (s.data.toList.take dLen)++cur.toList.drop (o+dLen)).toArray):=by
 have hsl:s.data.toList.length=s.size:=by rw [Array.length_toList];rfl
 have hlen:(Lib.byteCells (s.data.toList.take dLen)).length=dLen:=by rw [Lib.byteCells_length,List.length_take,hsl];omega
 have hst:=run_storeCells_at P g o t (Lib.byteCells (s.data.toList.take dLen)) 0 cur w hg (by rw [hlen];simpa using hfit) (Lib.byteCells_one _)
 have hmin:Nat.min s.size dLen=dLen:=Nat.min_eq_right hge
 have htk:List.take dLen (List.map (fun b:UInt8=>Value.int IntKind.u8 (b.toNat:Int)) s.data.toList)=Lib.byteCells (s.data.toList.take dLen):=by
  unfold Lib.byteCells
  rw [List.map_take]
 rw [hlen] at hst
 simp only [Nat.add_zero] at hst
 cases hq:P.info? elem with
 | none=>simp [hq] at hs
 | some i =>
  simp [Builtin.copy_,run_underlying hu,Builtin.lenOf,Builtin.firstCells,sizeOf,typeInfo,hq,hmin]
  rw [htk,hst]
  simp [Result.andThen]
theorem wpList_copy_long {P:Program}{ops:Array Oper}{rest:List Oper}{o:Oper}{a:Act}{w:World}{Q:Exit→Act→World→Prop}
  (hgd:o.guard=none) (d x:Operand) (dT sT:TypeId) (hop:o.op=Op.call { callee:=Callee.builtin Builtin.copy,args:=#[d,x],argTypes:=#[dT,sT] })
  (elem:TypeId) (hu:P.underlying dT=some (.slice elem)) (hs:(P.info? elem).map (·.size)=some 1) (g off dLen dCap:Nat) (hd:a.eval d=.slice (some ⟨g,off,none⟩) dLen dCap) (s:ByteArray) (hx:a.eval x=.string s)
  (cur:Array Value) (t:TypeId) (hg:w.heap[g]?=some (.cells cur t (0,0))) (hge:dLen≤s.size) (hfit:off+dLen≤cur.size) (cs:Array Value) (hcs:(cur.toList.take off++Lib.byteCells (s.data.toList.take dLen)++cur.toList.drop (off+dLen)).toArray=cs)
  (hK:wpList P ops Q rest (a.put o.dst (goInt dLen)) (w.setRow g cs)) :
  wpList P ops Q (o::rest) a w:=by
 subst hcs
 refine wpList_plain hgd fun K hK'=>?_
 have hrun:=run_copy_row_long (P:=P) w dT sT o.type elem g off dLen dCap s cur t hu hs hg hge hfit
 unfold Oper.wp
 simp [execOp,hop,resolve,invoke,builtin,hd,hx,hrun,Result.andThen]
 exact hK' _ _ (by simpa using hK)
abbrev zS:Array Value:=#[.int .u32 0,.int .u64 0,.int .u32 0,.int .u8 0,.int .u8 0,.int .u8 0,.int .u8 0,.int .u8 0,.int .u8 0,.int .u8 0,.int .u8 0,.int .u8 0,.int .u8 0,.int .u8 0,.int .u8 0,.int .u8 0,.int .u8 0,.int .u8 0,.int .u8 0,.int .u8 0,.int .u8 0,.int .u8 0,.int .u8 0,.int .u8 0,.int .u8 0,.int .u8 0,.int .u8 0,.int .u8 0,.int .u8 0,.int .u8 0,.int .u8 0,.int .u8 0,.int .u8 0,.int .u8 0,.int .u8 0]
theorem u32_same {n:Nat}(h:n<4294967296):IntKind.u32.wrap (n:Int)=n:=by simp [IntKind.wrap,IntKind.bits,IntKind.signed];omega
theorem results_row2 {P:Program}{fn:Func}{p u:Tmp}{ty:TypeId}(h:fn.results=#[.cell p ty,.tmp u]) (tmps:Array Value) (w:World) (g:Nat) (t:TypeId) (cs:Array Value) (fr:Nat×Nat) (d:TypeDesc)
  (hp:tmps.getD p undef=.pointer (some ⟨g,0,none⟩)) (hg:w.heap[g]?=some (.cells cs t fr))
  (hu:P.underlying ty=some d) (hd:(match d with | .struct _ | .array _ _=>true | _=>false)=true) (hi:(P.info? ty).map (·.size)=some cs.size) (r:Value) (hr:tmps.getD u undef=r) :
  (results fn tmps).run P w=.ok (.tuple #[.agg cs,r]) w:=by
 rw [results_cell_tmp h,hp,hr]
 simp [asAddr,run_loadVar_row w g t ty cs fr d hg hu hd hi,Result.andThen]
theorem box2 (w:World) (c1 c2:Array Value) (t1 t2:TypeId):((w.alloc (.cells c1 t1)).alloc (.cells c2 t2)).heap[w.heap.size]?=some (.cells c1 t1 (0,0))∧((w.alloc (.cells c1 t1)).alloc (.cells c2 t2)).heap[w.heap.size+1]?=some (.cells c2 t2 (0,0)) ∧
  Below w.heap.size w ((w.alloc (.cells c1 t1)).alloc (.cells c2 t2))∧w.heap.size+1<((w.alloc (.cells c1 t1)).alloc (.cells c2 t2)).heap.size:=by
 refine⟨?_,?_,((Below.refl _ _).alloc (Nat.le_refl _) _).alloc (by simp) _,by simp⟩
 ·have h1:=heap_alloc_new w (.cells c1 t1)
  have h2:Below (w.heap.size+1) (w.alloc (.cells c1 t1)) ((w.alloc (.cells c1 t1)).alloc (.cells c2 t2)):=(Below.refl _ _).alloc (by simp) _
  exact (h2.block _ (Nat.lt_succ_self _)).trans h1
 ·have:=heap_alloc_new (w.alloc (.cells c1 t1)) (.cells c2 t2)
  simpa using this
def IsS (d:ByteArray):Prop:=okS (tkS d)=true∧enS (tkS d)=d
instance (d:ByteArray):Decidable (IsS d):=by unfold IsS;infer_instance
end Go.Proofs.YtlpejbbmemhloaaGreatDoor.Sp
namespace Go.Proofs.YtlpejbbmemhloaaGreatDoor.Nr
open Lib (hid)
set_option linter.unusedVariables false
set_option linter.unusedSimpArgs false
open Go.ChangeShapes Go.WideShapes Go.ChangeAt Go.RowKit
open Nd Ar Rg
open BigFrame
open Pk (be num u8s u8s_length)
theorem info8h:(Tryz.prog.info? 5).map (·.size)=some 1:=by kernel_rfl
theorem infoH32:(Tryz.prog.info? 43).map (·.size)=some 32:=by kernel_rfl
theorem far_row {w w1:World}{q g:Nat}(h:w.grownBy w1 (some q)) (hg:w.heap.size≤g) (cs:Array Value):w.grownBy (w1.setRow g cs) (some q):=by
 have h2:=grown_setRow w1 g cs
 refine⟨h2.os.trans h.os,h2.tape.trans h.tape,h2.output.trans h.output,Nat.le_trans h.size h2.size,fun k hk hne=>(h2.block k (Nat.lt_of_lt_of_le hk h.size) (fun e=>by cases e;omega)).trans (h.block k hk hne)⟩
theorem bag_far {w:World}{q g:Nat}{s:S}(h:BagR w q s) (hg:g≠q) (cs:Array Value):BagR (w.setRow g cs) q s:=by
 obtain⟨S,h1,h2,h3⟩:=h
 exact⟨S,(setRow_other w g q cs (Ne.symm hg)).trans h1,h2,h3⟩
set_option maxRecDepth 100000 in
set_option maxHeartbeats 4000000 in
theorem hash_R (s:S) (q:Nat) (w:World) (h:BagR w q s) :
  Calls Tryz.prog 95 #[.pointer (some ⟨q,0,none⟩)] w fun e w'=>∃ l:List UInt8,e=.returned (.agg (u8s l).toArray)∧l.length=32∧((tkHash s).2.2=false→l=(tkHash s).1)∧BagR w' q (tkHash s).2∧w.grownBy w' (some q):=by
 have hq:q<w.heap.size:=by obtain⟨S,h1,_⟩:=h;exact h1.lt
 have TB:=hid (Sp.box2 w zH zH 43 43)
 have HBG:=hid (h.below TB.out.2.2.1)
 have HQ:=hid hq
 have HE1:=hid (show (tkHash s).2=(tkBytes 32 s).2 from rfl)
 have HE2:=hid (fun (X:ByteArray) (hz:X.size=32) (hX:(tkBytes 32 s).2.2=false→X.data.toList=(tkBytes 32 s).1) (hf:(tkHash s).2.2=false)=>(by
  have e:=hX hf
  unfold tkHash
  rw [← e,Array.length_toList,show X.data.size=32 from hz]
  simp:X.data.toList=(tkHash s).1))
 clear h hq
 go_enter Tryz.func95,Tryz.ntmps95
 go_wp2_with fail
 change Code.wp _ _ _ _ ((w.alloc (.cells zH 43)).alloc (.cells zH 43))
 generalize (w.alloc _).alloc _=W at *
 refine wp_region_T (fun w':World=>True) 3 (by kernel_rfl) (by kernel_rfl) ?_
 have hS:True:=trivial
 refine take_T 0 4 (.slice (some ⟨w.heap.size+1,0,none⟩) 32 32) rfl (by rfl) (by kernel_rfl) (by decide) (by kernel_rfl) (by kernel_rfl) (by kernel_rfl) (fun _ _ _ h=>h) (Or.inl ⟨by rfl,fun w' hSw=>by go_simp⟩) hS ?_
 simp only [List.setIfInBounds_toArray,List.set_cons_zero,List.set_cons_succ]
 refine take_T 1 5 (.pointer (some ⟨q,0,none⟩)) rfl (by rfl) (by kernel_rfl) (by decide) (by kernel_rfl) (by kernel_rfl) (by kernel_rfl) (fun _ _ _ h=>h) (Or.inl ⟨by rfl,fun w' hSw=>by go_simp⟩) hS ?_
 simp only [List.setIfInBounds_toArray,List.set_cons_zero,List.set_cons_succ]
 refine only_T 2 rfl (by kernel_rfl) (by decide) (by rfl) (fun K hK=>?_)
 go_simp
 have hbg:BagR W.drew q s:=HBG.out
 refine (some_R s 32 q (by omega) W.drew hbg).mono ?_
 rintro e w3 ⟨X,rfl,hz,hX,hB,hg⟩
 have HX:=hid (HE2.out X hz hX)
 have HB3:=hid (show BagR w3 q (tkHash s).2 by rw [HE1.out];exact hB)
 have HG3:=hid (show w.grownBy w3 (some q) from grown_trans (grown_trans (grown_of_below TB.out.2.2.1 _) (grown_drew W _)) hg)
 have HR3:=hid (show w3.heap[w.heap.size+1]?=some (.cells zH 43 (0,0)) from (hg.block _ TB.out.2.2.2 (fun e=>by cases e;have:=HQ.out;omega)).trans TB.out.2.1)
 have HQ3:=hid (show w3.heap[w.heap.size]?=some (.cells zH 43 (0,0)) from (hg.block _ (by have:=TB.out.2.2.2;show w.heap.size<W.heap.size;omega) (fun e=>by cases e;have:=HQ.out;omega)).trans TB.out.1)
 have HZ:=hid (show 32≤X.size by omega)
 have hxl:X.data.toList.length=32:=by rw [Array.length_toList];exact hz
 have HXL:=hid hxl
 have HCP:=hid (show (zH.toList.take 0++Lib.byteCells (X.data.toList.take 32)++zH.toList.drop (0+32)).toArray=(u8s X.data.toList).toArray by
  rw [List.take_of_length_le (show X.data.toList.length≤32 by omega)]
  show ([]++u8s X.data.toList++[]).toArray=_
  rw [List.append_nil,List.nil_append])
 have HI:=hid (show (Tryz.prog.info? 43).map (·.size)=some (u8s X.data.toList).toArray.size by rw [List.size_toArray,u8s_length,hxl];exact infoH32)
 have HO:=hid (all_of_one (u8s_cell X.data.toList))
 have HSZ:=hid (show zH.size=(u8s X.data.toList).toArray.size by rw [show (u8s X.data.toList).toArray.size=32 by rw [List.size_toArray,u8s_length,hxl]];rfl)
 clear hz hX hB hg hbg HBG TB hxl
 have hS2:True:=trivial
 refine hK.out _ _ hS2 ?_
 clear hK K
 try simp only [Act.put,List.setIfInBounds_toArray,List.set_cons_zero,List.set_cons_succ]
 refine done_T (by kernel_rfl) ?_
 simp only [List.drop_succ_cons,List.drop_zero]
 clear hS hS2
 obtain⟨C,hC⟩:∃ C,(u8s X.data.toList).toArray=C:=⟨_,rfl⟩
 have HC:=hid hC
 rw [hC] at HCP HI HO HSZ
 clear hC
 go_wp2_with (first
  | (refine Sp.wpList_copy_long rfl (.tmp 4) (.tmp 6) 139 9 rfl 5 Tryz.underlying139 info8h (w.heap.size+1) 0 32 32 rfl X rfl zH 43 HR3.out HZ.out (show 0+32≤32 from Nat.le_refl _) C HCP.out ?_;have HR4:=hid (setRow_heap' (cs:=C) HR3.out);have HQ4:=hid ((setRow_other w3 (w.heap.size+1) w.heap.size C (by omega)).trans HQ3.out);have HG4:=hid (far_row HG3.out (Nat.le_succ _) C);have HB4:=hid (show BagR (w3.setRow (w.heap.size+1) C) q (tkHash s).2 from bag_far HB3.out (by have:=HQ.out;omega) C);generalize w3.setRow (w.heap.size+1) C=w4 at *;clear HR3 HQ3 HG3 HB3)
  | (refine wpList_load_row rfl 43 (.tmp 3) rfl (w.heap.size+1) rfl 43 C (0,0) _ HR4.out Tryz.underlying43 rfl HI.out ?_)
  | (refine wpList_store_row rfl 43 (.tmp 2) (.tmp 8) rfl w.heap.size C rfl rfl 43 zH HQ4.out HI.out HSZ.out HO.out ?_))
 have HQ5:=setRow_heap' (cs:=C) HQ4.out
 have HG5:=far_row HG4.out (Nat.le_refl _) C
 have HB5:=bag_far HB4.out (show w.heap.size≠q by have:=HQ.out;omega) C
 refine bodyPost_ret (v:=.agg C) (results_cell_row rfl _ _ w.heap.size 43 C (0,0) _ rfl HQ5 Tryz.underlying43 rfl HI.out) rfl ?_
 exact⟨X.data.toList,by rw [HC.out],HXL.out,HX.out,HB5,HG5⟩
open Pk (be num u8s u8s_length num_lt)
def tbN (l:List UInt8):Nd×Bool :=
 let p:=tkNum 1 (l,false)
 let q:=tkNum 1 p.2
 if p.1=1 then (⟨p.1,(tkMany cI q.1 q.2).1,[],[]⟩,(tkMany cI q.1 q.2).2.2)
 else if p.1=2 then (⟨p.1,[],(tkMany cK q.1 q.2).1,[]⟩,(tkMany cK q.1 q.2).2.2)
 else if p.1=3 then (⟨p.1,[],[],(tkMany cV q.1 q.2).1⟩,(tkMany cV q.1 q.2).2.2)
 else (⟨p.1,[],[],[]⟩,q.2.2||decide (0<q.1))
def BtPost (w0:World) (q:Nat) (l:List UInt8) (e:Ending) (w':World):Prop:=∃ cs S,e=.returned (.agg cs)∧BagAt w' q S (tbN l).2∧Below w0.heap.size w0 w'∧cs.size=4∧cs.all (·.oneCell')=true∧((tbN l).2=false→NdOwn w0 w' cs (tbN l).1)
theorem run_storeVar_part {P:Program}(w:World) (g o:Nat) (t ty:TypeId) (cur cells:Array Value) (x:Value) (hg:w.heap[g]?=some (.cells cur t (0,0))) (hx:x.cells=cells.toList.toArray) (hi:(P.info? ty).map (·.size)=some cells.size)
  (hfit:o+cells.size≤cur.size) (h1:cells.all (·.oneCell')=true) :
  (storeVar ty ⟨g,o,none⟩ x).run P w=.ok () (w.setRow g (cur.toList.take o++cells.toList++cur.toList.drop (o+cells.size)).toArray):=by
 have h:=run_storeCells_at P g o t cells.toList 0 cur w hg (by simpa using hfit) (fun v hv=>(Array.all_eq_true_iff_forall_mem.1 h1) v (by simpa using hv))
 cases hq:P.info? ty with
 | none=>simp [hq] at hi
 | some i =>
  have hs:i.size=cells.size:=by simpa [hq] using hi
  simp only [Nat.add_zero,Array.length_toList] at h
  have hx':x.cells=cells:=by rw [hx]
  simp [storeVar,sizeOf,typeInfo,hq,hx',hs,h]
section
variable {P:Program}{ops:Array Oper}{rest:List Oper}{o:Oper}{a:Act}{w:World}{Q:Exit→Act→World→Prop}
theorem wpList_store_part (hgd:o.guard=none) (ty:TypeId) (x y:Operand) (ho:o.op=.store ty x y) (g i:Nat) (v:Value) (cells:Array Value) (hx:a.eval x=.pointer (some ⟨g,i,none⟩)) (hy:a.eval y=v)
  (t:TypeId) (cur new:Array Value) (hg:w.heap[g]?=some (.cells cur t (0,0))) (hv:v.cells=cells.toList.toArray) (hi:(P.info? ty).map (·.size)=some cells.size)
  (hfit:i+cells.size≤cur.size) (h1:cells.all (·.oneCell')=true) (hn:(cur.toList.take i++cells.toList++cur.toList.drop (i+cells.size)).toArray=new)
  (h:wpList P ops Q rest (a.put o.dst undef) (w.setRow g new)):wpList P ops Q (o::rest) a w :=
 wpList_plain hgd fun K hK=>by
  subst hn
  unfold Oper.wp execOp
  simp only [ho,hx,hy,Instr.storeAt,Instr.sureAddr,Sem.run_bind,Sem.run_pure,Result.andThen_ok,run_storeVar_part w g i t ty cur cells v hg hv hi hfit h1]
  exact hK _ _ h
end
theorem one_all (v:Value) (h:v.oneCell'=true):(#[v]:Array Value).all (·.oneCell')=true:=by simp [h]
theorem infoN4:(Tryz.prog.info? 31).map (·.size)=some 4:=by kernel_rfl
theorem infoS1:(Tryz.prog.info? 9).map (·.size)=some 1:=by kernel_rfl
theorem infoU32:(Tryz.prog.info? 22).map (·.size)=some 1:=by kernel_rfl
theorem infoU64:(Tryz.prog.info? 119).map (·.size)=some 1:=by kernel_rfl
theorem infoVK:(Tryz.prog.info? 118).map (·.size)=some 1:=by kernel_rfl
theorem infoIs (x:It.Itm):(Tryz.prog.info? 63).map (·.size)=some (It.enc x).toArray.size:=by
 show _=some 2
 kernel_rfl
def InvB {α:Type}(C:Cod α) (c:Nat) (s0:S) (i:Nat) (D:List α) (s:S):Prop:=(s.2=false→TkInv C c s0 i D s.1 false)∧(s.2=true→(tkMany C c s0).2.2=true)
theorem InvB.go {α:Type}{C:Cod α}{c i:Nat}{s0 s:S}{D:List α}{x:α}(h:InvB C c s0 i D s) (hs:s.2=false) (hi:i<c) (hl:∀ s,(C.tk s).2.1.length≤s.1.length) (hx:(C.tk s).2.2=false→x=(C.tk s).1):InvB C c s0 (i+1) (D++[x]) (C.tk s).2:=by
 obtain⟨l,b⟩:=s
 cases hs
 have h1:=h.1 rfl
 constructor
 ·intro hf
  rw [hx hf]
  have e:C.tk (l,false)=((C.tk (l,false)).1,((C.tk (l,false)).2.1,false)):=Prod.ext rfl (Prod.ext rfl hf)
  exact h1.step hi e (hl _)
 ·intro ht
  have e:C.tk (l,false)=((C.tk (l,false)).1,((C.tk (l,false)).2.1,true)):=Prod.ext rfl (Prod.ext rfl ht)
  rw [h1.stop hi e]
theorem num1_more {s:S}(h:1≤s.1.length):(tkNum 1 s).2=(s.1.drop 1,s.2):=by unfold tkNum;rw [if_pos h]
theorem elI {s:S}{X Y:ByteArray}(h1:(tkTxt s).2.2=false→X.data.toList=(tkTxt s).1) (h2:(tkTxt (tkTxt s).2).2.2=false→Y.data.toList=(tkTxt (tkTxt s).2).1) (hf:(cI.tk s).2.2=false):(⟨X,Y⟩:It.Itm)=(cI.tk s).1:=by
 have f2:(tkTxt (tkTxt s).2).2.2=false:=hf
 have f1:(tkTxt s).2.2=false:=by
  cases h:(tkTxt s).2.2 with
  | false=>rfl
  | true=>rw [show (tkTxt (tkTxt s).2).2.2=true from txt_good.stay _ h] at f2;cases f2
 show _=(⟨bs (tkTxt s).1,bs (tkTxt (tkTxt s).2).1⟩:It.Itm)
 rw [← h1 f1,← h2 f2,data_bs,data_bs]
theorem back_f {s:S}{s':S}(hst:s.2=true→s'.2=true) (hf:s'.2=false):s.2=false:=by
 cases h:s.2 with
 | false=>rfl
 | true=>rw [hst h] at hf;cases hf
theorem elK {s0 s1 s2 s3:S}{X:ByteArray}{n:Nat}{l:List UInt8}(e1:(tkTxt s0).2=s1) (e2:(tkNum 4 s1).2=s2) (e3:(tkHash s2).2=s3)
  (h1:s1.2=false→X.data.toList=(tkTxt s0).1) (h2:s2.2=false→n=(tkNum 4 s1).1) (h3:s3.2=false→l=(tkHash s2).1) :
  (cK.tk s0).2=s3∧((cK.tk s0).2.2=false→(⟨X,n,l⟩:Kd)=(cK.tk s0).1):=by
 obtain⟨V1,g1⟩:∃ V,tkTxt s0=(V,s1):=⟨_,Prod.ext rfl e1⟩
 obtain⟨V2,g2⟩:∃ V,tkNum 4 s1=(V,s2):=⟨_,Prod.ext rfl e2⟩
 obtain⟨V3,g3⟩:∃ V,tkHash s2=(V,s3):=⟨_,Prod.ext rfl e3⟩
 have st1:s1.2=true→s2.2=true:=fun h=>by have:=(num_good 4).stay s1 h;rw [show (cNum 4).tk s1=(V2,s2) from g2] at this;exact this
 have st2:s2.2=true→s3.2=true:=fun h=>by have:=hash_good.stay s2 h;rw [show cHash.tk s2=(V3,s3) from g3] at this;exact this
 have hX:=as_tk (A:=cTxt.pair ((cNum 4).pair cHash)) (f:=fun p=>(⟨bs p.1,p.2.1,p.2.2⟩:Kd)) (g:=fun x=>(x.k.data.toList,x.n,x.hs)) (pair_tk (A:=cTxt) g1 (pair_tk (A:=cNum 4) (B:=cHash) g2 g3))
 have hY:cK.tk s0=(⟨bs V1,V2,V3⟩,s3):=hX
 rw [hY]
 refine⟨rfl,fun f3=>?_⟩
 have f3:s3.2=false:=f3
 have f2:=back_f st2 f3
 have f1:=back_f st1 f2
 have q1:=h1 f1
 have q2:=h2 f2
 have q3:=h3 f3
 rw [g1] at q1
 rw [g2] at q2
 rw [g3] at q3
 show _=(⟨bs V1,V2,V3⟩:Kd)
 rw [q2,q3,← show X.data.toList=V1 from q1,data_bs]
theorem elV {s0 s1 s2 s3 s4 s5 s6:S}{X Y:ByteArray}{k b r:Nat}{l:List UInt8}(e1:(tkTxt s0).2=s1) (e2:(tkTxt s1).2=s2) (e3:(tkNum 1 s2).2=s3) (e4:(tkNum 8 s3).2=s4) (e5:(tkNum 4 s4).2=s5) (e6:(tkHash s5).2=s6)
  (h1:s1.2=false→X.data.toList=(tkTxt s0).1) (h2:s2.2=false→Y.data.toList=(tkTxt s1).1) (h3:s3.2=false→k=(tkNum 1 s2).1) (h4:s4.2=false→b=(tkNum 8 s3).1) (h5:s5.2=false→r=(tkNum 4 s4).1) (h6:s6.2=false→l=(tkHash s5).1) :
  (cV.tk s0).2=s6∧((cV.tk s0).2.2=false→(⟨X,k,Y,b,r,l⟩:Vo)=(cV.tk s0).1):=by
 obtain⟨V1,g1⟩:∃ V,tkTxt s0=(V,s1):=⟨_,Prod.ext rfl e1⟩
 obtain⟨V2,g2⟩:∃ V,tkTxt s1=(V,s2):=⟨_,Prod.ext rfl e2⟩
 obtain⟨V3,g3⟩:∃ V,tkNum 1 s2=(V,s3):=⟨_,Prod.ext rfl e3⟩
 obtain⟨V4,g4⟩:∃ V,tkNum 8 s3=(V,s4):=⟨_,Prod.ext rfl e4⟩
 obtain⟨V5,g5⟩:∃ V,tkNum 4 s4=(V,s5):=⟨_,Prod.ext rfl e5⟩
 obtain⟨V6,g6⟩:∃ V,tkHash s5=(V,s6):=⟨_,Prod.ext rfl e6⟩
 have st1:s1.2=true→s2.2=true:=fun h=>by have:=txt_good.stay s1 h;rw [show cTxt.tk s1=(V2,s2) from g2] at this;exact this
 have st2:s2.2=true→s3.2=true:=fun h=>by have:=(num_good 1).stay s2 h;rw [show (cNum 1).tk s2=(V3,s3) from g3] at this;exact this
 have st3:s3.2=true→s4.2=true:=fun h=>by have:=(num_good 8).stay s3 h;rw [show (cNum 8).tk s3=(V4,s4) from g4] at this;exact this
 have st4:s4.2=true→s5.2=true:=fun h=>by have:=(num_good 4).stay s4 h;rw [show (cNum 4).tk s4=(V5,s5) from g5] at this;exact this
 have st5:s5.2=true→s6.2=true:=fun h=>by have:=hash_good.stay s5 h;rw [show cHash.tk s5=(V6,s6) from g6] at this;exact this
 have hX:=as_tk (A:=cTxt.pair (cTxt.pair ((cNum 1).pair ((cNum 8).pair ((cNum 4).pair cHash))))) (f:=fun p=>(⟨bs p.1,p.2.2.1,bs p.2.1,p.2.2.2.1,p.2.2.2.2.1,p.2.2.2.2.2⟩:Vo)) (g:=fun x=>(x.nm.data.toList,x.fr.data.toList,x.kd,x.bn,x.rt,x.hs)) (pair_tk (A:=cTxt) g1 (pair_tk (A:=cTxt) g2 (pair_tk (A:=cNum 1) g3 (pair_tk (A:=cNum 8) g4 (pair_tk (A:=cNum 4) (B:=cHash) g5 g6)))))
 have hY:cV.tk s0=(⟨bs V1,V3,bs V2,V4,V5,V6⟩,s6):=hX
 rw [hY]
 refine⟨rfl,fun f6=>?_⟩
 have f6:s6.2=false:=f6
 have f5:=back_f st5 f6
 have f4:=back_f st4 f5
 have f3:=back_f st3 f4
 have f2:=back_f st2 f3
 have f1:=back_f st1 f2
 have q1:=h1 f1
 have q2:=h2 f2
 have q3:=h3 f3
 have q4:=h4 f4
 have q5:=h5 f5
 have q6:=h6 f6
 rw [g1] at q1
 rw [g2] at q2
 rw [g3] at q3
 rw [g4] at q4
 rw [g5] at q5
 rw [g6] at q6
 show _=(⟨bs V1,V3,bs V2,V4,V5,V6⟩:Vo)
 rw [q3,q4,q5,q6,← show X.data.toList=V1 from q1,← show Y.data.toList=V2 from q2,data_bs,data_bs]
abbrev Z32:List UInt8:=List.replicate 32 0
theorem fix_Z:u8s (fix Z32)=List.replicate 32 (.int .u8 0):=by rfl
structure TbStI (w0:World) (q r N kd:Nat) (v:Value) (D:List It.Itm) (s:S) (wr:World):Prop where
 tk:BagR wr q s
 row:wr.heap[N]?=some (.cells #[.int .u8 kd,v,zS,zS] 31 (0,0))
 res:wr.heap[r]?=some (.cells #[.int .u8 0,zS,zS,zS] 31 (0,0))
 own:MkI w0 wr v D
 w0q:w0.heap.size≤q
 qr:q<r
 rN:r<N
section
variable {w0 wr w':World}{q r N kd:Nat}{v:Value}{D:List It.Itm}{s s2:S}
theorem TbStI.off (h:TbStI w0 q r N kd v D s wr):v.ownBlock≠some q:=by
 obtain⟨S,h1,_⟩:=h.tk
 exact h.own.off h1 (by decide)
theorem TbStI.took (h:TbStI w0 q r N kd v D s wr) (ht:BagR w' q s2) (hg:wr.grownBy w' (some q)):TbStI w0 q r N kd v D s2 w' :=
 ⟨ht,(hg.block N (row_lt h.row) (fun e=>by have:=Option.some.inj e;have:=h.qr;have:=h.rN;omega)).trans h.row,(hg.block _ (row_lt h.res) (fun e=>by have:=Option.some.inj e;have:=h.qr;omega)).trans h.res,h.own.grownQ hg h.w0q h.off,h.w0q,h.qr,h.rN⟩
theorem TbStI.below (h:TbStI w0 q r N kd v D s wr) (hb:Below wr.heap.size wr w'):TbStI w0 q r N kd v D s w' :=
 ⟨h.tk.below hb,(hb.block N (row_lt h.row)).trans h.row,(hb.block _ (row_lt h.res)).trans h.res,h.own.go hb,h.w0q,h.qr,h.rN⟩
theorem TbStI.put (h:TbStI w0 q r N kd v D s wr){v':Value}{D':List It.Itm}(hm:MkI w0 w' v' D') (hg:wr.grownBy w' v.ownBlock):TbStI w0 q r N kd v' D' s (w'.setCell ⟨N,1,none⟩ v'):=by
 have hq:=h.off
 have hN:=h.own.off h.row (by decide)
 have hR:=h.own.off h.res (by decide)
 obtain⟨S,h1,h2,h3⟩:=h.tk
 have tq:w'.heap[q]?=_:=(hg.block q h1.lt (fun e=>hq e.symm)).trans h1
 have tN:=(hg.block N (row_lt h.row) (fun e=>hN e.symm)).trans h.row
 have tR:=(hg.block _ (row_lt h.res) (fun e=>hR e.symm)).trans h.res
 have hs:=grown_setCell w' ⟨N,1,none⟩ v'
 have qr:=h.qr
 have rN:=h.rN
 have q0:=h.w0q
 refine⟨⟨S,(hs.block q (row_lt tq) (fun e=>by have:q=N:=Option.some.inj e;omega)).trans tq,h2,h3⟩,?_,(hs.block _ (row_lt tR) (fun e=>by have:r=N:=Option.some.inj e;omega)).trans tR,hm.grownQ hs (show w0.heap.size≤N by omega) (hm.off tN (by decide)),h.w0q,h.qr,h.rN⟩
 simp [World.setCell,tN,Array.getElem?_modify]
theorem TbStI.out (h:TbStI w0 q r N kd v D s wr):NdOwn w0 (wr.setRow r #[.int .u8 kd,v,zS,zS]) #[.int .u8 kd,v,zS,zS] ⟨kd,D,[],[]⟩∧(wr.setRow r #[.int .u8 kd,v,zS,zS]).heap[r]?=some (.cells #[.int .u8 kd,v,zS,zS] 31 (0,0))∧BagR (wr.setRow r #[.int .u8 kd,v,zS,zS]) q s∧Below w0.heap.size w0 (wr.setRow r #[.int .u8 kd,v,zS,zS]):=by
 have hs:=grown_setRow wr r #[.int .u8 kd,v,zS,zS]
 have qr:=h.qr
 have q0:=h.w0q
 have hm:MkI w0 (wr.setRow r #[.int .u8 kd,v,zS,zS]) v D:=h.own.grownQ hs (by omega) (h.own.off h.res (by decide))
 exact⟨⟨_,_,_,rfl,hm,Mk.nil hm.2,Mk.nil hm.2⟩,setRow_heap' h.res,bag_far h.tk (by omega) _,hm.2⟩
end
structure TbStK (w0:World) (q r N kd:Nat) (v:Value) (D:List Kd) (s:S) (wr:World):Prop where
 tk:BagR wr q s
 row:wr.heap[N]?=some (.cells #[.int .u8 kd,zS,v,zS] 31 (0,0))
 res:wr.heap[r]?=some (.cells #[.int .u8 0,zS,zS,zS] 31 (0,0))
 own:MkK w0 wr v D
 w0q:w0.heap.size≤q
 qr:q<r
 rN:r<N
section
variable {w0 wr w':World}{q r N kd:Nat}{v:Value}{D:List Kd}{s s2:S}
theorem TbStK.off (h:TbStK w0 q r N kd v D s wr):v.ownBlock≠some q:=by
 obtain⟨S,h1,_⟩:=h.tk
 exact h.own.off h1 (by decide)
theorem TbStK.took (h:TbStK w0 q r N kd v D s wr) (ht:BagR w' q s2) (hg:wr.grownBy w' (some q)):TbStK w0 q r N kd v D s2 w' :=
 ⟨ht,(hg.block N (row_lt h.row) (fun e=>by have:=Option.some.inj e;have:=h.qr;have:=h.rN;omega)).trans h.row,(hg.block _ (row_lt h.res) (fun e=>by have:=Option.some.inj e;have:=h.qr;omega)).trans h.res,h.own.grownQ hg h.w0q h.off,h.w0q,h.qr,h.rN⟩
theorem TbStK.below (h:TbStK w0 q r N kd v D s wr) (hb:Below wr.heap.size wr w'):TbStK w0 q r N kd v D s w' :=
 ⟨h.tk.below hb,(hb.block N (row_lt h.row)).trans h.row,(hb.block _ (row_lt h.res)).trans h.res,h.own.go hb,h.w0q,h.qr,h.rN⟩
theorem TbStK.put (h:TbStK w0 q r N kd v D s wr){v':Value}{D':List Kd}(hm:MkK w0 w' v' D') (hg:wr.grownBy w' v.ownBlock):TbStK w0 q r N kd v' D' s (w'.setCell ⟨N,2,none⟩ v'):=by
 have hq:=h.off
 have hN:=h.own.off h.row (by decide)
 have hR:=h.own.off h.res (by decide)
 obtain⟨S,h1,h2,h3⟩:=h.tk
 have tq:w'.heap[q]?=_:=(hg.block q h1.lt (fun e=>hq e.symm)).trans h1
 have tN:=(hg.block N (row_lt h.row) (fun e=>hN e.symm)).trans h.row
 have tR:=(hg.block _ (row_lt h.res) (fun e=>hR e.symm)).trans h.res
 have hs:=grown_setCell w' ⟨N,2,none⟩ v'
 have qr:=h.qr
 have rN:=h.rN
 have q0:=h.w0q
 refine⟨⟨S,(hs.block q (row_lt tq) (fun e=>by have:q=N:=Option.some.inj e;omega)).trans tq,h2,h3⟩,?_,(hs.block _ (row_lt tR) (fun e=>by have:r=N:=Option.some.inj e;omega)).trans tR,hm.grownQ hs (show w0.heap.size≤N by omega) (hm.off tN (by decide)),h.w0q,h.qr,h.rN⟩
 simp [World.setCell,tN,Array.getElem?_modify]
theorem TbStK.out (h:TbStK w0 q r N kd v D s wr):NdOwn w0 (wr.setRow r #[.int .u8 kd,zS,v,zS]) #[.int .u8 kd,zS,v,zS] ⟨kd,[],D,[]⟩∧(wr.setRow r #[.int .u8 kd,zS,v,zS]).heap[r]?=some (.cells #[.int .u8 kd,zS,v,zS] 31 (0,0))∧BagR (wr.setRow r #[.int .u8 kd,zS,v,zS]) q s∧Below w0.heap.size w0 (wr.setRow r #[.int .u8 kd,zS,v,zS]):=by
 have hs:=grown_setRow wr r #[.int .u8 kd,zS,v,zS]
 have qr:=h.qr
 have q0:=h.w0q
 have hm:MkK w0 (wr.setRow r #[.int .u8 kd,zS,v,zS]) v D:=h.own.grownQ hs (by omega) (h.own.off h.res (by decide))
 exact⟨⟨_,_,_,rfl,Mk.nil hm.2,hm,Mk.nil hm.2⟩,setRow_heap' h.res,bag_far h.tk (by omega) _,hm.2⟩
end
structure TbStV (w0:World) (q r N kd:Nat) (v:Value) (D:List Vo) (s:S) (wr:World):Prop where
 tk:BagR wr q s
 row:wr.heap[N]?=some (.cells #[.int .u8 kd,zS,zS,v] 31 (0,0))
 res:wr.heap[r]?=some (.cells #[.int .u8 0,zS,zS,zS] 31 (0,0))
 own:MkV w0 wr v D
 w0q:w0.heap.size≤q
 qr:q<r
 rN:r<N
section
variable {w0 wr w':World}{q r N kd:Nat}{v:Value}{D:List Vo}{s s2:S}
theorem TbStV.off (h:TbStV w0 q r N kd v D s wr):v.ownBlock≠some q:=by
 obtain⟨S,h1,_⟩:=h.tk
 exact h.own.off h1 (by decide)
theorem TbStV.took (h:TbStV w0 q r N kd v D s wr) (ht:BagR w' q s2) (hg:wr.grownBy w' (some q)):TbStV w0 q r N kd v D s2 w' :=
 ⟨ht,(hg.block N (row_lt h.row) (fun e=>by have:=Option.some.inj e;have:=h.qr;have:=h.rN;omega)).trans h.row,(hg.block _ (row_lt h.res) (fun e=>by have:=Option.some.inj e;have:=h.qr;omega)).trans h.res,h.own.grownQ hg h.w0q h.off,h.w0q,h.qr,h.rN⟩
theorem TbStV.below (h:TbStV w0 q r N kd v D s wr) (hb:Below wr.heap.size wr w'):TbStV w0 q r N kd v D s w' :=
 ⟨h.tk.below hb,(hb.block N (row_lt h.row)).trans h.row,(hb.block _ (row_lt h.res)).trans h.res,h.own.go hb,h.w0q,h.qr,h.rN⟩
theorem TbStV.put (h:TbStV w0 q r N kd v D s wr){v':Value}{D':List Vo}(hm:MkV w0 w' v' D') (hg:wr.grownBy w' v.ownBlock):TbStV w0 q r N kd v' D' s (w'.setCell ⟨N,3,none⟩ v'):=by
 have hq:=h.off
 have hN:=h.own.off h.row (by decide)
 have hR:=h.own.off h.res (by decide)
 obtain⟨S,h1,h2,h3⟩:=h.tk
 have tq:w'.heap[q]?=_:=(hg.block q h1.lt (fun e=>hq e.symm)).trans h1
 have tN:=(hg.block N (row_lt h.row) (fun e=>hN e.symm)).trans h.row
 have tR:=(hg.block _ (row_lt h.res) (fun e=>hR e.symm)).trans h.res
 have hs:=grown_setCell w' ⟨N,3,none⟩ v'
 have qr:=h.qr
 have rN:=h.rN
 have q0:=h.w0q
 refine⟨⟨S,(hs.block q (row_lt tq) (fun e=>by have:q=N:=Option.some.inj e;omega)).trans tq,h2,h3⟩,?_,(hs.block _ (row_lt tR) (fun e=>by have:r=N:=Option.some.inj e;omega)).trans tR,hm.grownQ hs (show w0.heap.size≤N by omega) (hm.off tN (by decide)),h.w0q,h.qr,h.rN⟩
 simp [World.setCell,tN,Array.getElem?_modify]
theorem TbStV.out (h:TbStV w0 q r N kd v D s wr):NdOwn w0 (wr.setRow r #[.int .u8 kd,zS,zS,v]) #[.int .u8 kd,zS,zS,v] ⟨kd,[],[],D⟩∧(wr.setRow r #[.int .u8 kd,zS,zS,v]).heap[r]?=some (.cells #[.int .u8 kd,zS,zS,v] 31 (0,0))∧BagR (wr.setRow r #[.int .u8 kd,zS,zS,v]) q s∧Below w0.heap.size w0 (wr.setRow r #[.int .u8 kd,zS,zS,v]):=by
 have hs:=grown_setRow wr r #[.int .u8 kd,zS,zS,v]
 have qr:=h.qr
 have q0:=h.w0q
 have hm:MkV w0 (wr.setRow r #[.int .u8 kd,zS,zS,v]) v D:=h.own.grownQ hs (by omega) (h.own.off h.res (by decide))
 exact⟨⟨_,_,_,rfl,Mk.nil hm.2,Mk.nil hm.2,hm⟩,setRow_heap' h.res,bag_far h.tk (by omega) _,hm.2⟩
end
theorem rowK (X0:ByteArray):(#[.string X0,.int .u32 0,.int .u8 0,.int .u8 0,.int .u8 0,.int .u8 0,.int .u8 0,.int .u8 0,.int .u8 0,.int .u8 0,.int .u8 0,.int .u8 0,.int .u8 0,.int .u8 0,.int .u8 0,.int .u8 0,.int .u8 0,.int .u8 0,.int .u8 0,.int .u8 0,.int .u8 0,.int .u8 0,.int .u8 0,.int .u8 0,.int .u8 0,.int .u8 0,.int .u8 0,.int .u8 0,.int .u8 0,.int .u8 0,.int .u8 0,.int .u8 0,.int .u8 0,.int .u8 0]:Array Value)=(ecK ⟨X0,0,Z32⟩).toArray:=by unfold ecK;rw [fix_Z];rfl
theorem rowV (X0:ByteArray):(#[.string X0,.int .u8 0,.string ByteArray.empty,.int .u64 0,.int .u32 0,.int .u8 0,.int .u8 0,.int .u8 0,.int .u8 0,.int .u8 0,.int .u8 0,.int .u8 0,.int .u8 0,.int .u8 0,.int .u8 0,.int .u8 0,.int .u8 0,.int .u8 0,.int .u8 0,.int .u8 0,.int .u8 0,.int .u8 0,.int .u8 0,.int .u8 0,.int .u8 0,.int .u8 0,.int .u8 0,.int .u8 0,.int .u8 0,.int .u8 0,.int .u8 0,.int .u8 0,.int .u8 0,.int .u8 0,.int .u8 0,.int .u8 0,.int .u8 0]:Array Value)=(ecV ⟨X0,0,ByteArray.empty,0,0,Z32⟩).toArray:=by unfold ecV;rw [fix_Z];rfl
theorem litK_one (X0:ByteArray):(#[.string X0,.int .u32 0,.int .u8 0,.int .u8 0,.int .u8 0,.int .u8 0,.int .u8 0,.int .u8 0,.int .u8 0,.int .u8 0,.int .u8 0,.int .u8 0,.int .u8 0,.int .u8 0,.int .u8 0,.int .u8 0,.int .u8 0,.int .u8 0,.int .u8 0,.int .u8 0,.int .u8 0,.int .u8 0,.int .u8 0,.int .u8 0,.int .u8 0,.int .u8 0,.int .u8 0,.int .u8 0,.int .u8 0,.int .u8 0,.int .u8 0,.int .u8 0,.int .u8 0,.int .u8 0]:Array Value).all (·.oneCell')=true:=by rw [rowK X0];exact all_of_one (ecK_one _)
theorem litV_one (X0:ByteArray):(#[.string X0,.int .u8 0,.string ByteArray.empty,.int .u64 0,.int .u32 0,.int .u8 0,.int .u8 0,.int .u8 0,.int .u8 0,.int .u8 0,.int .u8 0,.int .u8 0,.int .u8 0,.int .u8 0,.int .u8 0,.int .u8 0,.int .u8 0,.int .u8 0,.int .u8 0,.int .u8 0,.int .u8 0,.int .u8 0,.int .u8 0,.int .u8 0,.int .u8 0,.int .u8 0,.int .u8 0,.int .u8 0,.int .u8 0,.int .u8 0,.int .u8 0,.int .u8 0,.int .u8 0,.int .u8 0,.int .u8 0,.int .u8 0,.int .u8 0]:Array Value).all (·.oneCell')=true:=by rw [rowV X0];exact all_of_one (ecV_one _)
theorem litK_inf (X0:ByteArray):(Tryz.prog.info? 45).map (·.size)=some (#[.string X0,.int .u32 0,.int .u8 0,.int .u8 0,.int .u8 0,.int .u8 0,.int .u8 0,.int .u8 0,.int .u8 0,.int .u8 0,.int .u8 0,.int .u8 0,.int .u8 0,.int .u8 0,.int .u8 0,.int .u8 0,.int .u8 0,.int .u8 0,.int .u8 0,.int .u8 0,.int .u8 0,.int .u8 0,.int .u8 0,.int .u8 0,.int .u8 0,.int .u8 0,.int .u8 0,.int .u8 0,.int .u8 0,.int .u8 0,.int .u8 0,.int .u8 0,.int .u8 0,.int .u8 0]:Array Value).size:=infoK34
theorem litV_inf (X0:ByteArray):(Tryz.prog.info? 121).map (·.size)=some (#[.string X0,.int .u8 0,.string ByteArray.empty,.int .u64 0,.int .u32 0,.int .u8 0,.int .u8 0,.int .u8 0,.int .u8 0,.int .u8 0,.int .u8 0,.int .u8 0,.int .u8 0,.int .u8 0,.int .u8 0,.int .u8 0,.int .u8 0,.int .u8 0,.int .u8 0,.int .u8 0,.int .u8 0,.int .u8 0,.int .u8 0,.int .u8 0,.int .u8 0,.int .u8 0,.int .u8 0,.int .u8 0,.int .u8 0,.int .u8 0,.int .u8 0,.int .u8 0,.int .u8 0,.int .u8 0,.int .u8 0,.int .u8 0,.int .u8 0]:Array Value).size:=infoV37
theorem fldI (x:It.Itm) (i:Nat) (h:i<2):i+1≤(It.enc x).toArray.size:=h
theorem fldK (x:Kd) (i:Nat) (h:i<34):i+1≤(ecK x).toArray.size:=by rw [List.size_toArray,ecK_len];exact h
theorem fldV (x:Vo) (i:Nat) (h:i<37):i+1≤(ecV x).toArray.size:=by rw [List.size_toArray,ecV_len];exact h
theorem hashK (x:Kd) (l:List UInt8) (h:l.length=32):((ecK x).toArray.toList.take 2++(u8s l).toArray.toList++(ecK x).toArray.toList.drop (2+(u8s l).toArray.size)).toArray=(ecK ⟨x.k,x.n,l⟩).toArray:=by
 have e:(ecK x).drop (2+(u8s l).toArray.size)=[]:=List.drop_of_length_le (by rw [ecK_len,List.size_toArray,u8s_length,h];decide)
 rw [List.toList_toArray,List.toList_toArray,e,List.append_nil]
 unfold ecK
 rw [fix_of h]
 rfl
theorem hashV (x:Vo) (l:List UInt8) (h:l.length=32):((ecV x).toArray.toList.take 5++(u8s l).toArray.toList++(ecV x).toArray.toList.drop (5+(u8s l).toArray.size)).toArray=(ecV ⟨x.nm,x.kd,x.fr,x.bn,x.rt,l⟩).toArray:=by
 have e:(ecV x).drop (5+(u8s l).toArray.size)=[]:=List.drop_of_length_le (by rw [ecV_len,List.size_toArray,u8s_length,h];decide)
 rw [List.toList_toArray,List.toList_toArray,e,List.append_nil]
 unfold ecV
 rw [fix_of h]
 rfl
set_option maxRecDepth 100000 in
set_option maxHeartbeats 8000000 in
theorem takeI (w0:World) (l0:List UInt8) (h2:2≤l0.length) (q:Nat) (hq0:w0.heap.size≤q) (w:World) (hB0:Below w0.heap.size w0 w) (h:BagR w q (l0,false)) (hkd:(tkNum 1 (l0,false)).1=1) :
  Calls Tryz.prog 71 #[.pointer (some ⟨q,0,none⟩)] w (BtPost w0 q l0):=by
 obtain⟨kd,⟨l1,b1⟩,e1⟩:∃ V s2,tkNum 1 (l0,false)=(V,s2):=⟨_,_,rfl⟩
 obtain⟨c,⟨l2,b2⟩,e2⟩:∃ V s2,tkNum 1 (l1,b1)=(V,s2):=⟨_,_,rfl⟩
 have hkd8:=num_byte (l0,false)
 have hc8:=num_byte (l1,b1)
 have m1:=num1_more (s:=(l0,false)) (by show 1≤l0.length;omega)
 rw [e1] at m1 hkd8 hkd
 obtain⟨rfl,rfl⟩:l1=l0.drop 1∧b1=false:=by simpa using m1
 have m2:=num1_more (s:=(l0.drop 1,false)) (by show 1≤(l0.drop 1).length;rw [List.length_drop];omega)
 rw [e2] at m2 hc8
 obtain⟨hl2,rfl⟩:l2=(l0.drop 1).drop 1∧b2=false:=by simpa using m2
 clear hl2 m1 m2
 generalize l0.drop 1=l1 at *
 dsimp only at hkd8 hc8 hkd
 have HC1:=hid (show ∀ w,BagR w q (l0,false)→Calls Tryz.prog 93 #[.pointer (some ⟨q,0,none⟩),.int .i64 1] w fun e w'=>e=.returned (.int .u64 (kd:Nat))∧BagR w' q (l1,false)∧w.grownBy w' (some q) from fun w h=>(number_R (l0,false) 1 q (by omega) (by omega) w h).mono fun e w' hh=>by
  obtain⟨v,rfl,_,hv,hb,hg⟩:=hh
  rw [e1] at hv hb
  rw [hv rfl]
  exact⟨rfl,hb,hg⟩)
 have HC2:=hid (show ∀ w,BagR w q (l1,false)→Calls Tryz.prog 93 #[.pointer (some ⟨q,0,none⟩),.int .i64 1] w fun e w'=>e=.returned (.int .u64 (c:Nat))∧BagR w' q (l2,false)∧w.grownBy w' (some q) from fun w h=>(number_R (l1,false) 1 q (by omega) (by omega) w h).mono fun e w' hh=>by
  obtain⟨v,rfl,_,hv,hb,hg⟩:=hh
  rw [e2] at hv hb
  rw [hv rfl]
  exact⟨rfl,hb,hg⟩)
 have HT:=hid (show tbN l0=(⟨kd,(tkMany cI c (l2,false)).1,[],[]⟩,(tkMany cI c (l2,false)).2.2) by
  unfold tbN
  rw [e1]
  dsimp only
  rw [e2]
  dsimp only
  rw [if_pos hkd])
 have HKD:=hid hkd
 have eu:IntKind.u8.wrap (kd:Int)=(kd:Int):=IntWalk.u8_in _ (by omega)
 have eu2:IntKind.i64.wrap (c:Int)=(c:Int):=IntWalk.i64_in _ ⟨by omega,by omega⟩
 have HC8:=hid hc8
 have hal:Below w.heap.size w (w.alloc (.cells #[.int .u8 0,zS,zS,zS] 31)):=(Below.refl _ _).alloc (Nat.le_refl _) _
 have HQL:=hid (show q<w.heap.size from (by obtain⟨S,h1,_⟩:=h;exact h1.lt))
 have HBG0:=hid (h.below hal)
 have HR0:=hid (heap_alloc_new w (.cells #[.int .u8 0,zS,zS,zS] 31))
 have HW0:=hid (hB0.trans (hal.mono hB0.size))
 have HQ0:=hid hq0
 clear hal h hB0 hq0 hkd e1 e2 h2 hkd8
 go_enter Tryz.func71,Tryz.ntmps71
 go_wp2_with fail
 generalize w.alloc _=w1 at *
 generalize w.heap.size=r at *
 refine (HC1.out _ HBG0.out).mono ?_
 rintro e w2 ⟨rfl,hb,hg⟩
 have HB2:=hid hb
 have HR2:=hid ((hg.block r (row_lt HR0.out) (fun e=>by have:=Option.some.inj e;have:=HQL.out;omega)).trans HR0.out)
 have HW2:=hid (HW0.out.grown hg HW0.out.size (fun k hk=>by cases hk;exact HQ0.out))
 clear hb hg HBG0 HR0 HW0 HC1
 go_wp2_with fail
 have hal:Below w2.heap.size w2 (w2.alloc (.cells #[.int .u8 kd,zS,zS,zS] 31)):=(Below.refl _ _).alloc (Nat.le_refl _) _
 have HN3:=hid (heap_alloc_new w2 (.cells #[.int .u8 kd,zS,zS,zS] 31))
 have HB3:=hid (HB2.out.below hal)
 have HR3:=hid ((hal.block r (row_lt HR2.out)).trans HR2.out)
 have HW3:=hid (HW2.out.trans (hal.mono HW2.out.size))
 have HS3:=hid (show TbStI w0 q r w2.heap.size kd zS [] (l1,false) (w2.alloc (.cells #[.int .u8 kd,zS,zS,zS] 31)) from⟨HB3.out,HN3.out,HR3.out,Mk.nil HW3.out,HQ0.out,HQL.out,row_lt HR2.out⟩)
 clear hal HN3 HB2 HR2 HW2 HR3 HW3
 generalize w2.alloc _=w3 at *
 generalize w2.heap.size=N at *
 refine (HC2.out _ HB3.out).mono ?_
 rintro e w4 ⟨rfl,hb,hg⟩
 have HS4:=hid (HS3.out.took hb hg)
 clear hb hg HS3 HB3 HC2 eu
 go_wp2_with fail
 go_loopw [5] (fun iv wr=>∃ (i:Nat) (v1:Value) (D:List It.Itm) (s:S),i≤c∧iv=.int .i64 i∧Hid (TbStI w0 q r N kd v1 D s wr)∧Hid (D.length≤i)∧Hid (InvB cI c (l2,false) i D s)) (fun iv _=>c-(intOf iv).toNat)
 case atStart=>exact⟨0,zS,[],(l2,false),Nat.zero_le _,by go_num,HS4.out,Nat.zero_le _,⟨fun _=>TkInv.start,fun h=>(by cases h)⟩⟩
 case round =>
  obtain⟨i,v1,D,s,hi,rfl,hst,hdl,hinv⟩:=hrel
  obtain⟨SB,hbag,hbz,hbe⟩:=(Hid.out hst).tk
  have c1:wr.cell? ⟨q,1,none⟩=some (.bool s.2):=hbag.c1
  have HQW:=hid hbag.lt
  clear hbag hbz hbe
  have k0:wr.cell? ⟨N,0,none⟩=some (.int .u8 kd):=cell_of_row _ _ 0 _ _ _ (Hid.out hst).row
  have q1:((kd:Int)==1)=true:=by rw [HKD.out];rfl
  have HINV:=hid (Hid.out hinv)
  have HST:=hid (Hid.out hst)
  have HDL:=hid (show D.length≤255 by have:=Hid.out hdl;omega)
  have HDLI:=hid (Hid.out hdl)
  clear hinv hst hdl
  cases hb:s.2
  ·rw [hb] at c1
   have HSB:=hid hb
   clear hb
   by_cases hlt:i<c
   ·have HNL:=hid (show N<wr.heap.size from row_lt HST.out.row)
    have HT0:=hid (fun W (hB:BagR W q s)=>text_R s q W hB)
    go_wp2_with fail
    refine (HT0.out _ HST.out.tk).mono ?_
    rintro e w1 ⟨X0,rfl,hz,hX,hB,hg⟩
    have HX0:=hid hX
    have HB1:=hid hB
    have HG1:=hid hg
    obtain⟨s1,he1⟩:∃ s1,(tkTxt s).2=s1:=⟨_,rfl⟩
    rw [he1] at HB1 HX0
    have HE1:=hid he1
    clear hz hX hB hg he1 HT0 c1 k0
    have HGS:=hid (Nat.lt_of_lt_of_le HQW.out HG1.out.size)
    go_wp2_with fail
    have hal:Below w1.heap.size w1 (w1.alloc (.cells (It.enc ⟨X0,ByteArray.empty⟩).toArray 63)):=(Below.refl _ _).alloc (Nat.le_refl _) _
    have HR2:=hid (heap_alloc_new w1 (.cells (It.enc ⟨X0,ByteArray.empty⟩).toArray 63))
    have HB2:=hid (HB1.out.below hal)
    have HG2:=hid (grown_trans HG1.out (grown_of_below hal _))
    have HGN:=hid (show wr.heap.size≤w1.heap.size from HG1.out.size)
    have HGQ:=hid (show w1.heap.size≠q from Nat.ne_of_gt HGS.out)
    clear hal HB1 HG1
    change Calls _ _ _ (w1.alloc (.cells (It.enc ⟨X0,ByteArray.empty⟩).toArray 63)) _
    generalize w1.alloc _=w2 at *
    generalize w1.heap.size=g at *
    refine (text_R s1 q _ HB2.out).mono ?_
    rintro e w3 ⟨X1,rfl,hz,hX,hB,hg⟩
    have HX1:=hid hX
    have HB3:=hid hB
    have HG3:=hid (grown_trans HG2.out hg)
    have HR3:=hid ((hg.block g (row_lt HR2.out) (fun e=>HGQ.out (Option.some.inj e))).trans HR2.out)
    obtain⟨s2,he2⟩:∃ s9,(tkTxt s1).2=s9:=⟨_,rfl⟩
    rw [he2] at HB3 HX1
    have HE2:=hid he2
    clear hX hB hg he2 HB2 HG2 HR2
    clear hz
    have HINV2:=hid (show InvB cI c (l2,false) (i+1) (D++[⟨X0,X1⟩]) s2 by
     have h:=HINV.out.go HSB.out hlt I_less (x:=⟨X0,X1⟩) (elI (by rw [HE1.out];exact HX0.out) (by rw [HE1.out,HE2.out];exact HX1.out))
     rwa [show (cI.tk s).2=s2 by show (tkTxt (tkTxt s).2).2=s2;rw [HE1.out,HE2.out]] at h)
    have HDL2:=hid (show (D++[(⟨X0,X1⟩:It.Itm)]).length≤i+1 by rw [List.length_append];have:=HDLI.out;simp;exact this)
    go_wp2_with (first
     | (refine wpList_store_part rfl 9 (.tmp 40) (.tmp 39) rfl g 1 (.string X1) #[.string X1] rfl rfl 63 (It.enc ⟨X0,ByteArray.empty⟩).toArray (It.enc ⟨X0,X1⟩).toArray HR3.out rfl infoS1 (fldI _ _ (by decide)) (one_all _ rfl) (by rfl) ?_;have HR4:=hid (setRow_heap' (cs:=(It.enc ⟨X0,X1⟩).toArray) HR3.out);have HB4:=hid (bag_far HB3.out HGQ.out ((It.enc ⟨X0,X1⟩).toArray));have HG4:=hid (far_row HG3.out HGN.out ((It.enc ⟨X0,X1⟩).toArray));generalize World.setRow _ _ _=w4 at *;clear HR3 HB3 HG3;have cN:w4.cell? ⟨N,1,none⟩=some v1:=cell_of_row _ _ 1 _ _ _ (HST.out.took HB4.out HG4.out).row)
     | (refine wpList_load_row rfl 63 (.tmp 6) rfl g rfl 63 (It.enc ⟨X0,X1⟩).toArray (0,0) _ HR4.out Tryz.underlying63 rfl (infoIs _) ?_)
     | (refine wpList_plain rfl (fun K1 hK1=>op_oneI (.tmp 43) ⟨X0,X1⟩ rfl rfl (hK1 _ _ ?_));have hal:Below w4.heap.size w4 (w4.alloc (.cells (It.enc (⟨X0,X1⟩:It.Itm)).toArray 63)):=(Below.refl _ _).alloc (Nat.le_refl _) _;have HS9:=hid ((HST.out.took HB4.out HG4.out).below hal);have HX9:=hid (heap_alloc_new w4 (.cells (It.enc (⟨X0,X1⟩:It.Itm)).toArray 63));clear hal cN;generalize w4.alloc _=w9 at *;generalize w4.heap.size=g9 at *)
     | (refine wpList_plain rfl (fun K1 hK1=>op_catI HS9.out.own ⟨X0,X1⟩ g9 1 HX9.out (by have:=HDL.out;omega) (.tmp 42) (.tmp 44) rfl rfl rfl (fun v5 w5 hm5 hg5 hat5=>hK1 _ _ ?_));obtain⟨A5,n5,c5,rfl⟩:∃ A n c,v5=.slice A n c:=(by obtain⟨A,c,h,_⟩:=hm5.ls It.enc_len;exact⟨A,_,c,h⟩);have HS5x:=hid (HS9.out.put hm5 hg5);have hN5:=HS9.out.own.off HS9.out.row (by decide);have tN:=(hg5.block N (row_lt HS9.out.row) (fun e=>hN5 e.symm)).trans HS9.out.row;have c5N:=cell_of_row w5 _ 1 _ _ _ tN;have f5N:w5.frozen? ⟨N,1,none⟩=false:=frozen_of_row _ _ _ _ _ tN;clear hm5 hg5 hat5 hN5 tN))
    exact⟨⟨i+1,_,_,s2,by omega,by go_num,HS5x.out,HDL2.out,HINV2.out⟩,by simp [intOf]<;>omega⟩
   ·have HDN:=hid (show (tkMany cI c (l2,false))=(D,(s.1,false)) from (HINV.out.1 HSB.out).done hlt)
    have HP:=hid (show (tbN l0).2=s.2∧((tbN l0).2=false→(tbN l0).1=⟨kd,D,[],[]⟩) by rw [HT.out,HDN.out,HSB.out];exact⟨rfl,fun _=>rfl⟩)
    have HONE:=hid (show (#[.int .u8 kd,v1,zS,zS]:Array Value).all (·.oneCell')=true by rcases HST.out.own.1.2 with ⟨h,_⟩ | ⟨g,cap,cur,h,_⟩<;>(subst h;exact four_cells _ _ _ _ rfl rfl rfl rfl))
    obtain⟨hown,hrow,hbag,hbel⟩:=HST.out.out
    have HOWN:=hid hown
    have HROW:=hid hrow
    have HBAG:=hid hbag
    have HBEL:=hid hbel
    clear hown hrow hbag hbel
    go_wp2_with (first
     | (refine wpList_load_row rfl 31 (.tmp 3) rfl N rfl 31 #[.int .u8 kd,v1,zS,zS] (0,0) _ HST.out.row Tryz.underlying31 rfl infoN4 ?_)
     | (refine wpList_store_row rfl 31 (.tmp 2) (.tmp 93) rfl r #[.int .u8 kd,v1,zS,zS] rfl rfl 31 #[.int .u8 0,zS,zS,zS] HST.out.res infoN4 rfl HONE.out ?_))
    refine bodyPost_ret (v:=.agg #[.int .u8 kd,v1,zS,zS]) (results_cell_row rfl _ _ r 31 #[.int .u8 kd,v1,zS,zS] (0,0) _ rfl HROW.out Tryz.underlying31 rfl infoN4) rfl ?_
    obtain⟨S,b1,_,_⟩:=HBAG.out
    exact⟨_,S,rfl,by rw [HP.out.1];exact b1,HBEL.out,rfl,HONE.out,fun h=>by rw [HP.out.2 h];exact HOWN.out⟩
  ·rw [hb] at c1
   have HSB:=hid hb
   clear hb
   have HP:=hid (show (tbN l0).2=s.2∧((tbN l0).2=false→(tbN l0).1=⟨kd,D,[],[]⟩) by
    have h:=HINV.out.2 HSB.out
    rw [HT.out,HSB.out]
    exact⟨h,fun h2=>by rw [show (tkMany cI c (l2,false)).2.2=false from h2] at h;cases h⟩)
   by_cases hlt:i<c
   ·have HONE:=hid (show (#[.int .u8 kd,v1,zS,zS]:Array Value).all (·.oneCell')=true by rcases HST.out.own.1.2 with ⟨h,_⟩ | ⟨g,cap,cur,h,_⟩<;>(subst h;exact four_cells _ _ _ _ rfl rfl rfl rfl))
    obtain⟨hown,hrow,hbag,hbel⟩:=HST.out.out
    have HOWN:=hid hown
    have HROW:=hid hrow
    have HBAG:=hid hbag
    have HBEL:=hid hbel
    clear hown hrow hbag hbel
    go_wp2_with (first
     | (refine wpList_load_row rfl 31 (.tmp 3) rfl N rfl 31 #[.int .u8 kd,v1,zS,zS] (0,0) _ HST.out.row Tryz.underlying31 rfl infoN4 ?_)
     | (refine wpList_store_row rfl 31 (.tmp 2) (.tmp 93) rfl r #[.int .u8 kd,v1,zS,zS] rfl rfl 31 #[.int .u8 0,zS,zS,zS] HST.out.res infoN4 rfl HONE.out ?_))
    refine bodyPost_ret (v:=.agg #[.int .u8 kd,v1,zS,zS]) (results_cell_row rfl _ _ r 31 #[.int .u8 kd,v1,zS,zS] (0,0) _ rfl HROW.out Tryz.underlying31 rfl infoN4) rfl ?_
    obtain⟨S,b1,_,_⟩:=HBAG.out
    exact⟨_,S,rfl,by rw [HP.out.1];exact b1,HBEL.out,rfl,HONE.out,fun h=>by rw [HP.out.2 h];exact HOWN.out⟩
   ·have HONE:=hid (show (#[.int .u8 kd,v1,zS,zS]:Array Value).all (·.oneCell')=true by rcases HST.out.own.1.2 with ⟨h,_⟩ | ⟨g,cap,cur,h,_⟩<;>(subst h;exact four_cells _ _ _ _ rfl rfl rfl rfl))
    obtain⟨hown,hrow,hbag,hbel⟩:=HST.out.out
    have HOWN:=hid hown
    have HROW:=hid hrow
    have HBAG:=hid hbag
    have HBEL:=hid hbel
    clear hown hrow hbag hbel
    go_wp2_with (first
     | (refine wpList_load_row rfl 31 (.tmp 3) rfl N rfl 31 #[.int .u8 kd,v1,zS,zS] (0,0) _ HST.out.row Tryz.underlying31 rfl infoN4 ?_)
     | (refine wpList_store_row rfl 31 (.tmp 2) (.tmp 93) rfl r #[.int .u8 kd,v1,zS,zS] rfl rfl 31 #[.int .u8 0,zS,zS,zS] HST.out.res infoN4 rfl HONE.out ?_))
    refine bodyPost_ret (v:=.agg #[.int .u8 kd,v1,zS,zS]) (results_cell_row rfl _ _ r 31 #[.int .u8 kd,v1,zS,zS] (0,0) _ rfl HROW.out Tryz.underlying31 rfl infoN4) rfl ?_
    obtain⟨S,b1,_,_⟩:=HBAG.out
    exact⟨_,S,rfl,by rw [HP.out.1];exact b1,HBEL.out,rfl,HONE.out,fun h=>by rw [HP.out.2 h];exact HOWN.out⟩
set_option maxRecDepth 100000 in
set_option maxHeartbeats 8000000 in
theorem takeK (w0:World) (l0:List UInt8) (h2:2≤l0.length) (q:Nat) (hq0:w0.heap.size≤q) (w:World) (hB0:Below w0.heap.size w0 w) (h:BagR w q (l0,false)) (hkd:(tkNum 1 (l0,false)).1=2) :
  Calls Tryz.prog 71 #[.pointer (some ⟨q,0,none⟩)] w (BtPost w0 q l0):=by
 obtain⟨kd,⟨l1,b1⟩,e1⟩:∃ V s2,tkNum 1 (l0,false)=(V,s2):=⟨_,_,rfl⟩
 obtain⟨c,⟨l2,b2⟩,e2⟩:∃ V s2,tkNum 1 (l1,b1)=(V,s2):=⟨_,_,rfl⟩
 have hkd8:=num_byte (l0,false)
 have hc8:=num_byte (l1,b1)
 have m1:=num1_more (s:=(l0,false)) (by show 1≤l0.length;omega)
 rw [e1] at m1 hkd8 hkd
 obtain⟨rfl,rfl⟩:l1=l0.drop 1∧b1=false:=by simpa using m1
 have m2:=num1_more (s:=(l0.drop 1,false)) (by show 1≤(l0.drop 1).length;rw [List.length_drop];omega)
 rw [e2] at m2 hc8
 obtain⟨hl2,rfl⟩:l2=(l0.drop 1).drop 1∧b2=false:=by simpa using m2
 clear hl2 m1 m2
 generalize l0.drop 1=l1 at *
 dsimp only at hkd8 hc8 hkd
 have HC1:=hid (show ∀ w,BagR w q (l0,false)→Calls Tryz.prog 93 #[.pointer (some ⟨q,0,none⟩),.int .i64 1] w fun e w'=>e=.returned (.int .u64 (kd:Nat))∧BagR w' q (l1,false)∧w.grownBy w' (some q) from fun w h=>(number_R (l0,false) 1 q (by omega) (by omega) w h).mono fun e w' hh=>by
  obtain⟨v,rfl,_,hv,hb,hg⟩:=hh
  rw [e1] at hv hb
  rw [hv rfl]
  exact⟨rfl,hb,hg⟩)
 have HC2:=hid (show ∀ w,BagR w q (l1,false)→Calls Tryz.prog 93 #[.pointer (some ⟨q,0,none⟩),.int .i64 1] w fun e w'=>e=.returned (.int .u64 (c:Nat))∧BagR w' q (l2,false)∧w.grownBy w' (some q) from fun w h=>(number_R (l1,false) 1 q (by omega) (by omega) w h).mono fun e w' hh=>by
  obtain⟨v,rfl,_,hv,hb,hg⟩:=hh
  rw [e2] at hv hb
  rw [hv rfl]
  exact⟨rfl,hb,hg⟩)
 have HT:=hid (show tbN l0=(⟨kd,[],(tkMany cK c (l2,false)).1,[]⟩,(tkMany cK c (l2,false)).2.2) by
  unfold tbN
  rw [e1]
  dsimp only
  rw [e2]
  dsimp only
  rw [if_neg (by omega),if_pos hkd])
 have HKD:=hid hkd
 have eu:IntKind.u8.wrap (kd:Int)=(kd:Int):=IntWalk.u8_in _ (by omega)
 have eu2:IntKind.i64.wrap (c:Int)=(c:Int):=IntWalk.i64_in _ ⟨by omega,by omega⟩
 have HC8:=hid hc8
 have hal:Below w.heap.size w (w.alloc (.cells #[.int .u8 0,zS,zS,zS] 31)):=(Below.refl _ _).alloc (Nat.le_refl _) _
 have HQL:=hid (show q<w.heap.size from (by obtain⟨S,h1,_⟩:=h;exact h1.lt))
 have HBG0:=hid (h.below hal)
 have HR0:=hid (heap_alloc_new w (.cells #[.int .u8 0,zS,zS,zS] 31))
 have HW0:=hid (hB0.trans (hal.mono hB0.size))
 have HQ0:=hid hq0
 clear hal h hB0 hq0 hkd e1 e2 h2 hkd8
 go_enter Tryz.func71,Tryz.ntmps71
 go_wp2_with fail
 generalize w.alloc _=w1 at *
 generalize w.heap.size=r at *
 refine (HC1.out _ HBG0.out).mono ?_
 rintro e w2 ⟨rfl,hb,hg⟩
 have HB2:=hid hb
 have HR2:=hid ((hg.block r (row_lt HR0.out) (fun e=>by have:=Option.some.inj e;have:=HQL.out;omega)).trans HR0.out)
 have HW2:=hid (HW0.out.grown hg HW0.out.size (fun k hk=>by cases hk;exact HQ0.out))
 clear hb hg HBG0 HR0 HW0 HC1
 go_wp2_with fail
 have hal:Below w2.heap.size w2 (w2.alloc (.cells #[.int .u8 kd,zS,zS,zS] 31)):=(Below.refl _ _).alloc (Nat.le_refl _) _
 have HN3:=hid (heap_alloc_new w2 (.cells #[.int .u8 kd,zS,zS,zS] 31))
 have HB3:=hid (HB2.out.below hal)
 have HR3:=hid ((hal.block r (row_lt HR2.out)).trans HR2.out)
 have HW3:=hid (HW2.out.trans (hal.mono HW2.out.size))
 have HS3:=hid (show TbStK w0 q r w2.heap.size kd zS [] (l1,false) (w2.alloc (.cells #[.int .u8 kd,zS,zS,zS] 31)) from⟨HB3.out,HN3.out,HR3.out,Mk.nil HW3.out,HQ0.out,HQL.out,row_lt HR2.out⟩)
 clear hal HN3 HB2 HR2 HW2 HR3 HW3
 generalize w2.alloc _=w3 at *
 generalize w2.heap.size=N at *
 refine (HC2.out _ HB3.out).mono ?_
 rintro e w4 ⟨rfl,hb,hg⟩
 have HS4:=hid (HS3.out.took hb hg)
 clear hb hg HS3 HB3 HC2 eu
 go_wp2_with fail
 go_loopw [5] (fun iv wr=>∃ (i:Nat) (v1:Value) (D:List Kd) (s:S),i≤c∧iv=.int .i64 i∧Hid (TbStK w0 q r N kd v1 D s wr)∧Hid (D.length≤i)∧Hid (InvB cK c (l2,false) i D s)) (fun iv _=>c-(intOf iv).toNat)
 case atStart=>exact⟨0,zS,[],(l2,false),Nat.zero_le _,by go_num,HS4.out,Nat.zero_le _,⟨fun _=>TkInv.start,fun h=>(by cases h)⟩⟩
 case round =>
  obtain⟨i,v1,D,s,hi,rfl,hst,hdl,hinv⟩:=hrel
  obtain⟨SB,hbag,hbz,hbe⟩:=(Hid.out hst).tk
  have c1:wr.cell? ⟨q,1,none⟩=some (.bool s.2):=hbag.c1
  have HQW:=hid hbag.lt
  clear hbag hbz hbe
  have k0:wr.cell? ⟨N,0,none⟩=some (.int .u8 kd):=cell_of_row _ _ 0 _ _ _ (Hid.out hst).row
  have q1:((kd:Int)==1)=false:=by rw [beq_eq_false_iff_ne];have:=HKD.out;omega
  have q2:((kd:Int)==2)=true:=by rw [HKD.out];rfl
  have HINV:=hid (Hid.out hinv)
  have HST:=hid (Hid.out hst)
  have HDL:=hid (show D.length≤255 by have:=Hid.out hdl;omega)
  have HDLI:=hid (Hid.out hdl)
  clear hinv hst hdl
  cases hb:s.2
  ·rw [hb] at c1
   have HSB:=hid hb
   clear hb
   by_cases hlt:i<c
   ·have HNL:=hid (show N<wr.heap.size from row_lt HST.out.row)
    have HT0:=hid (fun W (hB:BagR W q s)=>text_R s q W hB)
    go_wp2_with fail
    refine (HT0.out _ HST.out.tk).mono ?_
    rintro e w1 ⟨X0,rfl,hz,hX,hB,hg⟩
    have HX0:=hid hX
    have HB1:=hid hB
    have HG1:=hid hg
    obtain⟨s1,he1⟩:∃ s1,(tkTxt s).2=s1:=⟨_,rfl⟩
    rw [he1] at HB1 HX0
    have HE1:=hid he1
    clear hz hX hB hg he1 HT0 c1 k0
    have HGS:=hid (Nat.lt_of_lt_of_le HQW.out HG1.out.size)
    go_wp2_with (refine wpList_fresh rfl 45 (.tmp 7) (.tmp 51) rfl #[.string X0,.int .u32 0,.int .u8 0,.int .u8 0,.int .u8 0,.int .u8 0,.int .u8 0,.int .u8 0,.int .u8 0,.int .u8 0,.int .u8 0,.int .u8 0,.int .u8 0,.int .u8 0,.int .u8 0,.int .u8 0,.int .u8 0,.int .u8 0,.int .u8 0,.int .u8 0,.int .u8 0,.int .u8 0,.int .u8 0,.int .u8 0,.int .u8 0,.int .u8 0,.int .u8 0,.int .u8 0,.int .u8 0,.int .u8 0,.int .u8 0,.int .u8 0,.int .u8 0,.int .u8 0] _ 45 rfl rfl (litK_inf X0) rfl (litK_one X0) ?_;intro w2 hb2 hr2 hz2;rw [rowK X0] at hr2;have HR2:=hid hr2;have HB2:=hid (HB1.out.below hb2);have HG2:=hid (grown_trans HG1.out (grown_of_below hb2 _));have HGN:=hid (show wr.heap.size≤w1.heap.size from HG1.out.size);have HGQ:=hid (show w1.heap.size≠q from Nat.ne_of_gt HGS.out);clear hb2 hr2 hz2 HB1 HG1;generalize w1.heap.size=g at *)
    refine (number_R s1 4 q (by omega) (by omega) _ HB2.out).mono ?_
    rintro e w3 ⟨n1,rfl,hz,hX,hB,hg⟩
    have HX1:=hid hX
    have HB3:=hid hB
    have HG3:=hid (grown_trans HG2.out hg)
    have HR3:=hid ((hg.block g (row_lt HR2.out) (fun e=>HGQ.out (Option.some.inj e))).trans HR2.out)
    obtain⟨s2,he2⟩:∃ s9,(tkNum 4 s1).2=s9:=⟨_,rfl⟩
    rw [he2] at HB3 HX1
    have HE2:=hid he2
    have hu1:IntKind.u32.wrap (n1:Int)=n1:=Sp.u32_same hz
    clear hX hB hg he2 HB2 HG2 HR2
    clear hz
    go_wp2_with (refine wpList_store_part rfl 22 (.tmp 55) (.tmp 54) rfl g 1 (.int .u32 n1) #[.int .u32 n1] rfl rfl 45 (ecK ⟨X0,0,Z32⟩).toArray (ecK ⟨X0,n1,Z32⟩).toArray HR3.out rfl infoU32 (fldK _ _ (by decide)) (one_all _ rfl) (by rfl) ?_;have HR4:=hid (setRow_heap' (cs:=(ecK ⟨X0,n1,Z32⟩).toArray) HR3.out);have HB4:=hid (bag_far HB3.out HGQ.out ((ecK ⟨X0,n1,Z32⟩).toArray));have HG4:=hid (far_row HG3.out HGN.out ((ecK ⟨X0,n1,Z32⟩).toArray));generalize World.setRow _ _ _=w4 at *;clear HR3 HB3 HG3)
    refine (hash_R s2 q _ HB4.out).mono ?_
    rintro e w5 ⟨l2x,rfl,hz,hX,hB,hg⟩
    have HX2:=hid hX
    have HB5:=hid hB
    have HG5:=hid (grown_trans HG4.out hg)
    have HR5:=hid ((hg.block g (row_lt HR4.out) (fun e=>HGQ.out (Option.some.inj e))).trans HR4.out)
    obtain⟨s3,he3⟩:∃ s9,(tkHash s2).2=s9:=⟨_,rfl⟩
    rw [he3] at HB5 HX2
    have HE3:=hid he3
    clear hX hB hg he3 HB4 HG4 HR4
    have HL:=hid hz
    clear hz
    have HINV2:=hid (show InvB cK c (l2,false) (i+1) (D++[⟨X0,n1,l2x⟩]) s3 by
     obtain⟨he,hx⟩:=elK HE1.out HE2.out HE3.out HX0.out HX1.out HX2.out
     have h:=HINV.out.go HSB.out hlt K_less (x:=⟨X0,n1,l2x⟩) hx
     rwa [he] at h)
    have HDL2:=hid (show (D++[(⟨X0,n1,l2x⟩:Kd)]).length≤i+1 by rw [List.length_append];have:=HDLI.out;simp;exact this)
    go_wp2_with (first
     | (refine wpList_store_part rfl 43 (.tmp 58) (.tmp 57) rfl g 2 (.agg (u8s l2x).toArray) (u8s l2x).toArray rfl rfl 45 (ecK ⟨X0,n1,Z32⟩).toArray (ecK ⟨X0,n1,l2x⟩).toArray HR5.out rfl (show (Tryz.prog.info? 43).map (·.size)=some (u8s l2x).toArray.size by rw [List.size_toArray,u8s_length,HL.out];exact infoH32) (show 2+(u8s l2x).toArray.size≤(ecK ⟨X0,n1,Z32⟩).toArray.size by rw [List.size_toArray,List.size_toArray,u8s_length,HL.out,ecK_len];decide) (all_of_one (u8s_cell l2x)) (hashK _ _ HL.out) ?_;have HR6:=hid (setRow_heap' (cs:=(ecK ⟨X0,n1,l2x⟩).toArray) HR5.out);have HB6:=hid (bag_far HB5.out HGQ.out ((ecK ⟨X0,n1,l2x⟩).toArray));have HG6:=hid (far_row HG5.out HGN.out ((ecK ⟨X0,n1,l2x⟩).toArray));generalize World.setRow _ _ _=w6 at *;clear HR5 HB5 HG5;have cN:w6.cell? ⟨N,2,none⟩=some v1:=cell_of_row _ _ 2 _ _ _ (HST.out.took HB6.out HG6.out).row)
     | (refine wpList_load_row rfl 45 (.tmp 7) rfl g rfl 45 (ecK ⟨X0,n1,l2x⟩).toArray (0,0) _ HR6.out Tryz.underlying45 rfl (infoKa _) ?_)
     | (refine wpList_plain rfl (fun K1 hK1=>op_oneK (.tmp 61) ⟨X0,n1,l2x⟩ rfl rfl (hK1 _ _ ?_));have hal:Below w6.heap.size w6 (w6.alloc (.cells (ecK (⟨X0,n1,l2x⟩:Kd)).toArray 45)):=(Below.refl _ _).alloc (Nat.le_refl _) _;have HS9:=hid ((HST.out.took HB6.out HG6.out).below hal);have HX9:=hid (heap_alloc_new w6 (.cells (ecK (⟨X0,n1,l2x⟩:Kd)).toArray 45));clear hal cN;generalize w6.alloc _=w9 at *;generalize w6.heap.size=g9 at *)
     | (refine wpList_plain rfl (fun K1 hK1=>op_catK HS9.out.own ⟨X0,n1,l2x⟩ g9 1 HX9.out (by have:=HDL.out;omega) (.tmp 60) (.tmp 62) rfl rfl rfl (fun v5 w5 hm5 hg5 hat5=>hK1 _ _ ?_));obtain⟨A5,n5,c5,rfl⟩:∃ A n c,v5=.slice A n c:=(by obtain⟨A,c,h,_⟩:=hm5.ls ecK_len;exact⟨A,_,c,h⟩);have HS5x:=hid (HS9.out.put hm5 hg5);have hN5:=HS9.out.own.off HS9.out.row (by decide);have tN:=(hg5.block N (row_lt HS9.out.row) (fun e=>hN5 e.symm)).trans HS9.out.row;have c5N:=cell_of_row w5 _ 2 _ _ _ tN;have f5N:w5.frozen? ⟨N,2,none⟩=false:=frozen_of_row _ _ _ _ _ tN;clear hm5 hg5 hat5 hN5 tN))
    exact⟨⟨i+1,_,_,s3,by omega,by go_num,HS5x.out,HDL2.out,HINV2.out⟩,by simp [intOf]<;>omega⟩
   ·have HDN:=hid (show (tkMany cK c (l2,false))=(D,(s.1,false)) from (HINV.out.1 HSB.out).done hlt)
    have HP:=hid (show (tbN l0).2=s.2∧((tbN l0).2=false→(tbN l0).1=⟨kd,[],D,[]⟩) by rw [HT.out,HDN.out,HSB.out];exact⟨rfl,fun _=>rfl⟩)
    have HONE:=hid (show (#[.int .u8 kd,zS,v1,zS]:Array Value).all (·.oneCell')=true by rcases HST.out.own.1.2 with ⟨h,_⟩ | ⟨g,cap,cur,h,_⟩<;>(subst h;exact four_cells _ _ _ _ rfl rfl rfl rfl))
    obtain⟨hown,hrow,hbag,hbel⟩:=HST.out.out
    have HOWN:=hid hown
    have HROW:=hid hrow
    have HBAG:=hid hbag
    have HBEL:=hid hbel
    clear hown hrow hbag hbel
    go_wp2_with (first
     | (refine wpList_load_row rfl 31 (.tmp 3) rfl N rfl 31 #[.int .u8 kd,zS,v1,zS] (0,0) _ HST.out.row Tryz.underlying31 rfl infoN4 ?_)
     | (refine wpList_store_row rfl 31 (.tmp 2) (.tmp 93) rfl r #[.int .u8 kd,zS,v1,zS] rfl rfl 31 #[.int .u8 0,zS,zS,zS] HST.out.res infoN4 rfl HONE.out ?_))
    refine bodyPost_ret (v:=.agg #[.int .u8 kd,zS,v1,zS]) (results_cell_row rfl _ _ r 31 #[.int .u8 kd,zS,v1,zS] (0,0) _ rfl HROW.out Tryz.underlying31 rfl infoN4) rfl ?_
    obtain⟨S,b1,_,_⟩:=HBAG.out
    exact⟨_,S,rfl,by rw [HP.out.1];exact b1,HBEL.out,rfl,HONE.out,fun h=>by rw [HP.out.2 h];exact HOWN.out⟩
  ·rw [hb] at c1
   have HSB:=hid hb
   clear hb
   have HP:=hid (show (tbN l0).2=s.2∧((tbN l0).2=false→(tbN l0).1=⟨kd,[],D,[]⟩) by
    have h:=HINV.out.2 HSB.out
    rw [HT.out,HSB.out]
    exact⟨h,fun h2=>by rw [show (tkMany cK c (l2,false)).2.2=false from h2] at h;cases h⟩)
   by_cases hlt:i<c
   ·have HONE:=hid (show (#[.int .u8 kd,zS,v1,zS]:Array Value).all (·.oneCell')=true by rcases HST.out.own.1.2 with ⟨h,_⟩ | ⟨g,cap,cur,h,_⟩<;>(subst h;exact four_cells _ _ _ _ rfl rfl rfl rfl))
    obtain⟨hown,hrow,hbag,hbel⟩:=HST.out.out
    have HOWN:=hid hown
    have HROW:=hid hrow
    have HBAG:=hid hbag
    have HBEL:=hid hbel
    clear hown hrow hbag hbel
    go_wp2_with (first
     | (refine wpList_load_row rfl 31 (.tmp 3) rfl N rfl 31 #[.int .u8 kd,zS,v1,zS] (0,0) _ HST.out.row Tryz.underlying31 rfl infoN4 ?_)
     | (refine wpList_store_row rfl 31 (.tmp 2) (.tmp 93) rfl r #[.int .u8 kd,zS,v1,zS] rfl rfl 31 #[.int .u8 0,zS,zS,zS] HST.out.res infoN4 rfl HONE.out ?_))
    refine bodyPost_ret (v:=.agg #[.int .u8 kd,zS,v1,zS]) (results_cell_row rfl _ _ r 31 #[.int .u8 kd,zS,v1,zS] (0,0) _ rfl HROW.out Tryz.underlying31 rfl infoN4) rfl ?_
    obtain⟨S,b1,_,_⟩:=HBAG.out
    exact⟨_,S,rfl,by rw [HP.out.1];exact b1,HBEL.out,rfl,HONE.out,fun h=>by rw [HP.out.2 h];exact HOWN.out⟩
   ·have HONE:=hid (show (#[.int .u8 kd,zS,v1,zS]:Array Value).all (·.oneCell')=true by rcases HST.out.own.1.2 with ⟨h,_⟩ | ⟨g,cap,cur,h,_⟩<;>(subst h;exact four_cells _ _ _ _ rfl rfl rfl rfl))
    obtain⟨hown,hrow,hbag,hbel⟩:=HST.out.out
    have HOWN:=hid hown
    have HROW:=hid hrow
    have HBAG:=hid hbag
    have HBEL:=hid hbel
    clear hown hrow hbag hbel
    go_wp2_with (first
     | (refine wpList_load_row rfl 31 (.tmp 3) rfl N rfl 31 #[.int .u8 kd,zS,v1,zS] (0,0) _ HST.out.row Tryz.underlying31 rfl infoN4 ?_)
     | (refine wpList_store_row rfl 31 (.tmp 2) (.tmp 93) rfl r #[.int .u8 kd,zS,v1,zS] rfl rfl 31 #[.int .u8 0,zS,zS,zS] HST.out.res infoN4 rfl HONE.out ?_))
    refine bodyPost_ret (v:=.agg #[.int .u8 kd,zS,v1,zS]) (results_cell_row rfl _ _ r 31 #[.int .u8 kd,zS,v1,zS] (0,0) _ rfl HROW.out Tryz.underlying31 rfl infoN4) rfl ?_
    obtain⟨S,b1,_,_⟩:=HBAG.out
    exact⟨_,S,rfl,by rw [HP.out.1];exact b1,HBEL.out,rfl,HONE.out,fun h=>by rw [HP.out.2 h];exact HOWN.out⟩
set_option maxRecDepth 100000 in
set_option maxHeartbeats 8000000 in
theorem takeV (w0:World) (l0:List UInt8) (h2:2≤l0.length) (q:Nat) (hq0:w0.heap.size≤q) (w:World) (hB0:Below w0.heap.size w0 w) (h:BagR w q (l0,false)) (hkd:(tkNum 1 (l0,false)).1=3) :
  Calls Tryz.prog 71 #[.pointer (some ⟨q,0,none⟩)] w (BtPost w0 q l0):=by
 obtain⟨kd,⟨l1,b1⟩,e1⟩:∃ V s2,tkNum 1 (l0,false)=(V,s2):=⟨_,_,rfl⟩
 obtain⟨c,⟨l2,b2⟩,e2⟩:∃ V s2,tkNum 1 (l1,b1)=(V,s2):=⟨_,_,rfl⟩
 have hkd8:=num_byte (l0,false)
 have hc8:=num_byte (l1,b1)
 have m1:=num1_more (s:=(l0,false)) (by show 1≤l0.length;omega)
 rw [e1] at m1 hkd8 hkd
 obtain⟨rfl,rfl⟩:l1=l0.drop 1∧b1=false:=by simpa using m1
 have m2:=num1_more (s:=(l0.drop 1,false)) (by show 1≤(l0.drop 1).length;rw [List.length_drop];omega)
 rw [e2] at m2 hc8
 obtain⟨hl2,rfl⟩:l2=(l0.drop 1).drop 1∧b2=false:=by simpa using m2
 clear hl2 m1 m2
 generalize l0.drop 1=l1 at *
 dsimp only at hkd8 hc8 hkd
 have HC1:=hid (show ∀ w,BagR w q (l0,false)→Calls Tryz.prog 93 #[.pointer (some ⟨q,0,none⟩),.int .i64 1] w fun e w'=>e=.returned (.int .u64 (kd:Nat))∧BagR w' q (l1,false)∧w.grownBy w' (some q) from fun w h=>(number_R (l0,false) 1 q (by omega) (by omega) w h).mono fun e w' hh=>by
  obtain⟨v,rfl,_,hv,hb,hg⟩:=hh
  rw [e1] at hv hb
  rw [hv rfl]
  exact⟨rfl,hb,hg⟩)
 have HC2:=hid (show ∀ w,BagR w q (l1,false)→Calls Tryz.prog 93 #[.pointer (some ⟨q,0,none⟩),.int .i64 1] w fun e w'=>e=.returned (.int .u64 (c:Nat))∧BagR w' q (l2,false)∧w.grownBy w' (some q) from fun w h=>(number_R (l1,false) 1 q (by omega) (by omega) w h).mono fun e w' hh=>by
  obtain⟨v,rfl,_,hv,hb,hg⟩:=hh
  rw [e2] at hv hb
  rw [hv rfl]
  exact⟨rfl,hb,hg⟩)
 have HT:=hid (show tbN l0=(⟨kd,[],[],(tkMany cV c (l2,false)).1⟩,(tkMany cV c (l2,false)).2.2) by
  unfold tbN
  rw [e1]
  dsimp only
  rw [e2]
  dsimp only
  rw [if_neg (by omega),if_neg (by omega),if_pos hkd])
 have HKD:=hid hkd
 have eu:IntKind.u8.wrap (kd:Int)=(kd:Int):=IntWalk.u8_in _ (by omega)
 have eu2:IntKind.i64.wrap (c:Int)=(c:Int):=IntWalk.i64_in _ ⟨by omega,by omega⟩
 have HC8:=hid hc8
 have hal:Below w.heap.size w (w.alloc (.cells #[.int .u8 0,zS,zS,zS] 31)):=(Below.refl _ _).alloc (Nat.le_refl _) _
 have HQL:=hid (show q<w.heap.size from (by obtain⟨S,h1,_⟩:=h;exact h1.lt))
 have HBG0:=hid (h.below hal)
 have HR0:=hid (heap_alloc_new w (.cells #[.int .u8 0,zS,zS,zS] 31))
 have HW0:=hid (hB0.trans (hal.mono hB0.size))
 have HQ0:=hid hq0
 clear hal h hB0 hq0 hkd e1 e2 h2 hkd8
 go_enter Tryz.func71,Tryz.ntmps71
 go_wp2_with fail
 generalize w.alloc _=w1 at *
 generalize w.heap.size=r at *
 refine (HC1.out _ HBG0.out).mono ?_
 rintro e w2 ⟨rfl,hb,hg⟩
 have HB2:=hid hb
 have HR2:=hid ((hg.block r (row_lt HR0.out) (fun e=>by have:=Option.some.inj e;have:=HQL.out;omega)).trans HR0.out)
 have HW2:=hid (HW0.out.grown hg HW0.out.size (fun k hk=>by cases hk;exact HQ0.out))
 clear hb hg HBG0 HR0 HW0 HC1
 go_wp2_with fail
 have hal:Below w2.heap.size w2 (w2.alloc (.cells #[.int .u8 kd,zS,zS,zS] 31)):=(Below.refl _ _).alloc (Nat.le_refl _) _
 have HN3:=hid (heap_alloc_new w2 (.cells #[.int .u8 kd,zS,zS,zS] 31))
 have HB3:=hid (HB2.out.below hal)
 have HR3:=hid ((hal.block r (row_lt HR2.out)).trans HR2.out)
 have HW3:=hid (HW2.out.trans (hal.mono HW2.out.size))
 have HS3:=hid (show TbStV w0 q r w2.heap.size kd zS [] (l1,false) (w2.alloc (.cells #[.int .u8 kd,zS,zS,zS] 31)) from⟨HB3.out,HN3.out,HR3.out,Mk.nil HW3.out,HQ0.out,HQL.out,row_lt HR2.out⟩)
 clear hal HN3 HB2 HR2 HW2 HR3 HW3
 generalize w2.alloc _=w3 at *
 generalize w2.heap.size=N at *
 refine (HC2.out _ HB3.out).mono ?_
 rintro e w4 ⟨rfl,hb,hg⟩
 have HS4:=hid (HS3.out.took hb hg)
 clear hb hg HS3 HB3 HC2 eu
 go_wp2_with fail
 go_loopw [5] (fun iv wr=>∃ (i:Nat) (v1:Value) (D:List Vo) (s:S),i≤c∧iv=.int .i64 i∧Hid (TbStV w0 q r N kd v1 D s wr)∧Hid (D.length≤i)∧Hid (InvB cV c (l2,false) i D s)) (fun iv _=>c-(intOf iv).toNat)
 case atStart=>exact⟨0,zS,[],(l2,false),Nat.zero_le _,by go_num,HS4.out,Nat.zero_le _,⟨fun _=>TkInv.start,fun h=>(by cases h)⟩⟩
 case round =>
  obtain⟨i,v1,D,s,hi,rfl,hst,hdl,hinv⟩:=hrel
  obtain⟨SB,hbag,hbz,hbe⟩:=(Hid.out hst).tk
  have c1:wr.cell? ⟨q,1,none⟩=some (.bool s.2):=hbag.c1
  have HQW:=hid hbag.lt
  clear hbag hbz hbe
  have k0:wr.cell? ⟨N,0,none⟩=some (.int .u8 kd):=cell_of_row _ _ 0 _ _ _ (Hid.out hst).row
  have q1:((kd:Int)==1)=false:=by rw [beq_eq_false_iff_ne];have:=HKD.out;omega
  have q2:((kd:Int)==2)=false:=by rw [beq_eq_false_iff_ne];have:=HKD.out;omega
  have q3:((kd:Int)==3)=true:=by rw [HKD.out];rfl
  have HINV:=hid (Hid.out hinv)
  have HST:=hid (Hid.out hst)
  have HDL:=hid (show D.length≤255 by have:=Hid.out hdl;omega)
  have HDLI:=hid (Hid.out hdl)
  clear hinv hst hdl
  cases hb:s.2
  ·rw [hb] at c1
   have HSB:=hid hb
   clear hb
   by_cases hlt:i<c
   ·have HNL:=hid (show N<wr.heap.size from row_lt HST.out.row)
    have HT0:=hid (fun W (hB:BagR W q s)=>text_R s q W hB)
    go_wp2_with fail
    refine (HT0.out _ HST.out.tk).mono ?_
    rintro e w1 ⟨X0,rfl,hz,hX,hB,hg⟩
    have HX0:=hid hX
    have HB1:=hid hB
    have HG1:=hid hg
    obtain⟨s1,he1⟩:∃ s1,(tkTxt s).2=s1:=⟨_,rfl⟩
    rw [he1] at HB1 HX0
    have HE1:=hid he1
    clear hz hX hB hg he1 HT0 c1 k0
    have HGS:=hid (Nat.lt_of_lt_of_le HQW.out HG1.out.size)
    go_wp2_with (refine wpList_fresh rfl 121 (.tmp 8) (.tmp 69) rfl #[.string X0,.int .u8 0,.string ByteArray.empty,.int .u64 0,.int .u32 0,.int .u8 0,.int .u8 0,.int .u8 0,.int .u8 0,.int .u8 0,.int .u8 0,.int .u8 0,.int .u8 0,.int .u8 0,.int .u8 0,.int .u8 0,.int .u8 0,.int .u8 0,.int .u8 0,.int .u8 0,.int .u8 0,.int .u8 0,.int .u8 0,.int .u8 0,.int .u8 0,.int .u8 0,.int .u8 0,.int .u8 0,.int .u8 0,.int .u8 0,.int .u8 0,.int .u8 0,.int .u8 0,.int .u8 0,.int .u8 0,.int .u8 0,.int .u8 0] _ 121 rfl rfl (litV_inf X0) rfl (litV_one X0) ?_;intro w2 hb2 hr2 hz2;rw [rowV X0] at hr2;have HR2:=hid hr2;have HB2:=hid (HB1.out.below hb2);have HG2:=hid (grown_trans HG1.out (grown_of_below hb2 _));have HGN:=hid (show wr.heap.size≤w1.heap.size from HG1.out.size);have HGQ:=hid (show w1.heap.size≠q from Nat.ne_of_gt HGS.out);clear hb2 hr2 hz2 HB1 HG1;generalize w1.heap.size=g at *)
    refine (text_R s1 q _ HB2.out).mono ?_
    rintro e w3 ⟨X1,rfl,hz,hX,hB,hg⟩
    have HX1:=hid hX
    have HB3:=hid hB
    have HG3:=hid (grown_trans HG2.out hg)
    have HR3:=hid ((hg.block g (row_lt HR2.out) (fun e=>HGQ.out (Option.some.inj e))).trans HR2.out)
    obtain⟨s2,he2⟩:∃ s9,(tkTxt s1).2=s9:=⟨_,rfl⟩
    rw [he2] at HB3 HX1
    have HE2:=hid he2
    clear hX hB hg he2 HB2 HG2 HR2
    clear hz
    go_wp2_with (refine wpList_store_part rfl 9 (.tmp 72) (.tmp 71) rfl g 2 (.string X1) #[.string X1] rfl rfl 121 (ecV ⟨X0,0,ByteArray.empty,0,0,Z32⟩).toArray (ecV ⟨X0,0,X1,0,0,Z32⟩).toArray HR3.out rfl infoS1 (fldV _ _ (by decide)) (one_all _ rfl) (by rfl) ?_;have HR4:=hid (setRow_heap' (cs:=(ecV ⟨X0,0,X1,0,0,Z32⟩).toArray) HR3.out);have HB4:=hid (bag_far HB3.out HGQ.out ((ecV ⟨X0,0,X1,0,0,Z32⟩).toArray));have HG4:=hid (far_row HG3.out HGN.out ((ecV ⟨X0,0,X1,0,0,Z32⟩).toArray));generalize World.setRow _ _ _=w4 at *;clear HR3 HB3 HG3)
    refine (number_R s2 1 q (by omega) (by omega) _ HB4.out).mono ?_
    rintro e w5 ⟨n2,rfl,hz,hX,hB,hg⟩
    have HX2:=hid hX
    have HB5:=hid hB
    have HG5:=hid (grown_trans HG4.out hg)
    have HR5:=hid ((hg.block g (row_lt HR4.out) (fun e=>HGQ.out (Option.some.inj e))).trans HR4.out)
    obtain⟨s3,he3⟩:∃ s9,(tkNum 1 s2).2=s9:=⟨_,rfl⟩
    rw [he3] at HB5 HX2
    have HE3:=hid he3
    have hu2:IntKind.u8.wrap (n2:Int)=n2:=IntWalk.u8_in _ (by have h:n2<256 ^ 1:=hz;omega)
    clear hX hB hg he3 HB4 HG4 HR4
    clear hz
    go_wp2_with (refine wpList_store_part rfl 118 (.tmp 76) (.tmp 75) rfl g 1 (.int .u8 n2) #[.int .u8 n2] rfl rfl 121 (ecV ⟨X0,0,X1,0,0,Z32⟩).toArray (ecV ⟨X0,n2,X1,0,0,Z32⟩).toArray HR5.out rfl infoVK (fldV _ _ (by decide)) (one_all _ rfl) (by rfl) ?_;have HR6:=hid (setRow_heap' (cs:=(ecV ⟨X0,n2,X1,0,0,Z32⟩).toArray) HR5.out);have HB6:=hid (bag_far HB5.out HGQ.out ((ecV ⟨X0,n2,X1,0,0,Z32⟩).toArray));have HG6:=hid (far_row HG5.out HGN.out ((ecV ⟨X0,n2,X1,0,0,Z32⟩).toArray));generalize World.setRow _ _ _=w6 at *;clear HR5 HB5 HG5)
    refine (number_R s3 8 q (by omega) (by omega) _ HB6.out).mono ?_
    rintro e w7 ⟨n3,rfl,hz,hX,hB,hg⟩
    have HX3:=hid hX
    have HB7:=hid hB
    have HG7:=hid (grown_trans HG6.out hg)
    have HR7:=hid ((hg.block g (row_lt HR6.out) (fun e=>HGQ.out (Option.some.inj e))).trans HR6.out)
    obtain⟨s4,he4⟩:∃ s9,(tkNum 8 s3).2=s9:=⟨_,rfl⟩
    rw [he4] at HB7 HX3
    have HE4:=hid he4
    clear hX hB hg he4 HB6 HG6 HR6
    clear hz
    go_wp2_with (refine wpList_store_part rfl 119 (.tmp 79) (.tmp 78) rfl g 3 (.int .u64 n3) #[.int .u64 n3] rfl rfl 121 (ecV ⟨X0,n2,X1,0,0,Z32⟩).toArray (ecV ⟨X0,n2,X1,n3,0,Z32⟩).toArray HR7.out rfl infoU64 (fldV _ _ (by decide)) (one_all _ rfl) (by rfl) ?_;have HR8:=hid (setRow_heap' (cs:=(ecV ⟨X0,n2,X1,n3,0,Z32⟩).toArray) HR7.out);have HB8:=hid (bag_far HB7.out HGQ.out ((ecV ⟨X0,n2,X1,n3,0,Z32⟩).toArray));have HG8:=hid (far_row HG7.out HGN.out ((ecV ⟨X0,n2,X1,n3,0,Z32⟩).toArray));generalize World.setRow _ _ _=w8 at *;clear HR7 HB7 HG7)
    refine (number_R s4 4 q (by omega) (by omega) _ HB8.out).mono ?_
    rintro e w9 ⟨n4,rfl,hz,hX,hB,hg⟩
    have HX4:=hid hX
    have HB9:=hid hB
    have HG9:=hid (grown_trans HG8.out hg)
    have HR9:=hid ((hg.block g (row_lt HR8.out) (fun e=>HGQ.out (Option.some.inj e))).trans HR8.out)
    obtain⟨s5,he5⟩:∃ s9,(tkNum 4 s4).2=s9:=⟨_,rfl⟩
    rw [he5] at HB9 HX4
    have HE5:=hid he5
    have hu4:IntKind.u32.wrap (n4:Int)=n4:=Sp.u32_same hz
    clear hX hB hg he5 HB8 HG8 HR8
    clear hz
    go_wp2_with (refine wpList_store_part rfl 22 (.tmp 83) (.tmp 82) rfl g 4 (.int .u32 n4) #[.int .u32 n4] rfl rfl 121 (ecV ⟨X0,n2,X1,n3,0,Z32⟩).toArray (ecV ⟨X0,n2,X1,n3,n4,Z32⟩).toArray HR9.out rfl infoU32 (fldV _ _ (by decide)) (one_all _ rfl) (by rfl) ?_;have HR10:=hid (setRow_heap' (cs:=(ecV ⟨X0,n2,X1,n3,n4,Z32⟩).toArray) HR9.out);have HB10:=hid (bag_far HB9.out HGQ.out ((ecV ⟨X0,n2,X1,n3,n4,Z32⟩).toArray));have HG10:=hid (far_row HG9.out HGN.out ((ecV ⟨X0,n2,X1,n3,n4,Z32⟩).toArray));generalize World.setRow _ _ _=w10 at *;clear HR9 HB9 HG9)
    refine (hash_R s5 q _ HB10.out).mono ?_
    rintro e w11 ⟨l5,rfl,hz,hX,hB,hg⟩
    have HX5:=hid hX
    have HB11:=hid hB
    have HG11:=hid (grown_trans HG10.out hg)
    have HR11:=hid ((hg.block g (row_lt HR10.out) (fun e=>HGQ.out (Option.some.inj e))).trans HR10.out)
    obtain⟨s6,he6⟩:∃ s9,(tkHash s5).2=s9:=⟨_,rfl⟩
    rw [he6] at HB11 HX5
    have HE6:=hid he6
    clear hX hB hg he6 HB10 HG10 HR10
    have HL:=hid hz
    clear hz
    have HINV2:=hid (show InvB cV c (l2,false) (i+1) (D++[⟨X0,n2,X1,n3,n4,l5⟩]) s6 by
     obtain⟨he,hx⟩:=elV HE1.out HE2.out HE3.out HE4.out HE5.out HE6.out HX0.out HX1.out HX2.out HX3.out HX4.out HX5.out
     have h:=HINV.out.go HSB.out hlt V_less (x:=⟨X0,n2,X1,n3,n4,l5⟩) hx
     rwa [he] at h)
    have HDL2:=hid (show (D++[(⟨X0,n2,X1,n3,n4,l5⟩:Vo)]).length≤i+1 by rw [List.length_append];have:=HDLI.out;simp;exact this)
    go_wp2_with (first
     | (refine wpList_store_part rfl 43 (.tmp 86) (.tmp 85) rfl g 5 (.agg (u8s l5).toArray) (u8s l5).toArray rfl rfl 121 (ecV ⟨X0,n2,X1,n3,n4,Z32⟩).toArray (ecV ⟨X0,n2,X1,n3,n4,l5⟩).toArray HR11.out rfl (show (Tryz.prog.info? 43).map (·.size)=some (u8s l5).toArray.size by rw [List.size_toArray,u8s_length,HL.out];exact infoH32) (show 5+(u8s l5).toArray.size≤(ecV ⟨X0,n2,X1,n3,n4,Z32⟩).toArray.size by rw [List.size_toArray,List.size_toArray,u8s_length,HL.out,ecV_len];decide) (all_of_one (u8s_cell l5)) (hashV _ _ HL.out) ?_;have HR12:=hid (setRow_heap' (cs:=(ecV ⟨X0,n2,X1,n3,n4,l5⟩).toArray) HR11.out);have HB12:=hid (bag_far HB11.out HGQ.out ((ecV ⟨X0,n2,X1,n3,n4,l5⟩).toArray));have HG12:=hid (far_row HG11.out HGN.out ((ecV ⟨X0,n2,X1,n3,n4,l5⟩).toArray));generalize World.setRow _ _ _=w12 at *;clear HR11 HB11 HG11;have cN:w12.cell? ⟨N,3,none⟩=some v1:=cell_of_row _ _ 3 _ _ _ (HST.out.took HB12.out HG12.out).row)
     | (refine wpList_load_row rfl 121 (.tmp 8) rfl g rfl 121 (ecV ⟨X0,n2,X1,n3,n4,l5⟩).toArray (0,0) _ HR12.out Tryz.underlying121 rfl (infoVa _) ?_)
     | (refine wpList_plain rfl (fun K1 hK1=>op_oneV (.tmp 89) ⟨X0,n2,X1,n3,n4,l5⟩ rfl rfl (hK1 _ _ ?_));have hal:Below w12.heap.size w12 (w12.alloc (.cells (ecV (⟨X0,n2,X1,n3,n4,l5⟩:Vo)).toArray 121)):=(Below.refl _ _).alloc (Nat.le_refl _) _;have HS9:=hid ((HST.out.took HB12.out HG12.out).below hal);have HX9:=hid (heap_alloc_new w12 (.cells (ecV (⟨X0,n2,X1,n3,n4,l5⟩:Vo)).toArray 121));clear hal cN;generalize w12.alloc _=w9 at *;generalize w12.heap.size=g9 at *)
     | (refine wpList_plain rfl (fun K1 hK1=>op_catV HS9.out.own ⟨X0,n2,X1,n3,n4,l5⟩ g9 1 HX9.out (by have:=HDL.out;omega) (.tmp 88) (.tmp 90) rfl rfl rfl (fun v5 w5 hm5 hg5 hat5=>hK1 _ _ ?_));obtain⟨A5,n5,c5,rfl⟩:∃ A n c,v5=.slice A n c:=(by obtain⟨A,c,h,_⟩:=hm5.ls ecV_len;exact⟨A,_,c,h⟩);have HS5x:=hid (HS9.out.put hm5 hg5);have hN5:=HS9.out.own.off HS9.out.row (by decide);have tN:=(hg5.block N (row_lt HS9.out.row) (fun e=>hN5 e.symm)).trans HS9.out.row;have c5N:=cell_of_row w5 _ 3 _ _ _ tN;have f5N:w5.frozen? ⟨N,3,none⟩=false:=frozen_of_row _ _ _ _ _ tN;clear hm5 hg5 hat5 hN5 tN))
    exact⟨⟨i+1,_,_,s6,by omega,by go_num,HS5x.out,HDL2.out,HINV2.out⟩,by simp [intOf]<;>omega⟩
   ·have HDN:=hid (show (tkMany cV c (l2,false))=(D,(s.1,false)) from (HINV.out.1 HSB.out).done hlt)
    have HP:=hid (show (tbN l0).2=s.2∧((tbN l0).2=false→(tbN l0).1=⟨kd,[],[],D⟩) by rw [HT.out,HDN.out,HSB.out];exact⟨rfl,fun _=>rfl⟩)
    have HONE:=hid (show (#[.int .u8 kd,zS,zS,v1]:Array Value).all (·.oneCell')=true by rcases HST.out.own.1.2 with ⟨h,_⟩ | ⟨g,cap,cur,h,_⟩<;>(subst h;exact four_cells _ _ _ _ rfl rfl rfl rfl))
    obtain⟨hown,hrow,hbag,hbel⟩:=HST.out.out
    have HOWN:=hid hown
    have HROW:=hid hrow
    have HBAG:=hid hbag
    have HBEL:=hid hbel
    clear hown hrow hbag hbel
    go_wp2_with (first
     | (refine wpList_load_row rfl 31 (.tmp 3) rfl N rfl 31 #[.int .u8 kd,zS,zS,v1] (0,0) _ HST.out.row Tryz.underlying31 rfl infoN4 ?_)
     | (refine wpList_store_row rfl 31 (.tmp 2) (.tmp 93) rfl r #[.int .u8 kd,zS,zS,v1] rfl rfl 31 #[.int .u8 0,zS,zS,zS] HST.out.res infoN4 rfl HONE.out ?_))
    refine bodyPost_ret (v:=.agg #[.int .u8 kd,zS,zS,v1]) (results_cell_row rfl _ _ r 31 #[.int .u8 kd,zS,zS,v1] (0,0) _ rfl HROW.out Tryz.underlying31 rfl infoN4) rfl ?_
    obtain⟨S,b1,_,_⟩:=HBAG.out
    exact⟨_,S,rfl,by rw [HP.out.1];exact b1,HBEL.out,rfl,HONE.out,fun h=>by rw [HP.out.2 h];exact HOWN.out⟩
  ·rw [hb] at c1
   have HSB:=hid hb
   clear hb
   have HP:=hid (show (tbN l0).2=s.2∧((tbN l0).2=false→(tbN l0).1=⟨kd,[],[],D⟩) by
    have h:=HINV.out.2 HSB.out
    rw [HT.out,HSB.out]
    exact⟨h,fun h2=>by rw [show (tkMany cV c (l2,false)).2.2=false from h2] at h;cases h⟩)
   by_cases hlt:i<c
   ·have HONE:=hid (show (#[.int .u8 kd,zS,zS,v1]:Array Value).all (·.oneCell')=true by rcases HST.out.own.1.2 with ⟨h,_⟩ | ⟨g,cap,cur,h,_⟩<;>(subst h;exact four_cells _ _ _ _ rfl rfl rfl rfl))
    obtain⟨hown,hrow,hbag,hbel⟩:=HST.out.out
    have HOWN:=hid hown
    have HROW:=hid hrow
    have HBAG:=hid hbag
    have HBEL:=hid hbel
    clear hown hrow hbag hbel
    go_wp2_with (first
     | (refine wpList_load_row rfl 31 (.tmp 3) rfl N rfl 31 #[.int .u8 kd,zS,zS,v1] (0,0) _ HST.out.row Tryz.underlying31 rfl infoN4 ?_)
     | (refine wpList_store_row rfl 31 (.tmp 2) (.tmp 93) rfl r #[.int .u8 kd,zS,zS,v1] rfl rfl 31 #[.int .u8 0,zS,zS,zS] HST.out.res infoN4 rfl HONE.out ?_))
    refine bodyPost_ret (v:=.agg #[.int .u8 kd,zS,zS,v1]) (results_cell_row rfl _ _ r 31 #[.int .u8 kd,zS,zS,v1] (0,0) _ rfl HROW.out Tryz.underlying31 rfl infoN4) rfl ?_
    obtain⟨S,b1,_,_⟩:=HBAG.out
    exact⟨_,S,rfl,by rw [HP.out.1];exact b1,HBEL.out,rfl,HONE.out,fun h=>by rw [HP.out.2 h];exact HOWN.out⟩
   ·have HONE:=hid (show (#[.int .u8 kd,zS,zS,v1]:Array Value).all (·.oneCell')=true by rcases HST.out.own.1.2 with ⟨h,_⟩ | ⟨g,cap,cur,h,_⟩<;>(subst h;exact four_cells _ _ _ _ rfl rfl rfl rfl))
    obtain⟨hown,hrow,hbag,hbel⟩:=HST.out.out
    have HOWN:=hid hown
    have HROW:=hid hrow
    have HBAG:=hid hbag
    have HBEL:=hid hbel
    clear hown hrow hbag hbel
    go_wp2_with (first
     | (refine wpList_load_row rfl 31 (.tmp 3) rfl N rfl 31 #[.int .u8 kd,zS,zS,v1] (0,0) _ HST.out.row Tryz.underlying31 rfl infoN4 ?_)
     | (refine wpList_store_row rfl 31 (.tmp 2) (.tmp 93) rfl r #[.int .u8 kd,zS,zS,v1] rfl rfl 31 #[.int .u8 0,zS,zS,zS] HST.out.res infoN4 rfl HONE.out ?_))
    refine bodyPost_ret (v:=.agg #[.int .u8 kd,zS,zS,v1]) (results_cell_row rfl _ _ r 31 #[.int .u8 kd,zS,zS,v1] (0,0) _ rfl HROW.out Tryz.underlying31 rfl infoN4) rfl ?_
    obtain⟨S,b1,_,_⟩:=HBAG.out
    exact⟨_,S,rfl,by rw [HP.out.1];exact b1,HBEL.out,rfl,HONE.out,fun h=>by rw [HP.out.2 h];exact HOWN.out⟩
set_option maxRecDepth 100000 in
set_option maxHeartbeats 8000000 in
theorem takeZ (w0:World) (l0:List UInt8) (h2:2≤l0.length) (q:Nat) (hq0:w0.heap.size≤q) (w:World) (hB0:Below w0.heap.size w0 w) (h:BagR w q (l0,false)) (hkd:(tkNum 1 (l0,false)).1≠1∧(tkNum 1 (l0,false)).1≠2∧(tkNum 1 (l0,false)).1≠3) :
  Calls Tryz.prog 71 #[.pointer (some ⟨q,0,none⟩)] w (BtPost w0 q l0):=by
 obtain⟨kd,⟨l1,b1⟩,e1⟩:∃ V s2,tkNum 1 (l0,false)=(V,s2):=⟨_,_,rfl⟩
 obtain⟨c,⟨l2,b2⟩,e2⟩:∃ V s2,tkNum 1 (l1,b1)=(V,s2):=⟨_,_,rfl⟩
 have hkd8:=num_byte (l0,false)
 have hc8:=num_byte (l1,b1)
 have m1:=num1_more (s:=(l0,false)) (by show 1≤l0.length;omega)
 rw [e1] at m1 hkd8 hkd
 obtain⟨rfl,rfl⟩:l1=l0.drop 1∧b1=false:=by simpa using m1
 have m2:=num1_more (s:=(l0.drop 1,false)) (by show 1≤(l0.drop 1).length;rw [List.length_drop];omega)
 rw [e2] at m2 hc8
 obtain⟨hl2,rfl⟩:l2=(l0.drop 1).drop 1∧b2=false:=by simpa using m2
 clear hl2 m1 m2
 generalize l0.drop 1=l1 at *
 dsimp only at hkd8 hc8 hkd
 have HC1:=hid (show ∀ w,BagR w q (l0,false)→Calls Tryz.prog 93 #[.pointer (some ⟨q,0,none⟩),.int .i64 1] w fun e w'=>e=.returned (.int .u64 (kd:Nat))∧BagR w' q (l1,false)∧w.grownBy w' (some q) from fun w h=>(number_R (l0,false) 1 q (by omega) (by omega) w h).mono fun e w' hh=>by
  obtain⟨v,rfl,_,hv,hb,hg⟩:=hh
  rw [e1] at hv hb
  rw [hv rfl]
  exact⟨rfl,hb,hg⟩)
 have HC2:=hid (show ∀ w,BagR w q (l1,false)→Calls Tryz.prog 93 #[.pointer (some ⟨q,0,none⟩),.int .i64 1] w fun e w'=>e=.returned (.int .u64 (c:Nat))∧BagR w' q (l2,false)∧w.grownBy w' (some q) from fun w h=>(number_R (l1,false) 1 q (by omega) (by omega) w h).mono fun e w' hh=>by
  obtain⟨v,rfl,_,hv,hb,hg⟩:=hh
  rw [e2] at hv hb
  rw [hv rfl]
  exact⟨rfl,hb,hg⟩)
 have HT:=hid (show tbN l0=(⟨kd,[],[],[]⟩,decide (0<c)) by
  unfold tbN
  rw [e1]
  dsimp only
  rw [e2]
  dsimp only
  rw [if_neg hkd.1,if_neg hkd.2.1,if_neg hkd.2.2]
  simp)
 have HKD:=hid hkd
 have eu:IntKind.u8.wrap (kd:Int)=(kd:Int):=IntWalk.u8_in _ (by omega)
 have eu2:IntKind.i64.wrap (c:Int)=(c:Int):=IntWalk.i64_in _ ⟨by omega,by omega⟩
 have HC8:=hid hc8
 have hal:Below w.heap.size w (w.alloc (.cells #[.int .u8 0,zS,zS,zS] 31)):=(Below.refl _ _).alloc (Nat.le_refl _) _
 have HQL:=hid (show q<w.heap.size from (by obtain⟨S,h1,_⟩:=h;exact h1.lt))
 have HBG0:=hid (h.below hal)
 have HR0:=hid (heap_alloc_new w (.cells #[.int .u8 0,zS,zS,zS] 31))
 have HW0:=hid (hB0.trans (hal.mono hB0.size))
 have HQ0:=hid hq0
 clear hal h hB0 hq0 hkd e1 e2 h2 hkd8
 go_enter Tryz.func71,Tryz.ntmps71
 go_wp2_with fail
 generalize w.alloc _=w1 at *
 generalize w.heap.size=r at *
 refine (HC1.out _ HBG0.out).mono ?_
 rintro e w2 ⟨rfl,hb,hg⟩
 have HB2:=hid hb
 have HR2:=hid ((hg.block r (row_lt HR0.out) (fun e=>by have:=Option.some.inj e;have:=HQL.out;omega)).trans HR0.out)
 have HW2:=hid (HW0.out.grown hg HW0.out.size (fun k hk=>by cases hk;exact HQ0.out))
 clear hb hg HBG0 HR0 HW0 HC1
 go_wp2_with fail
 have hal:Below w2.heap.size w2 (w2.alloc (.cells #[.int .u8 kd,zS,zS,zS] 31)):=(Below.refl _ _).alloc (Nat.le_refl _) _
 have HN3:=hid (heap_alloc_new w2 (.cells #[.int .u8 kd,zS,zS,zS] 31))
 have HB3:=hid (HB2.out.below hal)
 have HR3:=hid ((hal.block r (row_lt HR2.out)).trans HR2.out)
 have HW3:=hid (HW2.out.trans (hal.mono HW2.out.size))
 have HS3:=hid (show TbStI w0 q r w2.heap.size kd zS [] (l1,false) (w2.alloc (.cells #[.int .u8 kd,zS,zS,zS] 31)) from⟨HB3.out,HN3.out,HR3.out,Mk.nil HW3.out,HQ0.out,HQL.out,row_lt HR2.out⟩)
 clear hal HN3 HB2 HR2 HW2 HR3 HW3
 generalize w2.alloc _=w3 at *
 generalize w2.heap.size=N at *
 refine (HC2.out _ HB3.out).mono ?_
 rintro e w4 ⟨rfl,hb,hg⟩
 have HS4:=hid (HS3.out.took hb hg)
 clear hb hg HS3 HB3 HC2 eu
 go_wp2_with fail
 go_loopw [5] (fun iv wr=>∃ (i:Nat) (s:S),i≤c∧iv=.int .i64 i∧Hid (TbStI w0 q r N kd zS [] s wr)∧Hid (s.2=decide (0<i))) (fun iv _=>c-(intOf iv).toNat)
 case atStart=>exact⟨0,(l2,false),Nat.zero_le _,by go_num,HS4.out,rfl⟩
 case round =>
  obtain⟨i,s,hi,rfl,hst,hsb⟩:=hrel
  obtain⟨SB,hbag,hbz,hbe⟩:=(Hid.out hst).tk
  have c1:wr.cell? ⟨q,1,none⟩=some (.bool s.2):=hbag.c1
  have f1:wr.frozen? ⟨q,1,none⟩=false:=hbag.fr 1
  have HB2:=hid (show BagR (wr.setCell ⟨q,1,none⟩ (.bool true)) q (s.1,true) from⟨SB,hbag.set1,hbz,fun h=>(by cases h)⟩)
  clear hbag hbz hbe
  have k0:wr.cell? ⟨N,0,none⟩=some (.int .u8 kd):=cell_of_row _ _ 0 _ _ _ (Hid.out hst).row
  have q1:((kd:Int)==1)=false:=by rw [beq_eq_false_iff_ne];have:=HKD.out;omega
  have q2:((kd:Int)==2)=false:=by rw [beq_eq_false_iff_ne];have:=HKD.out;omega
  have q3:((kd:Int)==3)=false:=by rw [beq_eq_false_iff_ne];have:=HKD.out;omega
  have HST:=hid (Hid.out hst)
  have HSI:=hid (Hid.out hsb)
  clear hst hsb
  by_cases h0:0<i
  ·rw [show s.2=true by rw [HSI.out,decide_eq_true_iff];exact h0] at c1
   clear f1 HB2
   have HP:=hid (show (tbN l0).2=s.2∧((tbN l0).2=false→(tbN l0).1=⟨kd,[],[],[]⟩) by rw [HT.out,HSI.out];exact⟨by rw [decide_eq_true h0,decide_eq_true (by omega)],fun _=>rfl⟩)
   by_cases hlt:i<c
   ·have HONE:=hid (show (#[.int .u8 kd,zS,zS,zS]:Array Value).all (·.oneCell')=true from four_cells _ _ _ _ rfl rfl rfl rfl)
    obtain⟨hown,hrow,hbag,hbel⟩:=HST.out.out
    have HOWN:=hid hown
    have HROW:=hid hrow
    have HBAG:=hid hbag
    have HBEL:=hid hbel
    clear hown hrow hbag hbel
    go_wp2_with (first
     | (refine wpList_load_row rfl 31 (.tmp 3) rfl N rfl 31 #[.int .u8 kd,zS,zS,zS] (0,0) _ HST.out.row Tryz.underlying31 rfl infoN4 ?_)
     | (refine wpList_store_row rfl 31 (.tmp 2) (.tmp 93) rfl r #[.int .u8 kd,zS,zS,zS] rfl rfl 31 #[.int .u8 0,zS,zS,zS] HST.out.res infoN4 rfl HONE.out ?_))
    refine bodyPost_ret (v:=.agg #[.int .u8 kd,zS,zS,zS]) (results_cell_row rfl _ _ r 31 #[.int .u8 kd,zS,zS,zS] (0,0) _ rfl HROW.out Tryz.underlying31 rfl infoN4) rfl ?_
    obtain⟨S,b1,_,_⟩:=HBAG.out
    exact⟨_,S,rfl,by rw [HP.out.1];exact b1,HBEL.out,rfl,HONE.out,fun h=>by rw [HP.out.2 h];exact HOWN.out⟩
   ·have HONE:=hid (show (#[.int .u8 kd,zS,zS,zS]:Array Value).all (·.oneCell')=true from four_cells _ _ _ _ rfl rfl rfl rfl)
    obtain⟨hown,hrow,hbag,hbel⟩:=HST.out.out
    have HOWN:=hid hown
    have HROW:=hid hrow
    have HBAG:=hid hbag
    have HBEL:=hid hbel
    clear hown hrow hbag hbel
    go_wp2_with (first
     | (refine wpList_load_row rfl 31 (.tmp 3) rfl N rfl 31 #[.int .u8 kd,zS,zS,zS] (0,0) _ HST.out.row Tryz.underlying31 rfl infoN4 ?_)
     | (refine wpList_store_row rfl 31 (.tmp 2) (.tmp 93) rfl r #[.int .u8 kd,zS,zS,zS] rfl rfl 31 #[.int .u8 0,zS,zS,zS] HST.out.res infoN4 rfl HONE.out ?_))
    refine bodyPost_ret (v:=.agg #[.int .u8 kd,zS,zS,zS]) (results_cell_row rfl _ _ r 31 #[.int .u8 kd,zS,zS,zS] (0,0) _ rfl HROW.out Tryz.underlying31 rfl infoN4) rfl ?_
    obtain⟨S,b1,_,_⟩:=HBAG.out
    exact⟨_,S,rfl,by rw [HP.out.1];exact b1,HBEL.out,rfl,HONE.out,fun h=>by rw [HP.out.2 h];exact HOWN.out⟩
  ·obtain rfl:i=0:=by omega
   rw [show s.2=false by rw [HSI.out];rfl] at c1
   by_cases hlt:0<c
   ·have HS2:=hid (HST.out.took HB2.out (grown_setCell wr ⟨q,1,none⟩ (.bool true)))
    clear HB2
    go_wp2_with fail
    exact⟨⟨1,(s.1,true),by omega,by go_num,HS2.out,rfl⟩,by simp [intOf]<;>omega⟩
   ·clear f1 HB2
    have HP:=hid (show (tbN l0).2=s.2∧((tbN l0).2=false→(tbN l0).1=⟨kd,[],[],[]⟩) by rw [HT.out,HSI.out];exact⟨by rw [decide_eq_false hlt,decide_eq_false (by omega)],fun _=>rfl⟩)
    have HONE:=hid (show (#[.int .u8 kd,zS,zS,zS]:Array Value).all (·.oneCell')=true from four_cells _ _ _ _ rfl rfl rfl rfl)
    obtain⟨hown,hrow,hbag,hbel⟩:=HST.out.out
    have HOWN:=hid hown
    have HROW:=hid hrow
    have HBAG:=hid hbag
    have HBEL:=hid hbel
    clear hown hrow hbag hbel
    go_wp2_with (first
     | (refine wpList_load_row rfl 31 (.tmp 3) rfl N rfl 31 #[.int .u8 kd,zS,zS,zS] (0,0) _ HST.out.row Tryz.underlying31 rfl infoN4 ?_)
     | (refine wpList_store_row rfl 31 (.tmp 2) (.tmp 93) rfl r #[.int .u8 kd,zS,zS,zS] rfl rfl 31 #[.int .u8 0,zS,zS,zS] HST.out.res infoN4 rfl HONE.out ?_))
    refine bodyPost_ret (v:=.agg #[.int .u8 kd,zS,zS,zS]) (results_cell_row rfl _ _ r 31 #[.int .u8 kd,zS,zS,zS] (0,0) _ rfl HROW.out Tryz.underlying31 rfl infoN4) rfl ?_
    obtain⟨S,b1,_,_⟩:=HBAG.out
    exact⟨_,S,rfl,by rw [HP.out.1];exact b1,HBEL.out,rfl,HONE.out,fun h=>by rw [HP.out.2 h];exact HOWN.out⟩
theorem take_R (w0:World) (l0:List UInt8) (h2:2≤l0.length) (q:Nat) (hq0:w0.heap.size≤q) (w:World) (hB0:Below w0.heap.size w0 w) (h:BagR w q (l0,false)) :
  Calls Tryz.prog 71 #[.pointer (some ⟨q,0,none⟩)] w (BtPost w0 q l0):=by
 by_cases h1:(tkNum 1 (l0,false)).1=1
 ·exact takeI w0 l0 h2 q hq0 w hB0 h h1
 ·by_cases h3:(tkNum 1 (l0,false)).1=2
  ·exact takeK w0 l0 h2 q hq0 w hB0 h h3
  ·by_cases h4:(tkNum 1 (l0,false)).1=3
   ·exact takeV w0 l0 h2 q hq0 w hB0 h h4
   ·exact takeZ w0 l0 h2 q hq0 w hB0 h ⟨h1,h3,h4⟩
end Go.Proofs.YtlpejbbmemhloaaGreatDoor.Nr
namespace Go.Proofs.YtlpejbbmemhloaaGreatDoor.Nd
open Lib (hid)
set_option linter.unusedVariables false
set_option linter.unusedSimpArgs false
open Go.ChangeShapes Go.WideShapes Go.ChangeAt Go.RowKit
open Ar Rg
open BigFrame
open Pk (u8s u8s_length)
open It (str_le below_drewN)
def w6 (x:Int):Int:=IntKind.i64.wrap x
theorem w6_two (a b:Int):IntKind.i64.wrap (w6 a+w6 b)=w6 (a+b):=by unfold w6;simp only [IntKind.wrap_i64];omega
theorem w6_left (a b:Int):IntKind.i64.wrap (w6 a+b)=w6 (a+b):=by unfold w6;simp only [IntKind.wrap_i64];omega
theorem w6_in {a:Int}(h:-9223372036854775808≤a∧a≤9223372036854775807):w6 a=a:=IntWalk.i64_in a h
set_option maxRecDepth 100000 in
set_option maxHeartbeats 4000000 in
theorem sizeR_any (n:Nd) (cs:Array Value) (w:World) (hn:NdAt w cs n) :
  Calls Tryz.prog 128 #[.agg cs] w fun e w'=>e=.returned (.int .i64 (w6 ((szN n:Nat):Int)))∧Below w.heap.size w w':=by
 obtain⟨AI,nI,cI,AK,nK,cK,AV,nV,cV,rfl,hI,hK,hV,bI,bK,bV,lI,lK,lV⟩:=hn
 obtain⟨kd,I,K,V⟩:=n
 dsimp only at hI hK hV lI lK lV ⊢
 have HB0:=hid (show Below w.heap.size w (w.alloc (.cells #[.int .u8 (kd:Int),.slice AI nI cI,.slice AK nK cK,.slice AV nV cV] 31)) from (Below.refl _ _).alloc (Nat.le_refl _) _)
 have HI:=hid hI
 have HK:=hid hK
 have HV:=hid hV
 have HLI:=hid lI
 have HLK:=hid lK
 have HLV:=hid lV
 clear hI hK hV lI lK lV
 by_cases h1:kd=1
 ·have q1:((kd:Int)==1)=true:=by rw [h1];rfl
  obtain⟨Z,hZ⟩:∃ Z,((szN ⟨kd,I,K,V⟩:Nat):Int)=Z:=⟨_,rfl⟩
  have HZ:=hid (show ((2+(I.map szI).sum:Nat):Int)=Z by rw [← hZ];unfold szN;rw [if_pos h1])
  rw [hZ]
  clear hZ h1 HLK HLV HK HV
  go_enter Tryz.func128,Tryz.ntmps128
  go_wp2_with fail
  generalize w.alloc _=w0 at *
  go_loopw [3,17] (fun av v wr=>∃ (i:Nat) (a:Int),i≤nI∧v=.int .i64 i∧av=.int .i64 (w6 a)∧Hid (a=((2+((I.take i).map szI).sum:Nat):Int))∧Hid (Below w.heap.size w wr)) (fun _ v _=>nI-(intOf v).toNat)
  case atStart=>exact⟨0,2,Nat.zero_le _,by go_num,by rw [w6_in (by omega)],rfl,HB0.out⟩
  case round =>
   obtain⟨i,a,hi,rfl,rfl,hsum,hbel⟩:=hrel
   by_cases hlt:i<nI
   ·obtain⟨x,hx⟩:∃ x,I[i]?=some x:=⟨_,List.getElem?_eq_getElem (by rw [← HI.out];exact hlt)⟩
    obtain⟨b,o,hAe,hb,hr⟩:=(HLI.out.below (Hid.out hbel)) i x hx
    have hbs:b<wr.heap.size:=Nat.lt_of_lt_of_le hb (Hid.out hbel).size
    have HS:=hid (show a+(2+(x.k.size:Int)+(x.v.size:Int))=((2+((I.take (i+1)).map szI).sum:Nat):Int) by rw [sum_snoc szI hx,Hid.out hsum];unfold szI;omega)
    have HI1:=hid (show i+1≤nI by omega)
    have hc0:wr.cell? ⟨b,o+i*2,none⟩=some (.string x.k):=hr 0 _ rfl
    have hc1:wr.cell? ⟨b,o+i*2+1,none⟩=some (.string x.v):=hr 1 _ rfl
    have HBN:=hid (show Below w.heap.size w (wr.alloc (.cells #[.string x.k,.string x.v] 63)) from (Hid.out hbel).alloc (Hid.out hbel).size _)
    have hal0:(wr.alloc (.cells #[.string x.k,.string x.v] 63)).cell? ⟨wr.heap.size,0,none⟩=some (.string x.k):=by simp
    have hal1:(wr.alloc (.cells #[.string x.k,.string x.v] 63)).cell? ⟨wr.heap.size,1,none⟩=some (.string x.v):=by simp
    clear hr hx hsum hbel
    subst hAe
    have e1:IntKind.i64.wrap (2+(x.k.size:Int))=w6 (2+(x.k.size:Int)):=rfl
    have e2:IntKind.i64.wrap (w6 (2+(x.k.size:Int))+(x.v.size:Int))=w6 (2+(x.k.size:Int)+(x.v.size:Int)):=w6_left _ _
    have e3:IntKind.i64.wrap (w6 a+w6 (2+(x.k.size:Int)+(x.v.size:Int)))=w6 (a+(2+(x.k.size:Int)+(x.v.size:Int))):=w6_two _ _
    go_wp2_with fail
    clear e1 e2 e3
    exact⟨⟨i+1,_,HI1.out,by go_num,rfl,HS.out,HBN.out⟩,by simp [intOf]<;>omega⟩
   ·have HE:=hid (show a=Z by have h:=Hid.out hsum;rw [List.take_of_length_le (by rw [← HI.out];omega),HZ.out] at h;exact h)
    go_wp2
    go_ret
    exact⟨by rw [HE.out];rfl,Hid.out hbel⟩
 have q1:((kd:Int)==1)=false:=by rw [beq_eq_false_iff_ne];omega
 by_cases h2:kd=2
 ·have q2:((kd:Int)==2)=true:=by rw [h2];rfl
  obtain⟨Z,hZ⟩:∃ Z,((szN ⟨kd,I,K,V⟩:Nat):Int)=Z:=⟨_,rfl⟩
  have HZ:=hid (show ((2+(K.map szK).sum:Nat):Int)=Z by rw [← hZ];unfold szN;rw [if_neg h1,if_pos h2])
  rw [hZ]
  clear hZ h1 h2 HLI HLV HI HV
  go_enter Tryz.func128,Tryz.ntmps128
  go_wp2_with fail
  generalize w.alloc _=w0 at *
  go_loopw [3,37] (fun av v wr=>∃ (i:Nat) (a:Int),i≤nK∧v=.int .i64 i∧av=.int .i64 (w6 a)∧Hid (a=((2+((K.take i).map szK).sum:Nat):Int))∧Hid (Below w.heap.size w wr)) (fun _ v _=>nK-(intOf v).toNat)
  case atStart=>exact⟨0,2,Nat.zero_le _,by go_num,by rw [w6_in (by omega)],rfl,HB0.out⟩
  case round =>
   obtain⟨i,a,hi,rfl,rfl,hsum,hbel⟩:=hrel
   by_cases hlt:i<nK
   ·obtain⟨x,hx⟩:∃ x,K[i]?=some x:=⟨_,List.getElem?_eq_getElem (by rw [← HK.out];exact hlt)⟩
    obtain⟨b,o,hAe,hb,hr⟩:=(HLK.out.below (Hid.out hbel)) i x hx
    have hbs:b<wr.heap.size:=Nat.lt_of_lt_of_le hb (Hid.out hbel).size
    have HS:=hid (show a+(37+(x.k.size:Int))=((2+((K.take (i+1)).map szK).sum:Nat):Int) by rw [sum_snoc szK hx,Hid.out hsum];unfold szK;omega)
    have HI1:=hid (show i+1≤nK by omega)
    have HRG:=hid hr
    clear hr hx hsum
    subst hAe
    have e1:IntKind.i64.wrap (37+(x.k.size:Int))=w6 (37+(x.k.size:Int)):=rfl
    have e2:IntKind.i64.wrap (w6 a+w6 (37+(x.k.size:Int)))=w6 (a+(37+(x.k.size:Int))):=w6_two _ _
    go_wp2_with (first
     | (refine wpList_load_at rfl 45 (.tmp 39) rfl b (o+i*34) rfl (ecK x) _ HRG.out Tryz.underlying45 rfl (infoKs x) ?_)
     | (refine wpList_fresh rfl 45 (.tmp 7) (.tmp 40) rfl (ecK x).toArray _ _ rfl rfl (infoKa x) (ecK_sz x) (all_of_one (ecK_one x)) ?_;intro W1 hb1 hr1 hz1;have HBN:=hid ((Hid.out hbel).trans (hb1.mono (Hid.out hbel).size));have c0:W1.cell? ⟨wr.heap.size,0,none⟩=some (.string x.k):=cell_of_row _ _ 0 _ _ _ hr1;clear hr1 hz1 hb1 hbel HRG))
    clear e1 e2
    exact⟨⟨i+1,_,HI1.out,by go_num,rfl,HS.out,HBN.out⟩,by simp [intOf]<;>omega⟩
   ·have HE:=hid (show a=Z by have h:=Hid.out hsum;rw [List.take_of_length_le (by rw [← HK.out];omega),HZ.out] at h;exact h)
    go_wp2
    go_ret
    exact⟨by rw [HE.out];rfl,Hid.out hbel⟩
 have q2:((kd:Int)==2)=false:=by rw [beq_eq_false_iff_ne];omega
 by_cases h3:kd=3
 ·have q3:((kd:Int)==3)=true:=by rw [h3];rfl
  obtain⟨Z,hZ⟩:∃ Z,((szN ⟨kd,I,K,V⟩:Nat):Int)=Z:=⟨_,rfl⟩
  have HZ:=hid (show ((2+(V.map szV).sum:Nat):Int)=Z by rw [← hZ];unfold szN;rw [if_neg h1,if_neg h2,if_pos h3])
  rw [hZ]
  clear hZ h1 h2 h3 HLI HLK HI HK
  go_enter Tryz.func128,Tryz.ntmps128
  go_wp2_with fail
  generalize w.alloc _=w0 at *
  go_loopw [3,53] (fun av v wr=>∃ (i:Nat) (a:Int),i≤nV∧v=.int .i64 i∧av=.int .i64 (w6 a)∧Hid (a=((2+((V.take i).map szV).sum:Nat):Int))∧Hid (Below w.heap.size w wr)) (fun _ v _=>nV-(intOf v).toNat)
  case atStart=>exact⟨0,2,Nat.zero_le _,by go_num,by rw [w6_in (by omega)],rfl,HB0.out⟩
  case round =>
   obtain⟨i,a,hi,rfl,rfl,hsum,hbel⟩:=hrel
   by_cases hlt:i<nV
   ·obtain⟨x,hx⟩:∃ x,V[i]?=some x:=⟨_,List.getElem?_eq_getElem (by rw [← HV.out];exact hlt)⟩
    obtain⟨b,o,hAe,hb,hr⟩:=(HLV.out.below (Hid.out hbel)) i x hx
    have hbs:b<wr.heap.size:=Nat.lt_of_lt_of_le hb (Hid.out hbel).size
    have HS:=hid (show a+(47+(x.nm.size:Int)+(x.fr.size:Int))=((2+((V.take (i+1)).map szV).sum:Nat):Int) by rw [sum_snoc szV hx,Hid.out hsum];unfold szV;omega)
    have HI1:=hid (show i+1≤nV by omega)
    have HRG:=hid hr
    clear hr hx hsum
    subst hAe
    have e1:IntKind.i64.wrap (47+(x.nm.size:Int))=w6 (47+(x.nm.size:Int)):=rfl
    have e2:IntKind.i64.wrap (w6 (47+(x.nm.size:Int))+(x.fr.size:Int))=w6 (47+(x.nm.size:Int)+(x.fr.size:Int)):=w6_left _ _
    have e3:IntKind.i64.wrap (w6 a+w6 (47+(x.nm.size:Int)+(x.fr.size:Int)))=w6 (a+(47+(x.nm.size:Int)+(x.fr.size:Int))):=w6_two _ _
    go_wp2_with (first
     | (refine wpList_load_at rfl 121 (.tmp 55) rfl b (o+i*37) rfl (ecV x) _ HRG.out Tryz.underlying121 rfl (infoVs x) ?_)
     | (refine wpList_fresh rfl 121 (.tmp 9) (.tmp 56) rfl (ecV x).toArray _ _ rfl rfl (infoVa x) (ecV_sz x) (all_of_one (ecV_one x)) ?_;intro W1 hb1 hr1 hz1;have HBN:=hid ((Hid.out hbel).trans (hb1.mono (Hid.out hbel).size));have c0:W1.cell? ⟨wr.heap.size,0,none⟩=some (.string x.nm):=cell_of_row _ _ 0 _ _ _ hr1;have c2:W1.cell? ⟨wr.heap.size,2,none⟩=some (.string x.fr):=cell_of_row _ _ 2 _ _ _ hr1;clear hr1 hz1 hb1 hbel HRG))
    clear e1 e2 e3
    exact⟨⟨i+1,_,HI1.out,by go_num,rfl,HS.out,HBN.out⟩,by simp [intOf]<;>omega⟩
   ·have HE:=hid (show a=Z by have h:=Hid.out hsum;rw [List.take_of_length_le (by rw [← HV.out];omega),HZ.out] at h;exact h)
    go_wp2
    go_ret
    exact⟨by rw [HE.out];rfl,Hid.out hbel⟩
 ·have q3:((kd:Int)==3)=false:=by rw [beq_eq_false_iff_ne];omega
  have HZ:=hid (show w6 ((szN ⟨kd,I,K,V⟩:Nat):Int)=2 by unfold szN;rw [if_neg h1,if_neg h2,if_neg h3];exact w6_in (by decide))
  rw [HZ.out]
  clear h1 h2 h3
  go_enter Tryz.func128,Tryz.ntmps128
  go_wp2_with fail
  go_ret
  exact⟨rfl,HB0.out⟩
theorem put_none (a:Act) (v:Value):a.put none v=a:=rfl
theorem refNum_any (n:Nat) (w:World):Calls Tryz.prog 156 #[.int .u32 n] w fun e w'=>e=.returned (.bool (okNum n))∧w'=w:=by
 by_cases h1:2≤n
 ·have q1:decide ((2:Int)≤(n:Int))=true:=by rw [decide_eq_true_iff];omega
  have HF:=hid (show okNum n=decide (n<65536) by unfold okNum;rw [decide_eq_true h1,Bool.true_and])
  by_cases h2:n<65536
  ·have q2:decide ((n:Int)<65536)=true:=by rw [decide_eq_true_iff];omega
   have HG:=hid (decide_eq_true h2)
   clear h1 h2
   go_enter Tryz.func156,Tryz.ntmps156
   go_wp2
   go_ret
   exact⟨by rw [HF.out,HG.out];rfl,rfl⟩
  ·have q2:decide ((n:Int)<65536)=false:=by rw [decide_eq_false_iff_not];omega
   have HG:=hid (decide_eq_false h2)
   clear h1 h2
   go_enter Tryz.func156,Tryz.ntmps156
   go_wp2
   go_ret
   exact⟨by rw [HF.out,HG.out];rfl,rfl⟩
 ·have q1:decide ((2:Int)≤(n:Int))=false:=by rw [decide_eq_false_iff_not];omega
  have HF:=hid (show okNum n=false by unfold okNum;rw [decide_eq_false h1,Bool.false_and])
  clear h1
  go_enter Tryz.func156,Tryz.ntmps156
  go_wp2
  go_ret
  exact⟨by rw [HF.out];rfl,rfl⟩
def okKids (D:List Kd):Bool:=okCount D.length&&rtK none D
set_option maxRecDepth 100000 in
set_option maxHeartbeats 4000000 in
theorem refKids_any (D:List Kd) (hwd:∀ x∈D,x.hs.length=32) (A:Option Addr) (n cap B:Nat) (hn:n=D.length) (hm:n≤281474976710656) (w:World) (hB:B≤w.heap.size) (hD:Ls ecK 34 w B A D) :
  Calls Tryz.prog 126 #[.slice A n cap] w fun e w'=>e=.returned (.bool (okKids D))∧Below w.heap.size w w':=by
 have HN:=hid hn
 have HD:=hid hD
 have HWD:=hid hwd
 clear hn hD hwd
 go_enter Tryz.func126,Tryz.ntmps126
 go_wp2_with fail
 go_loopw [7] (fun v wr=>∃ i:Nat,i≤n∧v=.int .i64 i∧Hid (RtKAt D i)∧Hid (Below w.heap.size w wr)) (fun v _=>n-(intOf v).toNat)
 case atStart=>exact⟨0,Nat.zero_le _,by go_num,RtKAt.zero D,Below.refl _ _⟩
 case round =>
  obtain⟨i,hi,rfl,hrt,hbel⟩:=hrel
  by_cases hlt:i<n
  ·obtain⟨x,hx⟩:∃ x,D[i]?=some x:=⟨_,List.getElem?_eq_getElem (by rw [← HN.out];exact hlt)⟩
   have hxl:=HWD.out x (List.mem_of_getElem? hx)
   have hL:=HD.out.below ((Hid.out hbel).mono hB)
   obtain⟨b,o,hAe,hb,hr⟩:=hL i x hx
   have hbs:b<wr.heap.size:=Nat.lt_of_lt_of_le hb (Nat.le_trans hB (Hid.out hbel).size)
   have HRG:=hid hr
   have HL:=hid hL
   clear hL hr
   subst hAe
   have HX:=hid hxl
   clear hxl
   have HQ:=hid (fun w=>refNum_any x.n w)
   have hokE:okK x=(decide (x.k.size≠0)&&(decide (x.k.size≤48)&&okNum x.n)):=rfl
   obtain⟨q,hq⟩:∃ q,q=okNum x.n:=⟨_,rfl⟩
   rw [← hq] at HQ hokE
   clear hq
   by_cases c1:x.k.size≠0
   ·have s1:=str_empty c1
    have s2:=str_nonil c1
    by_cases c2:x.k.size≤48
    ·have s3:decide ((48:Int)<(x.k.size:Int))=false:=by rw [decide_eq_false_iff_not];omega
     cases q
     ·have hok:okK x=false:=by rw [hokE,Bool.and_false,Bool.and_false]
      have HF:=hid ((Hid.out hrt).bad hx hok)
      clear hrt hx hok hokE c1 c2
      go_wp2_with (first
       | (refine wpList_load_at rfl 45 (.tmp 10) rfl b (o+i*34) rfl (ecK x) _ HRG.out Tryz.underlying45 rfl (infoKs x) ?_)
       | (refine wpList_fresh rfl 45 (.tmp 4) (.tmp 11) rfl (ecK x).toArray _ _ rfl rfl (infoKa x) (ecK_sz x) (all_of_one (ecK_one x)) ?_;intro w1 hb1 hr1 hz1;have HB1:=hid ((Hid.out hbel).trans (hb1.mono (Hid.out hbel).size));have HR1:=hid hr1;have HL1:=hid (HL.out.below (hb1.mono (Nat.le_trans hB (Hid.out hbel).size)));have c0:w1.cell? ⟨wr.heap.size,0,none⟩=some (.string x.k):=cell_of_row _ _ 0 _ _ _ hr1;have c1:w1.cell? ⟨wr.heap.size,1,none⟩=some (.int .u32 x.n):=cell_of_row _ _ 1 _ _ _ hr1;clear hr1 hz1 hb1 hbel HL HRG))
      rw [put_none]
      go_big_quiet ((go_at_call 156;exact Calls.quiet_of_same (HQ.out _)))
      have HB2:=hid (below_drewN HB1.out nq)
      clear HB1 HL1
      generalize World.drewN _ _=W2 at *
      go_wp2
      go_ret
      exact⟨by rw [okKids,HF.out,Bool.and_false];rfl,HB2.out⟩
     ·have hok:okK x=true:=by rw [hokE,decide_eq_true c1,decide_eq_true c2];rfl
      clear hokE c1 c2
      go_wp2_with (first
       | (refine wpList_load_at rfl 45 (.tmp 10) rfl b (o+i*34) rfl (ecK x) _ HRG.out Tryz.underlying45 rfl (infoKs x) ?_)
       | (refine wpList_fresh rfl 45 (.tmp 4) (.tmp 11) rfl (ecK x).toArray _ _ rfl rfl (infoKa x) (ecK_sz x) (all_of_one (ecK_one x)) ?_;intro w1 hb1 hr1 hz1;have HB1:=hid ((Hid.out hbel).trans (hb1.mono (Hid.out hbel).size));have HR1:=hid hr1;have HL1:=hid (HL.out.below (hb1.mono (Nat.le_trans hB (Hid.out hbel).size)));have c0:w1.cell? ⟨wr.heap.size,0,none⟩=some (.string x.k):=cell_of_row _ _ 0 _ _ _ hr1;have c1:w1.cell? ⟨wr.heap.size,1,none⟩=some (.int .u32 x.n):=cell_of_row _ _ 1 _ _ _ hr1;clear hr1 hz1 hb1 hbel HL HRG))
      by_cases hi0:i=0
      ·subst hi0
       have HRT:=hid ((Hid.out hrt).first hx hok)
       clear hrt hx hi hok
       rw [put_none]
       go_big_quiet ((go_at_call 156;exact Calls.quiet_of_same (HQ.out _)))
       have HB2:=hid (below_drewN HB1.out nq)
       clear HB1 HL1
       generalize World.drewN _ _=W2 at *
       go_wp2
       exact⟨⟨1,by omega,by go_num,HRT.out,HB2.out⟩,by simp [intOf]<;>omega⟩
      ·obtain⟨k,hk⟩:∃ k,i=k+1:=⟨i-1,by omega⟩
       have hk1:(i:Int)-1=(k:Int):=by omega
       have hk2:decide ((0:Int)<(i:Int))=true:=by rw [decide_eq_true_iff];omega
       have hk3:(k:Int)<(n:Int):=by omega
       obtain⟨y,hy⟩:∃ y,D[k]?=some y:=⟨_,List.getElem?_eq_getElem (by rw [← HN.out];omega)⟩
       subst hk
       have HY:=hid hy
       by_cases hl:By.bl y.k.data.toList x.k.data.toList=true
       ·have hl1:Op.bytesLess y.k.toList x.k.toList=true:=by rw [ByteArray.toList_eq,ByteArray.toList_eq];exact hl
        have HRT:=hid ((Hid.out hrt).more hy hx hok hl)
        clear hrt hx hl hok hy
        obtain⟨b2,o2,hAe,hb2,hr2⟩:=HL1.out k y HY.out
        cases hAe
        have hcy:=hr2 0 _ rfl
        rw [Nat.add_zero] at hcy
        clear hr2
        rw [put_none]
        go_big_quiet ((go_at_call 156;exact Calls.quiet_of_same (HQ.out _)))
        have HB2:=hid (below_drewN HB1.out nq)
        clear HB1 HL1
        generalize World.drewN _ _=W2 at *
        go_wp2
        exact⟨⟨k+2,by omega,by go_num,HRT.out,HB2.out⟩,by simp [intOf]<;>omega⟩
       ·have hl0:By.bl y.k.data.toList x.k.data.toList=false:=by simpa using hl
        have hl1:Op.bytesLess y.k.toList x.k.toList=false:=by rw [ByteArray.toList_eq,ByteArray.toList_eq];exact hl0
        have HF:=hid ((Hid.out hrt).down hy hx hl0)
        clear hrt hx hl hl0 hok hy
        obtain⟨b2,o2,hAe,hb2,hr2⟩:=HL1.out k y HY.out
        cases hAe
        have hcy:=hr2 0 _ rfl
        rw [Nat.add_zero] at hcy
        clear hr2
        rw [put_none]
        go_big_quiet ((go_at_call 156;exact Calls.quiet_of_same (HQ.out _)))
        have HB2:=hid (below_drewN HB1.out nq)
        clear HB1 HL1
        generalize World.drewN _ _=W2 at *
        go_wp2
        go_ret
        exact⟨by rw [okKids,HF.out,Bool.and_false];rfl,HB2.out⟩
    ·have s3:decide ((48:Int)<(x.k.size:Int))=true:=by rw [decide_eq_true_iff];omega
     have hok:okK x=false:=by rw [hokE,decide_eq_false c2,Bool.false_and,Bool.and_false]
     have HF:=hid ((Hid.out hrt).bad hx hok)
     clear hrt hx hok hokE c1 c2
     go_wp2_with (first
      | (refine wpList_load_at rfl 45 (.tmp 10) rfl b (o+i*34) rfl (ecK x) _ HRG.out Tryz.underlying45 rfl (infoKs x) ?_)
      | (refine wpList_fresh rfl 45 (.tmp 4) (.tmp 11) rfl (ecK x).toArray _ _ rfl rfl (infoKa x) (ecK_sz x) (all_of_one (ecK_one x)) ?_;intro w1 hb1 hr1 hz1;have HB1:=hid ((Hid.out hbel).trans (hb1.mono (Hid.out hbel).size));have HR1:=hid hr1;have HL1:=hid (HL.out.below (hb1.mono (Nat.le_trans hB (Hid.out hbel).size)));have c0:w1.cell? ⟨wr.heap.size,0,none⟩=some (.string x.k):=cell_of_row _ _ 0 _ _ _ hr1;have c1:w1.cell? ⟨wr.heap.size,1,none⟩=some (.int .u32 x.n):=cell_of_row _ _ 1 _ _ _ hr1;clear hr1 hz1 hb1 hbel HL HRG))
     rw [put_none]
     go_big_quiet ((go_at_call 156;exact Calls.quiet_of_same (HQ.out _)))
     have HB2:=hid (below_drewN HB1.out nq)
     clear HB1 HL1
     generalize World.drewN _ _=W2 at *
     go_wp2
     go_ret
     exact⟨by rw [okKids,HF.out,Bool.and_false];rfl,HB2.out⟩
   ·have c1':x.k.size=0:=Decidable.not_not.1 c1
    have s1:=str_nil c1'
    have hok:okK x=false:=by rw [hokE,decide_eq_false c1,Bool.false_and]
    have HF:=hid ((Hid.out hrt).bad hx hok)
    clear hrt hx hok hokE c1 c1'
    go_wp2_with (first
     | (refine wpList_load_at rfl 45 (.tmp 10) rfl b (o+i*34) rfl (ecK x) _ HRG.out Tryz.underlying45 rfl (infoKs x) ?_)
     | (refine wpList_fresh rfl 45 (.tmp 4) (.tmp 11) rfl (ecK x).toArray _ _ rfl rfl (infoKa x) (ecK_sz x) (all_of_one (ecK_one x)) ?_;intro w1 hb1 hr1 hz1;have HB1:=hid ((Hid.out hbel).trans (hb1.mono (Hid.out hbel).size));have HR1:=hid hr1;have HL1:=hid (HL.out.below (hb1.mono (Nat.le_trans hB (Hid.out hbel).size)));have c0:w1.cell? ⟨wr.heap.size,0,none⟩=some (.string x.k):=cell_of_row _ _ 0 _ _ _ hr1;have c1:w1.cell? ⟨wr.heap.size,1,none⟩=some (.int .u32 x.n):=cell_of_row _ _ 1 _ _ _ hr1;clear hr1 hz1 hb1 hbel HL HRG))
    rw [put_none]
    go_big_quiet ((go_at_call 156;exact Calls.quiet_of_same (HQ.out _)))
    have HB2:=hid (below_drewN HB1.out nq)
    clear HB1 HL1
    generalize World.drewN _ _=W2 at *
    go_wp2
    go_ret
    exact⟨by rw [okKids,HF.out,Bool.and_false];rfl,HB2.out⟩
  ·have HF:=hid ((Hid.out hrt).last (by rw [← HN.out];omega))
   have HE:okKids D=okCount n:=by rw [okKids,HF.out,Bool.and_true,HN.out]
   have HE:=hid HE
   by_cases d1:1≤n
   ·have e1:decide ((1:Int)≤(n:Int))=true:=by rw [decide_eq_true_iff];omega
    by_cases d2:n≤255
    ·have e2:decide ((n:Int)≤255)=true:=by rw [decide_eq_true_iff];omega
     have HG:=hid (show okCount n=true by rw [okCount,decide_eq_true d1,decide_eq_true d2];rfl)
     clear d1 d2
     go_wp2
     go_ret
     exact⟨by rw [HE.out,HG.out];rfl,Hid.out hbel⟩
    ·have e2:decide ((n:Int)≤255)=false:=by rw [decide_eq_false_iff_not];omega
     have HG:=hid (show okCount n=false by rw [okCount,decide_eq_true d1,decide_eq_false d2];rfl)
     clear d1 d2
     go_wp2
     go_ret
     exact⟨by rw [HE.out,HG.out];rfl,Hid.out hbel⟩
   ·have e1:decide ((1:Int)≤(n:Int))=false:=by rw [decide_eq_false_iff_not];omega
    have HG:=hid (show okCount n=false by rw [okCount,decide_eq_false d1];rfl)
    clear d1
    go_wp2
    go_ret
    exact⟨by rw [HE.out,HG.out];rfl,Hid.out hbel⟩
theorem wpList_load_at_g {P:Program}{ops:Array Oper}{rest:List Oper}{o:Oper}{a:Act}{w:World}{Q:Exit→Act→World→Prop}(ty:TypeId) (x:Operand) (ho:o.op=.load ty x) (hw:Region.wanted o (yielded ops a.tmps)=true) (b off:Nat) (hx:a.eval x=.pointer (some ⟨b,off,none⟩)) (cs:List Value) (d:TypeDesc) (hc:w.rangeAt b off cs)
  (hu:P.underlying ty=some d) (hd:d.isRow=true) (hi:(P.info? ty).map (·.size)=some cs.length) (h:wpList P ops Q rest (a.put o.dst (.agg cs.toArray)) w):wpList P ops Q (o::rest) a w :=
 wpList_want hw fun K hK=>by
  unfold Oper.wp
  rw [load_run ty x ho b off hx cs d hc hu hd hi,Oper.upon_value]
  exact hK _ _ h
theorem wpList_id {P:Program}{ops:Array Oper}{l:List Oper}{a:Act}{w:World}{Q:Exit→Act→World→Prop}(h:wpList P ops Q l a w):wpList P ops Q l a w:=h
def okVols (D:List Vo):Bool:=decide (D.length≤6)&&rtV none D
theorem okV_root (x:Vo) (h1:x.nm.size≠0) (h2:x.nm.size≤16) (h3:x.fr.size≤16) (h4:1≤x.kd) (h5:x.kd≤2):okV x=rtRoot x:=by
 rw [okV_eq,decide_eq_true h1,decide_eq_true h2,decide_eq_true h3,decide_eq_true h4,decide_eq_true h5,Bool.true_and,Bool.true_and,Bool.true_and,Bool.true_and,Bool.true_and]
theorem refNum_any2 (n:Nat) (w:World):Calls Tryz.prog 156 #[.int .u32 n] w fun e w'=>e=.returned (.bool (okNum n))∧w=w':=(refNum_any n w).mono fun e w' h=>⟨h.1,h.2.symm⟩
set_option maxRecDepth 100000 in
set_option maxHeartbeats 8000000 in
theorem refVolumes_any (D:List Vo) (hwd:∀ x∈D,x.hs.length=32) (A:Option Addr) (n cap B:Nat) (hn:n=D.length) (hm:n≤281474976710656) (w:World) (hB:B≤w.heap.size) (hD:Ls ecV 37 w B A D) :
  Calls Tryz.prog 127 #[.slice A n cap] w fun e w'=>e=.returned (.bool (okVols D))∧Below w.heap.size w w':=by
 have HN:=hid hn
 have HD:=hid hD
 have HWD:=hid hwd
 clear hn hD hwd
 go_enter Tryz.func127,Tryz.ntmps127
 go_wp2_with fail
 go_loopw [7] (fun v wr=>∃ i:Nat,i≤n∧v=.int .i64 i∧Hid (RtVAt D i)∧Hid (Below w.heap.size w wr)) (fun v _=>n-(intOf v).toNat)
 case atStart=>exact⟨0,Nat.zero_le _,by go_num,RtVAt.zero D,Below.refl _ _⟩
 case round =>
  obtain⟨i,hi,rfl,hrt,hbel⟩:=hrel
  by_cases hlt:i<n
  ·obtain⟨x,hx⟩:∃ x,D[i]?=some x:=⟨_,List.getElem?_eq_getElem (by rw [← HN.out];exact hlt)⟩
   have hxl:=HWD.out x (List.mem_of_getElem? hx)
   have hL:=HD.out.below ((Hid.out hbel).mono hB)
   obtain⟨b,o,hAe,hb,hr⟩:=hL i x hx
   have hbs:b<wr.heap.size:=Nat.lt_of_lt_of_le hb (Nat.le_trans hB (Hid.out hbel).size)
   have HRG:=hid hr
   have HL:=hid hL
   clear hL hr
   subst hAe
   have HX:=hid hxl
   clear hxl
   have HBAD:=hid (fun h:okV x=false=>hid ((Hid.out hrt).bad hx h))
   by_cases c1:x.nm.size≠0
   ·skip
    by_cases c2:x.nm.size≤16
    ·skip
     by_cases c3:x.fr.size≤16
     ·skip
      by_cases c4:1≤x.kd
      ·skip
       by_cases c5:x.kd≤2
       ·skip
        have t1a:=str_empty c1
        have t1b:=str_nonil c1
        have t2:decide ((16:Int)<(x.nm.size:Int))=false:=by rw [decide_eq_false_iff_not];omega
        have t3:decide ((16:Int)<(x.fr.size:Int))=false:=by rw [decide_eq_false_iff_not];omega
        have t4:decide ((x.kd:Int)≤0)=false:=by rw [decide_eq_false_iff_not];omega
        have t4b:decide (x.kd=0)=false:=by rw [decide_eq_false_iff_not];omega
        have t5:decide (3≤(x.kd:Int))=false:=by rw [decide_eq_false_iff_not];omega
        have HV:=hid (okV_root x c1 c2 c3 c4 c5)
        clear c1 c2 c3 c4 c5
        go_wp2_with (first
         | (refine wpList_load_at rfl 121 (.tmp 10) rfl b (o+i*37) rfl (ecV x) _ HRG.out Tryz.underlying121 rfl (infoVs x) ?_)
         | (refine wpList_fresh rfl 121 (.tmp 4) (.tmp 11) rfl (ecV x).toArray _ _ rfl rfl (infoVa x) (ecV_sz x) (all_of_one (ecV_one x)) ?_;intro w1 hb1 hr1 hz1;have HB1:=hid ((Hid.out hbel).trans (hb1.mono (Hid.out hbel).size));have HR1:=hid hr1;have HL1:=hid (HL.out.below (hb1.mono (Nat.le_trans hB (Hid.out hbel).size)));have c0:w1.cell? ⟨wr.heap.size,0,none⟩=some (.string x.nm):=cell_of_row _ _ 0 _ _ _ hr1;have c1:w1.cell? ⟨wr.heap.size,1,none⟩=some (.int .u8 x.kd):=cell_of_row _ _ 1 _ _ _ hr1;have c2:w1.cell? ⟨wr.heap.size,2,none⟩=some (.string x.fr):=cell_of_row _ _ 2 _ _ _ hr1;clear hr1 hz1 hb1 hbel HL HRG))
        rw [put_none]
        by_cases hi0:i=0
        ·subst hi0
         have HGO:=hid (fun h:okV x=true=>(Hid.out hrt).first hx h)
         clear hrt hx hi
         go_big_quiet (fail)
         have HB2:=hid (below_drewN HB1.out nq)
         have c4:(w1.drewN nq).cell? ⟨wr.heap.size,4,none⟩=some (.int .u32 x.rt):=cell_of_row _ _ 4 _ _ _ HR1.out
         have HRG:=hid (show (w1.drewN nq).rangeAt wr.heap.size 5 (u8s x.hs) from rangeAt_row HR1.out (fun j v hj=>by
          rw [ecV_of HX.out]
          show (encV x).toArray[5+j]?=some v
          unfold encV
          rw [List.getElem?_toArray,Nat.add_comm 5 j]
          exact hj))
         clear HB1 HL1 HR1 c0 c1 c2
         try clear hcy
         generalize World.drewN _ _=W2 at *
         by_cases h0:x.rt=0
         ·have HE:=hid (show okV x=decide (x.hs=List.replicate 32 0) by rw [HV.out];unfold rtRoot zero32;rw [if_pos h0])
          have c4b:W2.cell? ⟨wr.heap.size,4,none⟩=some (.int .u32 0):=by rw [c4,h0];rfl
          clear c4
          have HEQ:=hid (show ∀ w,(Op.equalIn 10000 43 (.agg (u8s x.hs).toArray) (.agg zH)).run Tryz.prog w=.ok (decide (x.hs=List.replicate 32 0)) w from fun w=>by rw [zH_u8s];exact eq_arr (m:=List.replicate 32 0) HX.out (by rw [List.length_replicate]) w)
          have HI:=hid (show (Tryz.prog.info? 43).map (·.size)=some (u8s x.hs).length by rw [u8s_length,HX.out];kernel_rfl)
          generalize decide (x.hs=List.replicate 32 0)=q at *
          clear h0
          have heq:=HEQ.out
          have hgd:=guard32
          cases q
          ·have hok:=HE.out
           have HF:=hid (HBAD.out hok)
           clear hok
           go_wp2_with (with_reducible refine wpList_id ?_;refine wpList_load_at_g 43 (.tmp 56) rfl (by kernel_rfl) wr.heap.size 5 rfl (u8s x.hs) _ HRG.out Tryz.underlying43 rfl HI.out ?_)
           go_ret
           exact⟨by rw [okVols,HF.out,Bool.and_false];rfl,HB2.out⟩
          ·have hok:=HE.out
           have HRT:=hid (HGO.out hok)
           clear hok
           go_wp2_with (with_reducible refine wpList_id ?_;refine wpList_load_at_g 43 (.tmp 56) rfl (by kernel_rfl) wr.heap.size 5 rfl (u8s x.hs) _ HRG.out Tryz.underlying43 rfl HI.out ?_)
           exact⟨⟨1,by omega,by go_num,HRT.out,HB2.out⟩,by simp [intOf]<;>omega⟩
         ·have HE:=hid (show okV x=okNum x.rt by rw [HV.out];unfold rtRoot;rw [if_neg h0])
          have q0:((x.rt:Int)==0)=false:=by rw [beq_eq_false_iff_ne];omega
          have q1:((x.rt:Int) != 0)=true:=by rw [bne_iff_ne];omega
          have q2:¬ x.rt=0:=h0
          have HN2:=hid (fun w=>refNum_any2 x.rt w)
          generalize okNum x.rt=q at *
          clear h0 HRG
          cases q
          ·have hok:=HE.out
           have HF:=hid (HBAD.out hok)
           clear hok
           go_wp2_with (go_at_call 156;refine (HN2.out _).mono ?_;rintro e w' ⟨rfl,rfl⟩)
           go_ret
           exact⟨by rw [okVols,HF.out,Bool.and_false];rfl,HB2.out⟩
          ·have hok:=HE.out
           have HRT:=hid (HGO.out hok)
           clear hok
           go_wp2_with (go_at_call 156;refine (HN2.out _).mono ?_;rintro e w' ⟨rfl,rfl⟩)
           exact⟨⟨1,by omega,by go_num,HRT.out,HB2.out⟩,by simp [intOf]<;>omega⟩
        ·obtain⟨k,hk⟩:∃ k,i=k+1:=⟨i-1,by omega⟩
         have hk1:(i:Int)-1=(k:Int):=by omega
         have hk2:decide ((0:Int)<(i:Int))=true:=by rw [decide_eq_true_iff];omega
         have hk3:(k:Int)<(n:Int):=by omega
         obtain⟨y,hy⟩:∃ y,D[k]?=some y:=⟨_,List.getElem?_eq_getElem (by rw [← HN.out];omega)⟩
         subst hk
         have HY:=hid hy
         by_cases hl:By.bl y.nm.data.toList x.nm.data.toList=true
         ·have hl1:Op.bytesLess y.nm.toList x.nm.toList=true:=by rw [ByteArray.toList_eq,ByteArray.toList_eq];exact hl
          have HGO:=hid (fun h:okV x=true=>(Hid.out hrt).more hy hx h hl)
          clear hrt hx hl hy
          obtain⟨b2,o2,hAe,hb2,hr2⟩:=HL1.out k y HY.out
          cases hAe
          have hcy:=hr2 0 _ rfl
          rw [Nat.add_zero] at hcy
          clear hr2
          go_big_quiet (fail)
          have HB2:=hid (below_drewN HB1.out nq)
          have c4:(w1.drewN nq).cell? ⟨wr.heap.size,4,none⟩=some (.int .u32 x.rt):=cell_of_row _ _ 4 _ _ _ HR1.out
          have HRG:=hid (show (w1.drewN nq).rangeAt wr.heap.size 5 (u8s x.hs) from rangeAt_row HR1.out (fun j v hj=>by
           rw [ecV_of HX.out]
           show (encV x).toArray[5+j]?=some v
           unfold encV
           rw [List.getElem?_toArray,Nat.add_comm 5 j]
           exact hj))
          clear HB1 HL1 HR1 c0 c1 c2
          try clear hcy
          generalize World.drewN _ _=W2 at *
          by_cases h0:x.rt=0
          ·have HE:=hid (show okV x=decide (x.hs=List.replicate 32 0) by rw [HV.out];unfold rtRoot zero32;rw [if_pos h0])
           have c4b:W2.cell? ⟨wr.heap.size,4,none⟩=some (.int .u32 0):=by rw [c4,h0];rfl
           clear c4
           have HEQ:=hid (show ∀ w,(Op.equalIn 10000 43 (.agg (u8s x.hs).toArray) (.agg zH)).run Tryz.prog w=.ok (decide (x.hs=List.replicate 32 0)) w from fun w=>by rw [zH_u8s];exact eq_arr (m:=List.replicate 32 0) HX.out (by rw [List.length_replicate]) w)
           have HI:=hid (show (Tryz.prog.info? 43).map (·.size)=some (u8s x.hs).length by rw [u8s_length,HX.out];kernel_rfl)
           generalize decide (x.hs=List.replicate 32 0)=q at *
           clear h0
           have heq:=HEQ.out
           have hgd:=guard32
           cases q
           ·have hok:=HE.out
            have HF:=hid (HBAD.out hok)
            clear hok
            go_wp2_with (with_reducible refine wpList_id ?_;refine wpList_load_at_g 43 (.tmp 56) rfl (by kernel_rfl) wr.heap.size 5 rfl (u8s x.hs) _ HRG.out Tryz.underlying43 rfl HI.out ?_)
            go_ret
            exact⟨by rw [okVols,HF.out,Bool.and_false];rfl,HB2.out⟩
           ·have hok:=HE.out
            have HRT:=hid (HGO.out hok)
            clear hok
            go_wp2_with (with_reducible refine wpList_id ?_;refine wpList_load_at_g 43 (.tmp 56) rfl (by kernel_rfl) wr.heap.size 5 rfl (u8s x.hs) _ HRG.out Tryz.underlying43 rfl HI.out ?_)
            exact⟨⟨k+2,by omega,by go_num,HRT.out,HB2.out⟩,by simp [intOf]<;>omega⟩
          ·have HE:=hid (show okV x=okNum x.rt by rw [HV.out];unfold rtRoot;rw [if_neg h0])
           have q0:((x.rt:Int)==0)=false:=by rw [beq_eq_false_iff_ne];omega
           have q1:((x.rt:Int) != 0)=true:=by rw [bne_iff_ne];omega
           have q2:¬ x.rt=0:=h0
           have HN2:=hid (fun w=>refNum_any2 x.rt w)
           generalize okNum x.rt=q at *
           clear h0 HRG
           cases q
           ·have hok:=HE.out
            have HF:=hid (HBAD.out hok)
            clear hok
            go_wp2_with (go_at_call 156;refine (HN2.out _).mono ?_;rintro e w' ⟨rfl,rfl⟩)
            go_ret
            exact⟨by rw [okVols,HF.out,Bool.and_false];rfl,HB2.out⟩
           ·have hok:=HE.out
            have HRT:=hid (HGO.out hok)
            clear hok
            go_wp2_with (go_at_call 156;refine (HN2.out _).mono ?_;rintro e w' ⟨rfl,rfl⟩)
            exact⟨⟨k+2,by omega,by go_num,HRT.out,HB2.out⟩,by simp [intOf]<;>omega⟩
         ·have hl0:By.bl y.nm.data.toList x.nm.data.toList=false:=by simpa using hl
          have hl1:Op.bytesLess y.nm.toList x.nm.toList=false:=by rw [ByteArray.toList_eq,ByteArray.toList_eq];exact hl0
          have HF:=hid ((Hid.out hrt).down hy hx hl0)
          clear hrt hx hl hl0 hy
          obtain⟨b2,o2,hAe,hb2,hr2⟩:=HL1.out k y HY.out
          cases hAe
          have hcy:=hr2 0 _ rfl
          rw [Nat.add_zero] at hcy
          clear hr2
          go_big_quiet (fail)
          have HB2:=hid (below_drewN HB1.out nq)
          clear HB1 HL1 HR1
          generalize World.drewN _ _=W2 at *
          go_wp2
          go_ret
          exact⟨by rw [okVols,HF.out,Bool.and_false];rfl,HB2.out⟩
       ·skip
        have HF:=HBAD.out (show okV x=false by rw [okV_eq,decide_eq_true c1,Bool.true_and,decide_eq_true c2,Bool.true_and,decide_eq_true c3,Bool.true_and,decide_eq_true c4,Bool.true_and,decide_eq_false c5,Bool.false_and])
        have t1a:=str_empty c1
        have t1b:=str_nonil c1
        have t2:decide ((16:Int)<(x.nm.size:Int))=false:=by rw [decide_eq_false_iff_not];omega
        have t3:decide ((16:Int)<(x.fr.size:Int))=false:=by rw [decide_eq_false_iff_not];omega
        have t4:decide ((x.kd:Int)≤0)=false:=by rw [decide_eq_false_iff_not];omega
        have t4b:decide (x.kd=0)=false:=by rw [decide_eq_false_iff_not];omega
        have t5:decide (3≤(x.kd:Int))=true:=by rw [decide_eq_true_iff];omega
        clear hrt hx HBAD c1 c2 c3 c4 c5
        go_wp2_with (first
         | (refine wpList_load_at rfl 121 (.tmp 10) rfl b (o+i*37) rfl (ecV x) _ HRG.out Tryz.underlying121 rfl (infoVs x) ?_)
         | (refine wpList_fresh rfl 121 (.tmp 4) (.tmp 11) rfl (ecV x).toArray _ _ rfl rfl (infoVa x) (ecV_sz x) (all_of_one (ecV_one x)) ?_;intro w1 hb1 hr1 hz1;have HB1:=hid ((Hid.out hbel).trans (hb1.mono (Hid.out hbel).size));have HR1:=hid hr1;have HL1:=hid (HL.out.below (hb1.mono (Nat.le_trans hB (Hid.out hbel).size)));have c0:w1.cell? ⟨wr.heap.size,0,none⟩=some (.string x.nm):=cell_of_row _ _ 0 _ _ _ hr1;have c1:w1.cell? ⟨wr.heap.size,1,none⟩=some (.int .u8 x.kd):=cell_of_row _ _ 1 _ _ _ hr1;have c2:w1.cell? ⟨wr.heap.size,2,none⟩=some (.string x.fr):=cell_of_row _ _ 2 _ _ _ hr1;clear hr1 hz1 hb1 hbel HL HRG))
        rw [put_none]
        go_big_quiet (fail)
        have HB2:=hid (below_drewN HB1.out nq)
        clear HB1 HL1 HR1
        generalize World.drewN _ _=W2 at *
        go_wp2
        go_ret
        exact⟨by rw [okVols,HF.out,Bool.and_false];rfl,HB2.out⟩
      ·skip
       have HF:=HBAD.out (show okV x=false by rw [okV_eq,decide_eq_true c1,Bool.true_and,decide_eq_true c2,Bool.true_and,decide_eq_true c3,Bool.true_and,decide_eq_false c4,Bool.false_and])
       have t1a:=str_empty c1
       have t1b:=str_nonil c1
       have t2:decide ((16:Int)<(x.nm.size:Int))=false:=by rw [decide_eq_false_iff_not];omega
       have t3:decide ((16:Int)<(x.fr.size:Int))=false:=by rw [decide_eq_false_iff_not];omega
       have t4:decide ((x.kd:Int)≤0)=true:=by rw [decide_eq_true_iff];omega
       have t4b:decide (x.kd=0)=true:=by rw [decide_eq_true_iff];omega
       clear hrt hx HBAD c1 c2 c3 c4
       go_wp2_with (first
        | (refine wpList_load_at rfl 121 (.tmp 10) rfl b (o+i*37) rfl (ecV x) _ HRG.out Tryz.underlying121 rfl (infoVs x) ?_)
        | (refine wpList_fresh rfl 121 (.tmp 4) (.tmp 11) rfl (ecV x).toArray _ _ rfl rfl (infoVa x) (ecV_sz x) (all_of_one (ecV_one x)) ?_;intro w1 hb1 hr1 hz1;have HB1:=hid ((Hid.out hbel).trans (hb1.mono (Hid.out hbel).size));have HR1:=hid hr1;have HL1:=hid (HL.out.below (hb1.mono (Nat.le_trans hB (Hid.out hbel).size)));have c0:w1.cell? ⟨wr.heap.size,0,none⟩=some (.string x.nm):=cell_of_row _ _ 0 _ _ _ hr1;have c1:w1.cell? ⟨wr.heap.size,1,none⟩=some (.int .u8 x.kd):=cell_of_row _ _ 1 _ _ _ hr1;have c2:w1.cell? ⟨wr.heap.size,2,none⟩=some (.string x.fr):=cell_of_row _ _ 2 _ _ _ hr1;clear hr1 hz1 hb1 hbel HL HRG))
       rw [put_none]
       go_big_quiet (fail)
       have HB2:=hid (below_drewN HB1.out nq)
       clear HB1 HL1 HR1
       generalize World.drewN _ _=W2 at *
       go_wp2
       go_ret
       exact⟨by rw [okVols,HF.out,Bool.and_false];rfl,HB2.out⟩
     ·skip
      have HF:=HBAD.out (show okV x=false by rw [okV_eq,decide_eq_true c1,Bool.true_and,decide_eq_true c2,Bool.true_and,decide_eq_false c3,Bool.false_and])
      have t1a:=str_empty c1
      have t1b:=str_nonil c1
      have t2:decide ((16:Int)<(x.nm.size:Int))=false:=by rw [decide_eq_false_iff_not];omega
      have t3:decide ((16:Int)<(x.fr.size:Int))=true:=by rw [decide_eq_true_iff];omega
      clear hrt hx HBAD c1 c2 c3
      go_wp2_with (first
       | (refine wpList_load_at rfl 121 (.tmp 10) rfl b (o+i*37) rfl (ecV x) _ HRG.out Tryz.underlying121 rfl (infoVs x) ?_)
       | (refine wpList_fresh rfl 121 (.tmp 4) (.tmp 11) rfl (ecV x).toArray _ _ rfl rfl (infoVa x) (ecV_sz x) (all_of_one (ecV_one x)) ?_;intro w1 hb1 hr1 hz1;have HB1:=hid ((Hid.out hbel).trans (hb1.mono (Hid.out hbel).size));have HR1:=hid hr1;have HL1:=hid (HL.out.below (hb1.mono (Nat.le_trans hB (Hid.out hbel).size)));have c0:w1.cell? ⟨wr.heap.size,0,none⟩=some (.string x.nm):=cell_of_row _ _ 0 _ _ _ hr1;have c1:w1.cell? ⟨wr.heap.size,1,none⟩=some (.int .u8 x.kd):=cell_of_row _ _ 1 _ _ _ hr1;have c2:w1.cell? ⟨wr.heap.size,2,none⟩=some (.string x.fr):=cell_of_row _ _ 2 _ _ _ hr1;clear hr1 hz1 hb1 hbel HL HRG))
      rw [put_none]
      go_big_quiet (fail)
      have HB2:=hid (below_drewN HB1.out nq)
      clear HB1 HL1 HR1
      generalize World.drewN _ _=W2 at *
      go_wp2
      go_ret
      exact⟨by rw [okVols,HF.out,Bool.and_false];rfl,HB2.out⟩
    ·skip
     have HF:=HBAD.out (show okV x=false by rw [okV_eq,decide_eq_true c1,Bool.true_and,decide_eq_false c2,Bool.false_and])
     have t1a:=str_empty c1
     have t1b:=str_nonil c1
     have t2:decide ((16:Int)<(x.nm.size:Int))=true:=by rw [decide_eq_true_iff];omega
     clear hrt hx HBAD c1 c2
     go_wp2_with (first
      | (refine wpList_load_at rfl 121 (.tmp 10) rfl b (o+i*37) rfl (ecV x) _ HRG.out Tryz.underlying121 rfl (infoVs x) ?_)
      | (refine wpList_fresh rfl 121 (.tmp 4) (.tmp 11) rfl (ecV x).toArray _ _ rfl rfl (infoVa x) (ecV_sz x) (all_of_one (ecV_one x)) ?_;intro w1 hb1 hr1 hz1;have HB1:=hid ((Hid.out hbel).trans (hb1.mono (Hid.out hbel).size));have HR1:=hid hr1;have HL1:=hid (HL.out.below (hb1.mono (Nat.le_trans hB (Hid.out hbel).size)));have c0:w1.cell? ⟨wr.heap.size,0,none⟩=some (.string x.nm):=cell_of_row _ _ 0 _ _ _ hr1;have c1:w1.cell? ⟨wr.heap.size,1,none⟩=some (.int .u8 x.kd):=cell_of_row _ _ 1 _ _ _ hr1;have c2:w1.cell? ⟨wr.heap.size,2,none⟩=some (.string x.fr):=cell_of_row _ _ 2 _ _ _ hr1;clear hr1 hz1 hb1 hbel HL HRG))
     rw [put_none]
     go_big_quiet (fail)
     have HB2:=hid (below_drewN HB1.out nq)
     clear HB1 HL1 HR1
     generalize World.drewN _ _=W2 at *
     go_wp2
     go_ret
     exact⟨by rw [okVols,HF.out,Bool.and_false];rfl,HB2.out⟩
   ·skip
    have HF:=HBAD.out (show okV x=false by rw [okV_eq,decide_eq_false c1,Bool.false_and])
    have t1a:=str_nil (Decidable.not_not.1 c1)
    clear hrt hx HBAD c1
    go_wp2_with (first
     | (refine wpList_load_at rfl 121 (.tmp 10) rfl b (o+i*37) rfl (ecV x) _ HRG.out Tryz.underlying121 rfl (infoVs x) ?_)
     | (refine wpList_fresh rfl 121 (.tmp 4) (.tmp 11) rfl (ecV x).toArray _ _ rfl rfl (infoVa x) (ecV_sz x) (all_of_one (ecV_one x)) ?_;intro w1 hb1 hr1 hz1;have HB1:=hid ((Hid.out hbel).trans (hb1.mono (Hid.out hbel).size));have HR1:=hid hr1;have HL1:=hid (HL.out.below (hb1.mono (Nat.le_trans hB (Hid.out hbel).size)));have c0:w1.cell? ⟨wr.heap.size,0,none⟩=some (.string x.nm):=cell_of_row _ _ 0 _ _ _ hr1;have c1:w1.cell? ⟨wr.heap.size,1,none⟩=some (.int .u8 x.kd):=cell_of_row _ _ 1 _ _ _ hr1;have c2:w1.cell? ⟨wr.heap.size,2,none⟩=some (.string x.fr):=cell_of_row _ _ 2 _ _ _ hr1;clear hr1 hz1 hb1 hbel HL HRG))
    rw [put_none]
    go_big_quiet (fail)
    have HB2:=hid (below_drewN HB1.out nq)
    clear HB1 HL1 HR1
    generalize World.drewN _ _=W2 at *
    go_wp2
    go_ret
    exact⟨by rw [okVols,HF.out,Bool.and_false];rfl,HB2.out⟩
  ·have HF:=hid ((Hid.out hrt).last (by rw [← HN.out];omega))
   have HE:=hid (show okVols D=decide (n≤6) by rw [okVols,HF.out,Bool.and_true,HN.out])
   by_cases d2:n≤6
   ·have e2:decide ((n:Int)≤6)=true:=by rw [decide_eq_true_iff];omega
    have HG:=hid (decide_eq_true d2)
    clear d2
    go_wp2
    go_ret
    exact⟨by rw [HE.out,HG.out];rfl,Hid.out hbel⟩
   ·have e2:decide ((n:Int)≤6)=false:=by rw [decide_eq_false_iff_not];omega
    have HG:=hid (decide_eq_false d2)
    clear d2
    go_wp2
    go_ret
    exact⟨by rw [HE.out,HG.out];rfl,Hid.out hbel⟩
end Go.Proofs.YtlpejbbmemhloaaGreatDoor.Nd
