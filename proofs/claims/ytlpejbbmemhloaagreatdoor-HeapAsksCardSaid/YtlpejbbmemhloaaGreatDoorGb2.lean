import Derived.Test.YtlpejbbmemhloaaGreatDoorRgT
import Derived.Test.YtlpejbbmemhloaaGreatDoorNdE
import Derived.Test.YtlpejbbmemhloaaGreatDoorNdC
import Derived.Test.YtlpejbbmemhloaaGreatDoorGb1
import Derived.Test.YtlpejbbmemhloaaGreatDoorShaF
import Derived.ChangeKeysEq
import Derived.BigQuiet
import Derived.Laws.LoneSync
import Derived.IntWalk
set_option maxRecDepth 100000
namespace Go.Proofs.YtlpejbbmemhloaaGreatDoor
theorem Gb2a {α:Type}(l:List α)(i:Nat)(x:α):l.toArray.setIfInBounds i x=(l.set i x).toArray:=List.setIfInBounds_toArray ..
theorem Gb2b {α:Type}{a b:α}{l:List α}:(a::l).set 0 b=b::l:=List.set_cons_zero
theorem Gb2c {α:Type}{a b:α}{l:List α}{n:Nat}:(a::l).set (n+1) b=a::l.set n b:=List.set_cons_succ
end Go.Proofs.YtlpejbbmemhloaaGreatDoor
namespace Go.Proofs.YtlpejbbmemhloaaGreatDoor.Nd
open Lib (hid)
set_option linter.unusedVariables false
set_option linter.unusedSimpArgs false
open Go.ChangeShapes Go.WideShapes Go.ChangeAt Go.RowKit
open Ar Rg
open BigFrame
open Pk (u8s u8s_length)
open It (str_le below_drewN)
set_option maxRecDepth 100000 in
set_option maxHeartbeats 4000000 in
theorem right_any (n:Nd) (hw:Wd n) (cs:Array Value) (w:World) (hn:NdAt w cs n) :
  Calls Tryz.prog 81 #[.agg cs] w fun e w'=>e=.returned (.bool (rtN n))∧Below w.heap.size w w':=by
 obtain⟨AI,nI,cI,AK,nK,cK,AV,nV,cV,rfl,hI,hK,hV,bI,bK,bV,lI,lK,lV⟩:=hn
 obtain⟨kd,I,K,V⟩:=n
 obtain⟨wK,wV⟩:=hw
 dsimp only at hI hK hV lI lK lV wK wV ⊢
 have HB0:=hid (show Below w.heap.size w (w.alloc (.cells #[.int .u8 (kd:Int),.slice AI nI cI,.slice AK nK cK,.slice AV nV cV] 31)) from (Below.refl _ _).alloc (Nat.le_refl _) _)
 have HR0:=hid (heap_alloc_new w (.cells #[.int .u8 (kd:Int),.slice AI nI cI,.slice AK nK cK,.slice AV nV cV] 31))
 have HLI:=hid lI
 have HLK:=hid lK
 have HLV:=hid lV
 have HWK:=hid (show ∀ x∈K,x.hs.length=32 from fun x hx=>(wK x hx).2)
 have HWV:=hid (show ∀ x∈V,x.hs.length=32 from fun x hx=>(wV x hx).2.2.2)
 have HCI:=hid (fun w' (hb:Below w.heap.size w w')=>It.check_any I AI nI cI w.heap.size hI bI w' hb.size (lI.below hb))
 have HCK:=hid (fun w' (hb:Below w.heap.size w w')=>rightKids_any K (fun x hx=>(wK x hx).2) AK nK cK w.heap.size hK bK w' hb.size (lK.below hb))
 have HCV:=hid (fun w' (hb:Below w.heap.size w w')=>rightVolumes_any V (fun x hx=>(wV x hx).2.2.2) AV nV cV w.heap.size hV bV w' hb.size (lV.below hb))
 obtain⟨R,hR⟩:∃ R,rtN ⟨kd,I,K,V⟩=R:=⟨_,rfl⟩
 rw [hR]
 have HR:=hid hR
 unfold rtN at HR
 dsimp only at HR
 rw [← hI,← hK,← hV] at HR
 clear hI hK hV lI lK lV wK wV hR HLI HLK HLV HWK HWV
 by_cases h1:kd=1
 ·by_cases c1:nK=0
  ·have snK:((nK:Int)==0)=true:=by rw [beq_iff_eq];omega
   by_cases c2:nV=0
   ·have snV:((nV:Int)==0)=true:=by rw [beq_iff_eq];omega
    have HQ:=hid (fun w=>rightCount_any nI w)
    have HX:=hid (show R=(okCount nI&&It.rt I) by rw [← HR.out];simp [h1,c1,c2])
    clear HR c1 c2
    generalize okCount nI=p at *
    generalize It.rt I=q at *
    cases p
    ·have H1:=hid h1
     clear h1
     go_enter Tryz.func81,Tryz.ntmps81
     go_wp2_with fail
     generalize w.alloc _=w0 at *
     have a0:w0.cell? ⟨w.heap.size,0,none⟩=some (.int .u8 kd):=cell_of_row _ _ 0 _ _ _ HR0.out
     have a1:w0.cell? ⟨w.heap.size,1,none⟩=some (.slice AI nI cI):=cell_of_row _ _ 1 _ _ _ HR0.out
     have a2:w0.cell? ⟨w.heap.size,2,none⟩=some (.slice AK nK cK):=cell_of_row _ _ 2 _ _ _ HR0.out
     have a3:w0.cell? ⟨w.heap.size,3,none⟩=some (.slice AV nV cV):=cell_of_row _ _ 3 _ _ _ HR0.out
     go_quiet (fail)
     have HB1:=hid (below_drewN HB0.out nq)
     have b0:(w0.drewN nq).cell? ⟨w.heap.size,0,none⟩=some (.int .u8 kd):=a0
     have b1:(w0.drewN nq).cell? ⟨w.heap.size,1,none⟩=some (.slice AI nI cI):=a1
     have b2:(w0.drewN nq).cell? ⟨w.heap.size,2,none⟩=some (.slice AK nK cK):=a2
     have b3:(w0.drewN nq).cell? ⟨w.heap.size,3,none⟩=some (.slice AV nV cV):=a3
     clear a0 a1 a2 a3 HB0 HR0
     generalize World.drewN _ _=W1 at *
     have q1:((kd:Int)==1)=true:=by rw [H1.out];rfl
     go_wp2_with (first | (go_at_call 105;refine (HQ.out _).mono ?_;rintro e w' ⟨rfl,rfl⟩))
     go_ret
     exact⟨by rw [HX.out];rfl,HB1.out⟩
    ·cases q
     ·rw [show It.errF false=Value.int .i64 4 from rfl] at HCI
      have H1:=hid h1
      clear h1
      go_enter Tryz.func81,Tryz.ntmps81
      go_wp2_with fail
      generalize w.alloc _=w0 at *
      have a0:w0.cell? ⟨w.heap.size,0,none⟩=some (.int .u8 kd):=cell_of_row _ _ 0 _ _ _ HR0.out
      have a1:w0.cell? ⟨w.heap.size,1,none⟩=some (.slice AI nI cI):=cell_of_row _ _ 1 _ _ _ HR0.out
      have a2:w0.cell? ⟨w.heap.size,2,none⟩=some (.slice AK nK cK):=cell_of_row _ _ 2 _ _ _ HR0.out
      have a3:w0.cell? ⟨w.heap.size,3,none⟩=some (.slice AV nV cV):=cell_of_row _ _ 3 _ _ _ HR0.out
      go_quiet (fail)
      have HB1:=hid (below_drewN HB0.out nq)
      have b0:(w0.drewN nq).cell? ⟨w.heap.size,0,none⟩=some (.int .u8 kd):=a0
      have b1:(w0.drewN nq).cell? ⟨w.heap.size,1,none⟩=some (.slice AI nI cI):=a1
      have b2:(w0.drewN nq).cell? ⟨w.heap.size,2,none⟩=some (.slice AK nK cK):=a2
      have b3:(w0.drewN nq).cell? ⟨w.heap.size,3,none⟩=some (.slice AV nV cV):=a3
      clear a0 a1 a2 a3 HB0 HR0
      generalize World.drewN _ _=W1 at *
      have q1:((kd:Int)==1)=true:=by rw [H1.out];rfl
      go_wp2_with (first | (go_at_call 105;refine (HQ.out _).mono ?_;rintro e w' ⟨rfl,rfl⟩) | (go_at_call 106;refine (HCI.out _ HB1.out).mono ?_;rintro e w3 ⟨rfl,hb3⟩))
      go_ret
      exact⟨by rw [HX.out];rfl,HB1.out.trans (hb3.mono HB1.out.size)⟩
     ·rw [show It.errF true=Value.int .i64 0 from rfl] at HCI
      have H1:=hid h1
      clear h1
      go_enter Tryz.func81,Tryz.ntmps81
      go_wp2_with fail
      generalize w.alloc _=w0 at *
      have a0:w0.cell? ⟨w.heap.size,0,none⟩=some (.int .u8 kd):=cell_of_row _ _ 0 _ _ _ HR0.out
      have a1:w0.cell? ⟨w.heap.size,1,none⟩=some (.slice AI nI cI):=cell_of_row _ _ 1 _ _ _ HR0.out
      have a2:w0.cell? ⟨w.heap.size,2,none⟩=some (.slice AK nK cK):=cell_of_row _ _ 2 _ _ _ HR0.out
      have a3:w0.cell? ⟨w.heap.size,3,none⟩=some (.slice AV nV cV):=cell_of_row _ _ 3 _ _ _ HR0.out
      go_quiet (fail)
      have HB1:=hid (below_drewN HB0.out nq)
      have b0:(w0.drewN nq).cell? ⟨w.heap.size,0,none⟩=some (.int .u8 kd):=a0
      have b1:(w0.drewN nq).cell? ⟨w.heap.size,1,none⟩=some (.slice AI nI cI):=a1
      have b2:(w0.drewN nq).cell? ⟨w.heap.size,2,none⟩=some (.slice AK nK cK):=a2
      have b3:(w0.drewN nq).cell? ⟨w.heap.size,3,none⟩=some (.slice AV nV cV):=a3
      clear a0 a1 a2 a3 HB0 HR0
      generalize World.drewN _ _=W1 at *
      have q1:((kd:Int)==1)=true:=by rw [H1.out];rfl
      go_wp2_with (first | (go_at_call 105;refine (HQ.out _).mono ?_;rintro e w' ⟨rfl,rfl⟩) | (go_at_call 106;refine (HCI.out _ HB1.out).mono ?_;rintro e w3 ⟨rfl,hb3⟩))
      go_ret
      exact⟨by rw [HX.out];rfl,HB1.out.trans (hb3.mono HB1.out.size)⟩
   ·have snV:((nV:Int)==0)=false:=by rw [beq_eq_false_iff_ne];omega
    have HX:=hid (show R=false by rw [← HR.out];simp [h1,c1,c2])
    clear HR c1 c2
    have H1:=hid h1
    clear h1
    go_enter Tryz.func81,Tryz.ntmps81
    go_wp2_with fail
    generalize w.alloc _=w0 at *
    have a0:w0.cell? ⟨w.heap.size,0,none⟩=some (.int .u8 kd):=cell_of_row _ _ 0 _ _ _ HR0.out
    have a1:w0.cell? ⟨w.heap.size,1,none⟩=some (.slice AI nI cI):=cell_of_row _ _ 1 _ _ _ HR0.out
    have a2:w0.cell? ⟨w.heap.size,2,none⟩=some (.slice AK nK cK):=cell_of_row _ _ 2 _ _ _ HR0.out
    have a3:w0.cell? ⟨w.heap.size,3,none⟩=some (.slice AV nV cV):=cell_of_row _ _ 3 _ _ _ HR0.out
    go_quiet (fail)
    have HB1:=hid (below_drewN HB0.out nq)
    have b0:(w0.drewN nq).cell? ⟨w.heap.size,0,none⟩=some (.int .u8 kd):=a0
    have b1:(w0.drewN nq).cell? ⟨w.heap.size,1,none⟩=some (.slice AI nI cI):=a1
    have b2:(w0.drewN nq).cell? ⟨w.heap.size,2,none⟩=some (.slice AK nK cK):=a2
    have b3:(w0.drewN nq).cell? ⟨w.heap.size,3,none⟩=some (.slice AV nV cV):=a3
    clear a0 a1 a2 a3 HB0 HR0
    generalize World.drewN _ _=W1 at *
    have q1:((kd:Int)==1)=true:=by rw [H1.out];rfl
    go_wp2_with fail
    go_ret
    exact⟨by rw [HX.out];rfl,HB1.out⟩
  ·have snK:((nK:Int)==0)=false:=by rw [beq_eq_false_iff_ne];omega
   have HX:=hid (show R=false by rw [← HR.out];simp [h1,c1])
   clear HR c1
   have H1:=hid h1
   clear h1
   go_enter Tryz.func81,Tryz.ntmps81
   go_wp2_with fail
   generalize w.alloc _=w0 at *
   have a0:w0.cell? ⟨w.heap.size,0,none⟩=some (.int .u8 kd):=cell_of_row _ _ 0 _ _ _ HR0.out
   have a1:w0.cell? ⟨w.heap.size,1,none⟩=some (.slice AI nI cI):=cell_of_row _ _ 1 _ _ _ HR0.out
   have a2:w0.cell? ⟨w.heap.size,2,none⟩=some (.slice AK nK cK):=cell_of_row _ _ 2 _ _ _ HR0.out
   have a3:w0.cell? ⟨w.heap.size,3,none⟩=some (.slice AV nV cV):=cell_of_row _ _ 3 _ _ _ HR0.out
   go_quiet (fail)
   have HB1:=hid (below_drewN HB0.out nq)
   have b0:(w0.drewN nq).cell? ⟨w.heap.size,0,none⟩=some (.int .u8 kd):=a0
   have b1:(w0.drewN nq).cell? ⟨w.heap.size,1,none⟩=some (.slice AI nI cI):=a1
   have b2:(w0.drewN nq).cell? ⟨w.heap.size,2,none⟩=some (.slice AK nK cK):=a2
   have b3:(w0.drewN nq).cell? ⟨w.heap.size,3,none⟩=some (.slice AV nV cV):=a3
   clear a0 a1 a2 a3 HB0 HR0
   generalize World.drewN _ _=W1 at *
   have q1:((kd:Int)==1)=true:=by rw [H1.out];rfl
   go_wp2_with fail
   go_ret
   exact⟨by rw [HX.out];rfl,HB1.out⟩
 by_cases h2:kd=2
 ·by_cases c1:nI=0
  ·have snI:((nI:Int)==0)=true:=by rw [beq_iff_eq];omega
   by_cases c2:nV=0
   ·have snV:((nV:Int)==0)=true:=by rw [beq_iff_eq];omega
    have HQ:=hid (fun w=>rightCount_any nK w)
    have HX:=hid (show R=(okCount nK&&rtK none K) by rw [← HR.out];simp [h1,h2,c1,c2])
    clear HR c1 c2
    generalize okCount nK=p at *
    generalize rtK none K=q at *
    cases p
    ·have H1:=hid h1
     clear h1
     have H2:=hid h2
     clear h2
     go_enter Tryz.func81,Tryz.ntmps81
     go_wp2_with fail
     generalize w.alloc _=w0 at *
     have a0:w0.cell? ⟨w.heap.size,0,none⟩=some (.int .u8 kd):=cell_of_row _ _ 0 _ _ _ HR0.out
     have a1:w0.cell? ⟨w.heap.size,1,none⟩=some (.slice AI nI cI):=cell_of_row _ _ 1 _ _ _ HR0.out
     have a2:w0.cell? ⟨w.heap.size,2,none⟩=some (.slice AK nK cK):=cell_of_row _ _ 2 _ _ _ HR0.out
     have a3:w0.cell? ⟨w.heap.size,3,none⟩=some (.slice AV nV cV):=cell_of_row _ _ 3 _ _ _ HR0.out
     go_quiet (fail)
     have HB1:=hid (below_drewN HB0.out nq)
     have b0:(w0.drewN nq).cell? ⟨w.heap.size,0,none⟩=some (.int .u8 kd):=a0
     have b1:(w0.drewN nq).cell? ⟨w.heap.size,1,none⟩=some (.slice AI nI cI):=a1
     have b2:(w0.drewN nq).cell? ⟨w.heap.size,2,none⟩=some (.slice AK nK cK):=a2
     have b3:(w0.drewN nq).cell? ⟨w.heap.size,3,none⟩=some (.slice AV nV cV):=a3
     clear a0 a1 a2 a3 HB0 HR0
     generalize World.drewN _ _=W1 at *
     have q1:((kd:Int)==1)=false:=by rw [beq_eq_false_iff_ne];have:=H1.out;omega
     have q2:((kd:Int)==2)=true:=by rw [H2.out];rfl
     go_wp2_with (first | (go_at_call 105;refine (HQ.out _).mono ?_;rintro e w' ⟨rfl,rfl⟩))
     go_ret
     exact⟨by rw [HX.out];rfl,HB1.out⟩
    ·cases q
     ·have H1:=hid h1
      clear h1
      have H2:=hid h2
      clear h2
      go_enter Tryz.func81,Tryz.ntmps81
      go_wp2_with fail
      generalize w.alloc _=w0 at *
      have a0:w0.cell? ⟨w.heap.size,0,none⟩=some (.int .u8 kd):=cell_of_row _ _ 0 _ _ _ HR0.out
      have a1:w0.cell? ⟨w.heap.size,1,none⟩=some (.slice AI nI cI):=cell_of_row _ _ 1 _ _ _ HR0.out
      have a2:w0.cell? ⟨w.heap.size,2,none⟩=some (.slice AK nK cK):=cell_of_row _ _ 2 _ _ _ HR0.out
      have a3:w0.cell? ⟨w.heap.size,3,none⟩=some (.slice AV nV cV):=cell_of_row _ _ 3 _ _ _ HR0.out
      go_quiet (fail)
      have HB1:=hid (below_drewN HB0.out nq)
      have b0:(w0.drewN nq).cell? ⟨w.heap.size,0,none⟩=some (.int .u8 kd):=a0
      have b1:(w0.drewN nq).cell? ⟨w.heap.size,1,none⟩=some (.slice AI nI cI):=a1
      have b2:(w0.drewN nq).cell? ⟨w.heap.size,2,none⟩=some (.slice AK nK cK):=a2
      have b3:(w0.drewN nq).cell? ⟨w.heap.size,3,none⟩=some (.slice AV nV cV):=a3
      clear a0 a1 a2 a3 HB0 HR0
      generalize World.drewN _ _=W1 at *
      have q1:((kd:Int)==1)=false:=by rw [beq_eq_false_iff_ne];have:=H1.out;omega
      have q2:((kd:Int)==2)=true:=by rw [H2.out];rfl
      go_wp2_with (first | (go_at_call 105;refine (HQ.out _).mono ?_;rintro e w' ⟨rfl,rfl⟩) | (go_at_call 107;refine (HCK.out _ HB1.out).mono ?_;rintro e w3 ⟨rfl,hb3⟩))
      go_ret
      exact⟨by rw [HX.out];rfl,HB1.out.trans (hb3.mono HB1.out.size)⟩
     ·have H1:=hid h1
      clear h1
      have H2:=hid h2
      clear h2
      go_enter Tryz.func81,Tryz.ntmps81
      go_wp2_with fail
      generalize w.alloc _=w0 at *
      have a0:w0.cell? ⟨w.heap.size,0,none⟩=some (.int .u8 kd):=cell_of_row _ _ 0 _ _ _ HR0.out
      have a1:w0.cell? ⟨w.heap.size,1,none⟩=some (.slice AI nI cI):=cell_of_row _ _ 1 _ _ _ HR0.out
      have a2:w0.cell? ⟨w.heap.size,2,none⟩=some (.slice AK nK cK):=cell_of_row _ _ 2 _ _ _ HR0.out
      have a3:w0.cell? ⟨w.heap.size,3,none⟩=some (.slice AV nV cV):=cell_of_row _ _ 3 _ _ _ HR0.out
      go_quiet (fail)
      have HB1:=hid (below_drewN HB0.out nq)
      have b0:(w0.drewN nq).cell? ⟨w.heap.size,0,none⟩=some (.int .u8 kd):=a0
      have b1:(w0.drewN nq).cell? ⟨w.heap.size,1,none⟩=some (.slice AI nI cI):=a1
      have b2:(w0.drewN nq).cell? ⟨w.heap.size,2,none⟩=some (.slice AK nK cK):=a2
      have b3:(w0.drewN nq).cell? ⟨w.heap.size,3,none⟩=some (.slice AV nV cV):=a3
      clear a0 a1 a2 a3 HB0 HR0
      generalize World.drewN _ _=W1 at *
      have q1:((kd:Int)==1)=false:=by rw [beq_eq_false_iff_ne];have:=H1.out;omega
      have q2:((kd:Int)==2)=true:=by rw [H2.out];rfl
      go_wp2_with (first | (go_at_call 105;refine (HQ.out _).mono ?_;rintro e w' ⟨rfl,rfl⟩) | (go_at_call 107;refine (HCK.out _ HB1.out).mono ?_;rintro e w3 ⟨rfl,hb3⟩))
      go_ret
      exact⟨by rw [HX.out];rfl,HB1.out.trans (hb3.mono HB1.out.size)⟩
   ·have snV:((nV:Int)==0)=false:=by rw [beq_eq_false_iff_ne];omega
    have HX:=hid (show R=false by rw [← HR.out];simp [h1,h2,c1,c2])
    clear HR c1 c2
    have H1:=hid h1
    clear h1
    have H2:=hid h2
    clear h2
    go_enter Tryz.func81,Tryz.ntmps81
    go_wp2_with fail
    generalize w.alloc _=w0 at *
    have a0:w0.cell? ⟨w.heap.size,0,none⟩=some (.int .u8 kd):=cell_of_row _ _ 0 _ _ _ HR0.out
    have a1:w0.cell? ⟨w.heap.size,1,none⟩=some (.slice AI nI cI):=cell_of_row _ _ 1 _ _ _ HR0.out
    have a2:w0.cell? ⟨w.heap.size,2,none⟩=some (.slice AK nK cK):=cell_of_row _ _ 2 _ _ _ HR0.out
    have a3:w0.cell? ⟨w.heap.size,3,none⟩=some (.slice AV nV cV):=cell_of_row _ _ 3 _ _ _ HR0.out
    go_quiet (fail)
    have HB1:=hid (below_drewN HB0.out nq)
    have b0:(w0.drewN nq).cell? ⟨w.heap.size,0,none⟩=some (.int .u8 kd):=a0
    have b1:(w0.drewN nq).cell? ⟨w.heap.size,1,none⟩=some (.slice AI nI cI):=a1
    have b2:(w0.drewN nq).cell? ⟨w.heap.size,2,none⟩=some (.slice AK nK cK):=a2
    have b3:(w0.drewN nq).cell? ⟨w.heap.size,3,none⟩=some (.slice AV nV cV):=a3
    clear a0 a1 a2 a3 HB0 HR0
    generalize World.drewN _ _=W1 at *
    have q1:((kd:Int)==1)=false:=by rw [beq_eq_false_iff_ne];have:=H1.out;omega
    have q2:((kd:Int)==2)=true:=by rw [H2.out];rfl
    go_wp2_with fail
    go_ret
    exact⟨by rw [HX.out];rfl,HB1.out⟩
  ·have snI:((nI:Int)==0)=false:=by rw [beq_eq_false_iff_ne];omega
   have HX:=hid (show R=false by rw [← HR.out];simp [h1,h2,c1])
   clear HR c1
   have H1:=hid h1
   clear h1
   have H2:=hid h2
   clear h2
   go_enter Tryz.func81,Tryz.ntmps81
   go_wp2_with fail
   generalize w.alloc _=w0 at *
   have a0:w0.cell? ⟨w.heap.size,0,none⟩=some (.int .u8 kd):=cell_of_row _ _ 0 _ _ _ HR0.out
   have a1:w0.cell? ⟨w.heap.size,1,none⟩=some (.slice AI nI cI):=cell_of_row _ _ 1 _ _ _ HR0.out
   have a2:w0.cell? ⟨w.heap.size,2,none⟩=some (.slice AK nK cK):=cell_of_row _ _ 2 _ _ _ HR0.out
   have a3:w0.cell? ⟨w.heap.size,3,none⟩=some (.slice AV nV cV):=cell_of_row _ _ 3 _ _ _ HR0.out
   go_quiet (fail)
   have HB1:=hid (below_drewN HB0.out nq)
   have b0:(w0.drewN nq).cell? ⟨w.heap.size,0,none⟩=some (.int .u8 kd):=a0
   have b1:(w0.drewN nq).cell? ⟨w.heap.size,1,none⟩=some (.slice AI nI cI):=a1
   have b2:(w0.drewN nq).cell? ⟨w.heap.size,2,none⟩=some (.slice AK nK cK):=a2
   have b3:(w0.drewN nq).cell? ⟨w.heap.size,3,none⟩=some (.slice AV nV cV):=a3
   clear a0 a1 a2 a3 HB0 HR0
   generalize World.drewN _ _=W1 at *
   have q1:((kd:Int)==1)=false:=by rw [beq_eq_false_iff_ne];have:=H1.out;omega
   have q2:((kd:Int)==2)=true:=by rw [H2.out];rfl
   go_wp2_with fail
   go_ret
   exact⟨by rw [HX.out];rfl,HB1.out⟩
 by_cases h3:kd=3
 ·by_cases c1:nI=0
  ·have snI:((nI:Int)==0)=true:=by rw [beq_iff_eq];omega
   by_cases c2:nK=0
   ·have snK:((nK:Int)==0)=true:=by rw [beq_iff_eq];omega
    by_cases c3:nV≤6
    ·have s3:decide ((nV:Int)≤6)=true:=by rw [decide_eq_true_iff];omega
     have HX:=hid (show R=rtV none V by rw [← HR.out];simp [h1,h2,h3,c1,c2,c3])
     clear HR c1 c2 c3
     generalize rtV none V=q at *
     cases q
     ·have H1:=hid h1
      clear h1
      have H2:=hid h2
      clear h2
      have H3:=hid h3
      clear h3
      go_enter Tryz.func81,Tryz.ntmps81
      go_wp2_with fail
      generalize w.alloc _=w0 at *
      have a0:w0.cell? ⟨w.heap.size,0,none⟩=some (.int .u8 kd):=cell_of_row _ _ 0 _ _ _ HR0.out
      have a1:w0.cell? ⟨w.heap.size,1,none⟩=some (.slice AI nI cI):=cell_of_row _ _ 1 _ _ _ HR0.out
      have a2:w0.cell? ⟨w.heap.size,2,none⟩=some (.slice AK nK cK):=cell_of_row _ _ 2 _ _ _ HR0.out
      have a3:w0.cell? ⟨w.heap.size,3,none⟩=some (.slice AV nV cV):=cell_of_row _ _ 3 _ _ _ HR0.out
      go_quiet (fail)
      have HB1:=hid (below_drewN HB0.out nq)
      have b0:(w0.drewN nq).cell? ⟨w.heap.size,0,none⟩=some (.int .u8 kd):=a0
      have b1:(w0.drewN nq).cell? ⟨w.heap.size,1,none⟩=some (.slice AI nI cI):=a1
      have b2:(w0.drewN nq).cell? ⟨w.heap.size,2,none⟩=some (.slice AK nK cK):=a2
      have b3:(w0.drewN nq).cell? ⟨w.heap.size,3,none⟩=some (.slice AV nV cV):=a3
      clear a0 a1 a2 a3 HB0 HR0
      generalize World.drewN _ _=W1 at *
      have q1:((kd:Int)==1)=false:=by rw [beq_eq_false_iff_ne];have:=H1.out;omega
      have q2:((kd:Int)==2)=false:=by rw [beq_eq_false_iff_ne];have:=H2.out;omega
      have q3:((kd:Int)==3)=true:=by rw [H3.out];rfl
      go_wp2_with (first | (go_at_call 108;refine (HCV.out _ HB1.out).mono ?_;rintro e w3 ⟨rfl,hb3⟩))
      go_ret
      exact⟨by rw [HX.out];rfl,HB1.out.trans (hb3.mono HB1.out.size)⟩
     ·have H1:=hid h1
      clear h1
      have H2:=hid h2
      clear h2
      have H3:=hid h3
      clear h3
      go_enter Tryz.func81,Tryz.ntmps81
      go_wp2_with fail
      generalize w.alloc _=w0 at *
      have a0:w0.cell? ⟨w.heap.size,0,none⟩=some (.int .u8 kd):=cell_of_row _ _ 0 _ _ _ HR0.out
      have a1:w0.cell? ⟨w.heap.size,1,none⟩=some (.slice AI nI cI):=cell_of_row _ _ 1 _ _ _ HR0.out
      have a2:w0.cell? ⟨w.heap.size,2,none⟩=some (.slice AK nK cK):=cell_of_row _ _ 2 _ _ _ HR0.out
      have a3:w0.cell? ⟨w.heap.size,3,none⟩=some (.slice AV nV cV):=cell_of_row _ _ 3 _ _ _ HR0.out
      go_quiet (fail)
      have HB1:=hid (below_drewN HB0.out nq)
      have b0:(w0.drewN nq).cell? ⟨w.heap.size,0,none⟩=some (.int .u8 kd):=a0
      have b1:(w0.drewN nq).cell? ⟨w.heap.size,1,none⟩=some (.slice AI nI cI):=a1
      have b2:(w0.drewN nq).cell? ⟨w.heap.size,2,none⟩=some (.slice AK nK cK):=a2
      have b3:(w0.drewN nq).cell? ⟨w.heap.size,3,none⟩=some (.slice AV nV cV):=a3
      clear a0 a1 a2 a3 HB0 HR0
      generalize World.drewN _ _=W1 at *
      have q1:((kd:Int)==1)=false:=by rw [beq_eq_false_iff_ne];have:=H1.out;omega
      have q2:((kd:Int)==2)=false:=by rw [beq_eq_false_iff_ne];have:=H2.out;omega
      have q3:((kd:Int)==3)=true:=by rw [H3.out];rfl
      go_wp2_with (first | (go_at_call 108;refine (HCV.out _ HB1.out).mono ?_;rintro e w3 ⟨rfl,hb3⟩))
      go_ret
      exact⟨by rw [HX.out];rfl,HB1.out.trans (hb3.mono HB1.out.size)⟩
    ·have s3:decide ((nV:Int)≤6)=false:=by rw [decide_eq_false_iff_not];omega
     have HX:=hid (show R=false by rw [← HR.out];simp [h1,h2,h3,c1,c2,c3])
     clear HR c1 c2 c3
     have H1:=hid h1
     clear h1
     have H2:=hid h2
     clear h2
     have H3:=hid h3
     clear h3
     go_enter Tryz.func81,Tryz.ntmps81
     go_wp2_with fail
     generalize w.alloc _=w0 at *
     have a0:w0.cell? ⟨w.heap.size,0,none⟩=some (.int .u8 kd):=cell_of_row _ _ 0 _ _ _ HR0.out
     have a1:w0.cell? ⟨w.heap.size,1,none⟩=some (.slice AI nI cI):=cell_of_row _ _ 1 _ _ _ HR0.out
     have a2:w0.cell? ⟨w.heap.size,2,none⟩=some (.slice AK nK cK):=cell_of_row _ _ 2 _ _ _ HR0.out
     have a3:w0.cell? ⟨w.heap.size,3,none⟩=some (.slice AV nV cV):=cell_of_row _ _ 3 _ _ _ HR0.out
     go_quiet (fail)
     have HB1:=hid (below_drewN HB0.out nq)
     have b0:(w0.drewN nq).cell? ⟨w.heap.size,0,none⟩=some (.int .u8 kd):=a0
     have b1:(w0.drewN nq).cell? ⟨w.heap.size,1,none⟩=some (.slice AI nI cI):=a1
     have b2:(w0.drewN nq).cell? ⟨w.heap.size,2,none⟩=some (.slice AK nK cK):=a2
     have b3:(w0.drewN nq).cell? ⟨w.heap.size,3,none⟩=some (.slice AV nV cV):=a3
     clear a0 a1 a2 a3 HB0 HR0
     generalize World.drewN _ _=W1 at *
     have q1:((kd:Int)==1)=false:=by rw [beq_eq_false_iff_ne];have:=H1.out;omega
     have q2:((kd:Int)==2)=false:=by rw [beq_eq_false_iff_ne];have:=H2.out;omega
     have q3:((kd:Int)==3)=true:=by rw [H3.out];rfl
     go_wp2_with fail
     go_ret
     exact⟨by rw [HX.out];rfl,HB1.out⟩
   ·have snK:((nK:Int)==0)=false:=by rw [beq_eq_false_iff_ne];omega
    have HX:=hid (show R=false by rw [← HR.out];simp [h1,h2,h3,c1,c2])
    clear HR c1 c2
    have H1:=hid h1
    clear h1
    have H2:=hid h2
    clear h2
    have H3:=hid h3
    clear h3
    go_enter Tryz.func81,Tryz.ntmps81
    go_wp2_with fail
    generalize w.alloc _=w0 at *
    have a0:w0.cell? ⟨w.heap.size,0,none⟩=some (.int .u8 kd):=cell_of_row _ _ 0 _ _ _ HR0.out
    have a1:w0.cell? ⟨w.heap.size,1,none⟩=some (.slice AI nI cI):=cell_of_row _ _ 1 _ _ _ HR0.out
    have a2:w0.cell? ⟨w.heap.size,2,none⟩=some (.slice AK nK cK):=cell_of_row _ _ 2 _ _ _ HR0.out
    have a3:w0.cell? ⟨w.heap.size,3,none⟩=some (.slice AV nV cV):=cell_of_row _ _ 3 _ _ _ HR0.out
    go_quiet (fail)
    have HB1:=hid (below_drewN HB0.out nq)
    have b0:(w0.drewN nq).cell? ⟨w.heap.size,0,none⟩=some (.int .u8 kd):=a0
    have b1:(w0.drewN nq).cell? ⟨w.heap.size,1,none⟩=some (.slice AI nI cI):=a1
    have b2:(w0.drewN nq).cell? ⟨w.heap.size,2,none⟩=some (.slice AK nK cK):=a2
    have b3:(w0.drewN nq).cell? ⟨w.heap.size,3,none⟩=some (.slice AV nV cV):=a3
    clear a0 a1 a2 a3 HB0 HR0
    generalize World.drewN _ _=W1 at *
    have q1:((kd:Int)==1)=false:=by rw [beq_eq_false_iff_ne];have:=H1.out;omega
    have q2:((kd:Int)==2)=false:=by rw [beq_eq_false_iff_ne];have:=H2.out;omega
    have q3:((kd:Int)==3)=true:=by rw [H3.out];rfl
    go_wp2_with fail
    go_ret
    exact⟨by rw [HX.out];rfl,HB1.out⟩
  ·have snI:((nI:Int)==0)=false:=by rw [beq_eq_false_iff_ne];omega
   have HX:=hid (show R=false by rw [← HR.out];simp [h1,h2,h3,c1])
   clear HR c1
   have H1:=hid h1
   clear h1
   have H2:=hid h2
   clear h2
   have H3:=hid h3
   clear h3
   go_enter Tryz.func81,Tryz.ntmps81
   go_wp2_with fail
   generalize w.alloc _=w0 at *
   have a0:w0.cell? ⟨w.heap.size,0,none⟩=some (.int .u8 kd):=cell_of_row _ _ 0 _ _ _ HR0.out
   have a1:w0.cell? ⟨w.heap.size,1,none⟩=some (.slice AI nI cI):=cell_of_row _ _ 1 _ _ _ HR0.out
   have a2:w0.cell? ⟨w.heap.size,2,none⟩=some (.slice AK nK cK):=cell_of_row _ _ 2 _ _ _ HR0.out
   have a3:w0.cell? ⟨w.heap.size,3,none⟩=some (.slice AV nV cV):=cell_of_row _ _ 3 _ _ _ HR0.out
   go_quiet (fail)
   have HB1:=hid (below_drewN HB0.out nq)
   have b0:(w0.drewN nq).cell? ⟨w.heap.size,0,none⟩=some (.int .u8 kd):=a0
   have b1:(w0.drewN nq).cell? ⟨w.heap.size,1,none⟩=some (.slice AI nI cI):=a1
   have b2:(w0.drewN nq).cell? ⟨w.heap.size,2,none⟩=some (.slice AK nK cK):=a2
   have b3:(w0.drewN nq).cell? ⟨w.heap.size,3,none⟩=some (.slice AV nV cV):=a3
   clear a0 a1 a2 a3 HB0 HR0
   generalize World.drewN _ _=W1 at *
   have q1:((kd:Int)==1)=false:=by rw [beq_eq_false_iff_ne];have:=H1.out;omega
   have q2:((kd:Int)==2)=false:=by rw [beq_eq_false_iff_ne];have:=H2.out;omega
   have q3:((kd:Int)==3)=true:=by rw [H3.out];rfl
   go_wp2_with fail
   go_ret
   exact⟨by rw [HX.out];rfl,HB1.out⟩
 ·have HX:=hid (show R=false by rw [← HR.out];simp [h1,h2,h3])
  clear HR
  have H1:=hid h1
  clear h1
  have H2:=hid h2
  clear h2
  have H3:=hid h3
  clear h3
  go_enter Tryz.func81,Tryz.ntmps81
  go_wp2_with fail
  generalize w.alloc _=w0 at *
  have a0:w0.cell? ⟨w.heap.size,0,none⟩=some (.int .u8 kd):=cell_of_row _ _ 0 _ _ _ HR0.out
  have a1:w0.cell? ⟨w.heap.size,1,none⟩=some (.slice AI nI cI):=cell_of_row _ _ 1 _ _ _ HR0.out
  have a2:w0.cell? ⟨w.heap.size,2,none⟩=some (.slice AK nK cK):=cell_of_row _ _ 2 _ _ _ HR0.out
  have a3:w0.cell? ⟨w.heap.size,3,none⟩=some (.slice AV nV cV):=cell_of_row _ _ 3 _ _ _ HR0.out
  go_quiet (fail)
  have HB1:=hid (below_drewN HB0.out nq)
  have b0:(w0.drewN nq).cell? ⟨w.heap.size,0,none⟩=some (.int .u8 kd):=a0
  have b1:(w0.drewN nq).cell? ⟨w.heap.size,1,none⟩=some (.slice AI nI cI):=a1
  have b2:(w0.drewN nq).cell? ⟨w.heap.size,2,none⟩=some (.slice AK nK cK):=a2
  have b3:(w0.drewN nq).cell? ⟨w.heap.size,3,none⟩=some (.slice AV nV cV):=a3
  clear a0 a1 a2 a3 HB0 HR0
  generalize World.drewN _ _=W1 at *
  have q1:((kd:Int)==1)=false:=by rw [beq_eq_false_iff_ne];have:=H1.out;omega
  have q2:((kd:Int)==2)=false:=by rw [beq_eq_false_iff_ne];have:=H2.out;omega
  have q3:((kd:Int)==3)=false:=by rw [beq_eq_false_iff_ne];have:=H3.out;omega
  go_wp2_with fail
  go_ret
  exact⟨by rw [HX.out];rfl,HB1.out⟩
set_option maxRecDepth 100000 in
set_option maxHeartbeats 4000000 in
theorem check_any (n:Nd) (hw:Wd n) (cs:Array Value) (w:World) (hn:NdAt w cs n) :
  Calls Tryz.prog 55 #[.agg cs] w fun e w'=>e=.returned (.int .i64 (ckN n))∧Below w.heap.size w w':=by
 have hcz:=hn.size
 have HI:=hid (show (Tryz.prog.info? 31).map (·.size)=some cs.size by rw [hcz];kernel_rfl)
 have hb0:Below w.heap.size w (w.alloc (.cells cs 31)):=(Below.refl _ _).alloc (Nat.le_refl _) _
 have HB0:=hid hb0
 have HR0:=hid (heap_alloc_new w (.cells cs 31))
 have HN:=hid hn
 have HC1:=hid (fun w' (hb:Below w.heap.size w w')=>right_any n hw cs w' (hn.below hb))
 clear hb0 hcz
 by_cases hr:rtN n=true
 ·have HC2:=hid (fun w' (hb:Below w.heap.size w w')=>size_any n (rt_few hr) cs w' (hn.below hb))
  rw [hr] at HC1
  obtain⟨C,hC⟩:∃ C,ckN n=C:=⟨_,rfl⟩
  have HX:=hid (show C=if 508<szN n then 2 else 0 by rw [← hC];unfold ckN;rw [if_pos hr])
  rw [hC]
  clear hC hr hn
  generalize szN n=Z at *
  by_cases hz:508<Z
  ·have q:decide ((508:Int)<(Z:Int))=true:=by rw [decide_eq_true_iff];omega
   have HX2:=hid (show C=2 by rw [HX.out,if_pos hz])
   clear HX hz
   go_enter Tryz.func55,Tryz.ntmps55
   go_wp2_with (first
    | (refine wpList_load_row rfl 31 (.tmp 1) rfl w.heap.size rfl 31 cs (0,0) _ HR0.out Tryz.underlying31 rfl HI.out ?_)
    | (go_at_call 81;refine (HC1.out _ HB0.out).mono ?_;rintro e w3 ⟨rfl,hb3⟩;have HB3:=hid (HB0.out.trans (hb3.mono HB0.out.size));have HR3:=hid ((hb3.block _ (row_lt HR0.out)).trans HR0.out);clear hb3)
    | (refine wpList_load_row rfl 31 (.tmp 1) rfl w.heap.size rfl 31 cs (0,0) _ HR3.out Tryz.underlying31 rfl HI.out ?_)
    | (go_at_call 82;refine (HC2.out _ HB3.out).mono ?_;rintro e w4 ⟨rfl,hb4,hz4⟩;have HB4:=hid (HB3.out.trans (hb4.mono HB3.out.size));clear hb4))
   go_ret
   exact⟨by rw [HX2.out];rfl,HB4.out⟩
  ·have q:decide ((508:Int)<(Z:Int))=false:=by rw [decide_eq_false_iff_not];omega
   have HX2:=hid (show C=0 by rw [HX.out,if_neg hz])
   clear HX hz
   go_enter Tryz.func55,Tryz.ntmps55
   go_wp2_with (first
    | (refine wpList_load_row rfl 31 (.tmp 1) rfl w.heap.size rfl 31 cs (0,0) _ HR0.out Tryz.underlying31 rfl HI.out ?_)
    | (go_at_call 81;refine (HC1.out _ HB0.out).mono ?_;rintro e w3 ⟨rfl,hb3⟩;have HB3:=hid (HB0.out.trans (hb3.mono HB0.out.size));have HR3:=hid ((hb3.block _ (row_lt HR0.out)).trans HR0.out);clear hb3)
    | (refine wpList_load_row rfl 31 (.tmp 1) rfl w.heap.size rfl 31 cs (0,0) _ HR3.out Tryz.underlying31 rfl HI.out ?_)
    | (go_at_call 82;refine (HC2.out _ HB3.out).mono ?_;rintro e w4 ⟨rfl,hb4,hz4⟩;have HB4:=hid (HB3.out.trans (hb4.mono HB3.out.size));clear hb4))
   go_ret
   exact⟨by rw [HX2.out];rfl,HB4.out⟩
 ·have hr:rtN n=false:=by simpa using hr
  rw [hr] at HC1
  have HX2:=hid (show ckN n=4 by unfold ckN;rw [hr];rfl)
  rw [HX2.out]
  clear hr hn
  go_enter Tryz.func55,Tryz.ntmps55
  go_wp2_with (first
   | (refine wpList_load_row rfl 31 (.tmp 1) rfl w.heap.size rfl 31 cs (0,0) _ HR0.out Tryz.underlying31 rfl HI.out ?_)
   | (go_at_call 81;refine (HC1.out _ HB0.out).mono ?_;rintro e w3 ⟨rfl,hb3⟩))
  go_ret
  exact⟨rfl,HB0.out.trans (hb3.mono HB0.out.size)⟩
open Pk (be num be_length u8s u8s_length)
abbrev Bld (w:World) (B b:Nat) (L:List UInt8):Prop:=Lib.IsBuilder 141 5 B b (Lib.byteCells L) w
theorem bat_below {T e:TypeId}{B b:Nat}{p:Value}{l:List Value}{w w':World}(h:Lib.BuilderAt T e B b p l w) (hb:Below w.heap.size w w'):Lib.BuilderAt T e B b p l w':=by
 have hlt:=h.lt
 obtain⟨hB,v,h0,hown,hne⟩:=h
 exact⟨hB,v,(hb.block b hlt).trans h0,hown.kept ⟨hb.os,hb.tape,hb.output,hb.size,fun k hk _=>hb.block k hk⟩ (Classical.em _),hne⟩
theorem Bld.below {w w':World}{B b:Nat}{L:List UInt8}(h:Bld w B b L) (hb:Below w.heap.size w w'):Bld w' B b L:=h.elim (fun h=>.inl (bat_below h hb)) (fun h=>.inr (bat_below h hb))
theorem write_bd {w:World}{B b:Nat}{L:List UInt8}(h:Bld w B b L) (l:List UInt8) (hlen:L.length+l.length≤140737488355328) (hBw:B≤w.heap.size) :
  Calls Tryz.prog 84 #[.pointer (some ⟨b,0,none⟩),.string (bs l)] w fun e w'=>e=.returned (.tuple #[.int .i64 l.length,.nilIface])∧Bld w' B b (L++l)∧Below B w w':=by
 have:=Any.Builder_WriteString Tryz.part166 Tryz.Builder_Extra_105 B b (Lib.byteCells L) (bs l) w h (by rw [Lib.byteCells_length,bs_size];exact hlen) hBw
 refine this.mono fun e w' h=>?_
 obtain⟨h1,h2,h3⟩:=h
 rw [bs_size] at h1
 refine⟨h1,.inr ?_,h3⟩
 rw [Lib.byteCells_append]
 exact h2
theorem string_bd {w:World}{B b:Nat}{L:List UInt8}(h:Bld w B b L) (hBw:B≤w.heap.size) :
  Calls Tryz.prog 87 #[.pointer (some ⟨b,0,none⟩)] w fun e w'=>e=.returned (.string (bs L))∧Below B w w':=Any.Builder_String_any Tryz.part169 Tryz.Builder_Extra_105 B b L w h hBw
def Wst (W:World) (b:Nat) (L:List UInt8) (M:Nat) (wr:World):Prop:=Bld wr b b L∧Below b W wr∧b≤wr.heap.size∧L.length≤M
theorem Wst.next {W wr w2 w3:World}{b M m:Nat}{L l:List UInt8}(h:Wst W b L M wr) (hb:Below wr.heap.size wr w2) (h3:Bld w3 b b (L++l)) (hb3:Below b w2 w3) (hl:l.length≤m):Wst W b (L++l) (M+m) w3:=by
 obtain⟨h1,h2,h4,h5⟩:=h
 have q:Below b wr w2:=hb.mono h4
 refine⟨h3,(h2.trans q).trans hb3,Nat.le_trans h4 (Nat.le_trans hb.size hb3.size),?_⟩
 rw [List.length_append];omega
theorem flat_snoc {α:Type}(f:α→List UInt8){D:List α}{i:Nat}{x:α}(h:D[i]?=some x) (L:List UInt8):L++(D.take (i+1)).flatMap f=L++(D.take i).flatMap f++f x:=by
 obtain⟨hk,e⟩:=List.getElem?_eq_some_iff.1 h
 rw [List.take_succ_eq_append_getElem hk,e,List.flatMap_append,List.append_assoc]
 simp
theorem conv_hash {w':World}{q o:Nat}{l:List UInt8}(h:l.length=32) (hr:w'.rangeAt q o (u8s l)) :
  (convert 139 9 (.slice (some ⟨q,o,none⟩) 32 32)).run Tryz.prog w'=.ok (.string (bs l)) w':=by
 have:=run_convert_bytes_back (P:=Tryz.prog) w' 139 9 5 ⟨q,o,none⟩ 32 l Tryz.underlying139 Tryz.underlying5 Tryz.underlying9 (fun j hj=>by
  rw [Ar.add_plain]
  exact hr j _ (by unfold u8s;rw [List.getElem?_map,List.getElem?_eq_getElem hj];rfl))
 rw [h] at this
 exact this
abbrev txt (s:ByteArray):List UInt8:=be 1 s.data.toList.length++s.data.toList
theorem txt_len (s:ByteArray):(txt s).length=1+s.size:=by
 rw [List.length_append,be_length,Array.length_toList];rfl
theorem bs_le' (l:List UInt8) (m:Nat) (h:l.length≤m):(bs l).size≤m:=by rw [bs_size];exact h
set_option maxRecDepth 100000 in
set_option maxHeartbeats 8000000 in
theorem written_any (n:Nd) (hf:Fm n) (cs:Array Value) (w:World) (hn:NdAt w cs n) :
  Calls Tryz.prog 57 #[.agg cs] w fun e w'=>e=.returned (.string (bs (wN n)))∧Below w.heap.size w w':=by
 obtain⟨AI,nI,dI,AK,nK,dK,AV,nV,dV,rfl,hI,hK,hV,bI,bK,bV,lI,lK,lV⟩:=hn
 obtain⟨kd,I,K,V⟩:=n
 obtain⟨hkd,few,okI,okK,okV⟩:=hf
 dsimp only at hI hK hV lI lK lV hkd few okI okK okV ⊢
 have hk8:kd<256:=by omega
 clear hkd
 rw [← hI,← hK,← hV] at few
 have HI:=hid hI
 have HK:=hid hK
 have HV:=hid hV
 have HLI:=hid lI
 have HLK:=hid lK
 have HLV:=hid lV
 have HOI:=hid okI
 have HOK:=hid okK
 have HOV:=hid okV
 obtain⟨L0,hL0⟩:∃ L0,be 1 kd++be 1 (nI+nK+nV)=L0:=⟨_,rfl⟩
 have HWN:=hid (show wN ⟨kd,I,K,V⟩=L0++I.flatMap cI.wr++K.flatMap cK.wr++V.flatMap cV.wr by
  unfold wN
  dsimp only
  rw [← hI,← hK,← hV,← hL0]
  simp only [List.append_assoc])
 have HL0:=hid (show L0.length≤2 by rw [← hL0,List.length_append,be_length,be_length];omega)
 have HN1:=hid (show ∀ w,Calls Tryz.prog 85 #[.int .u64 (kd:Int),.int .i64 1] w fun e w'=>e=.returned (.string (bs (be 1 kd)))∧Below w.heap.size w w' from fun w=>number_be kd 1 w (by omega) (by omega) (by omega))
 have HN2:=hid (show ∀ w,Calls Tryz.prog 85 #[.int .u64 ((nI:Int)+(nK:Int)+(nV:Int)),.int .i64 1] w fun e w'=>e=.returned (.string (bs (be 1 (nI+nK+nV))))∧Below w.heap.size w w' from fun w=>number_be (nI+nK+nV) 1 w (by omega) (by omega) (by omega))
 have HE0:=hid (show bs (be 1 kd)++bs (be 1 (nI+nK+nV))=bs L0 by rw [bs_app,hL0])
 have z1:(bs (be 1 kd)).size≤1:=by rw [bs_size,be_length];omega
 have z2:(bs (be 1 (nI+nK+nV))).size≤1:=by rw [bs_size,be_length];omega
 clear hL0 hI hK hV lI lK lV okI okK okV
 generalize bs (be 1 kd)=S1 at *
 generalize bs (be 1 (nI+nK+nV))=S2 at *
 obtain⟨R1,R2,S0,Z0⟩:=two_new w #[.int .u8 (kd:Int),.slice AI nI dI,.slice AK nK dK,.slice AV nV dV] #[.pointer none,.slice none 0 0] 31 141
 have HR1:=hid R1
 have HS0:=hid S0
 have HZ0:=hid (show w.heap.size+1≤((w.alloc (.cells #[.int .u8 (kd:Int),.slice AI nI dI,.slice AK nK dK,.slice AV nV dV] 31)).alloc (.cells #[.pointer none,.slice none 0 0] 141)).heap.size by rw [Z0];exact Nat.le_succ _)
 have HBD:=hid (show Bld ((w.alloc (.cells #[.int .u8 (kd:Int),.slice AI nI dI,.slice AK nK dK,.slice AV nV dV] 31)).alloc (.cells #[.pointer none,.slice none 0 0] 141)) (w.heap.size+1) (w.heap.size+1) [] by
  have:=Lib.fresh_isBuilder 141 5 (w.alloc (.cells #[.int .u8 (kd:Int),.slice AI nI dI,.slice AK nK dK,.slice AV nV dV] 31))
  rw [show (w.alloc (.cells #[.int .u8 (kd:Int),.slice AI nI dI,.slice AK nK dK,.slice AV nV dV] 31)).heap.size=w.heap.size+1 by simp] at this
  exact this)
 clear R1 R2 S0 Z0
 go_enter Tryz.func57,Tryz.ntmps57
 go_wp2_with fail
 generalize (w.alloc _).alloc _=W2 at *
 go_at_call 85
 refine (HN1.out _).mono ?_
 rintro e w3 ⟨rfl,hb3⟩
 have B3:=hid hb3
 clear hb3
 go_wp2_with fail
 go_at_call 85
 refine (HN2.out _).mono ?_
 rintro e w4 ⟨rfl,hb4⟩
 have B4:=hid (B3.out.trans (hb4.mono B3.out.size))
 clear hb4 B3
 go_wp2_with fail
 rw [HE0.out]
 go_at_call 84
 refine (write_bd (HBD.out.below B4.out) L0 (by have:=HL0.out;simp;omega) (Nat.le_trans HZ0.out B4.out.size)).mono ?_
 rintro e w5 ⟨rfl,hd5,hb5⟩
 have D5:=hid hd5
 have B5:=hid ((B4.out.mono HZ0.out).trans hb5)
 have HR5:=hid ((B5.out.block w.heap.size (Nat.lt_succ_self _)).trans HR1.out)
 have HB5:=hid (HS0.out.trans (B5.out.mono (Nat.le_succ _)))
 have HZ5:=hid (Nat.le_trans HZ0.out B5.out.size)
 clear hd5 hb5 B4 HBD HS0 HZ0 HR1 HN1 HN2 HE0 B5 z1 z2
 have m1:w5.cell? ⟨w.heap.size,1,none⟩=some (.slice AI nI dI):=cell_of_row _ _ 1 _ _ _ HR5.out
 go_wp2_with fail
 go_loopw [34] (fun v wr=>∃ i:Nat,i≤nI∧v=.int .i64 i∧Hid (Wst w5 (w.heap.size+1) (L0++(I.take i).flatMap cI.wr) (2+i*600) wr)) (fun v _=>nI-(intOf v).toNat)
 case atStart=>exact⟨0,Nat.zero_le _,by go_num,⟨by simpa using D5.out,Below.refl _ _,HZ5.out,by simpa using HL0.out⟩⟩
 case round =>
  obtain⟨i,hi,rfl,hst⟩:=hrel
  by_cases hlt:i<nI
  ·obtain⟨x,hx⟩:∃ x,I[i]?=some x:=⟨_,List.getElem?_eq_getElem (by rw [← HI.out];exact hlt)⟩
   have hok:=HOI.out x (List.mem_of_getElem? hx)
   have hk1:x.k.size<256:=by have h:x.k.data.toList.length<256:=hok.1;rw [Array.length_toList] at h;exact h
   have hk2:x.v.size<256:=by have h:x.v.data.toList.length<256:=hok.2;rw [Array.length_toList] at h;exact h
   have HW:=hid hst
   have hBe:Below w.heap.size w wr:=HB5.out.trans ((Hid.out hst).2.1.mono (Nat.le_succ _))
   obtain⟨b,o,hAe,hb,hr⟩:=(HLI.out.below hBe) i x hx
   have hbs:b<wr.heap.size:=Nat.lt_of_lt_of_le hb hBe.size
   have HSN:=hid (flat_snoc cI.wr hx (L0))
   have HT0:=hid (fun w=>text_at x.k w (by omega))
   have zt0:(bs (txt x.k)).size≤256:=bs_le' _ _ (by rw [txt_len];omega)
   obtain⟨T0,hT0⟩:∃ T,txt x.k=T:=⟨_,rfl⟩
   have HT1:=hid (fun w=>text_at x.v w (by omega))
   have zt1:(bs (txt x.v)).size≤256:=bs_le' _ _ (by rw [txt_len];omega)
   obtain⟨T1,hT1⟩:∃ T,txt x.v=T:=⟨_,rfl⟩
   have HLW:=hid (show cI.wr x=(T0++T1) by rw [← hT0,← hT1];simp only [List.append_assoc];rfl)
   have HLEN:=hid (show (cI.wr x).length≤600 by rw [wrI_len];unfold szI;omega)
   have HEA:=hid (show bs T0++bs T1=bs (T0++T1) by simp only [bs_app])
   rw [show (be 1 x.k.data.toList.length++x.k.data.toList)=T0 from hT0] at HT0
   rw [hT0] at zt0
   rw [show (be 1 x.v.data.toList.length++x.v.data.toList)=T1 from hT1] at HT1
   rw [hT1] at zt1
   have HST:=hid hst
   have hc0:wr.cell? ⟨b,o+i*2,none⟩=some (.string x.k):=hr 0 _ rfl
   have hc1:wr.cell? ⟨b,o+i*2+1,none⟩=some (.string x.v):=hr 1 _ rfl
   have HQL:=hid (show wr.heap.size<(wr.alloc (.cells #[.string x.k,.string x.v] 63)).heap.size by simp)
   have HBW:=hid (show Below wr.heap.size wr (wr.alloc (.cells #[.string x.k,.string x.v] 63)) from (Below.refl _ _).alloc (Nat.le_refl _) _)
   have HC0:=hid (show (wr.alloc (.cells #[.string x.k,.string x.v] 63)).cell? ⟨wr.heap.size,0,none⟩=some (.string x.k) by simp)
   have HC1:=hid (show (wr.alloc (.cells #[.string x.k,.string x.v] 63)).cell? ⟨wr.heap.size,1,none⟩=some (.string x.v) by simp)
   clear hr hx hst hBe hok hT0 hT1
   subst hAe
   go_wp2_with fail
   generalize wr.alloc _=W at *
   refine wp_region_S (fun w'=>Below W.heap.size W w') 7 (by kernel_rfl) (by kernel_rfl) (by kernel_rfl) ((Below.refl _ _).drew) ?_
   simp only [List.take_succ_cons,List.take_zero]
   refine wpG_val (.pointer (some ⟨wr.heap.size,0,none⟩)) rfl (by rfl) (fun w' hSw=>by go_simp) ?_
   simp only [Gb2a,Gb2b,Gb2c]
   refine wpG_val (.string x.k) rfl (by rfl) (fun w' hSw=>by have c:=(hSw.cell (p:=⟨wr.heap.size,0,none⟩) HQL.out).trans HC0.out;go_simp) ?_
   simp only [Gb2a,Gb2b,Gb2c]
   refine wpG_call (.string (bs T0)) 86 #[.string x.k] rfl (by rfl) (fun w'=>by go_simp) (fun w' hSw=>(HT0.out w').mono fun e w2 h=>⟨h.1,hSw.trans (h.2.mono hSw.size)⟩) ?_
   simp only [Gb2a,Gb2b,Gb2c]
   refine wpG_val (.pointer (some ⟨wr.heap.size,1,none⟩)) rfl (by rfl) (fun w' hSw=>by go_simp) ?_
   simp only [Gb2a,Gb2b,Gb2c]
   refine wpG_val (.string x.v) rfl (by rfl) (fun w' hSw=>by have c:=(hSw.cell (p:=⟨wr.heap.size,1,none⟩) HQL.out).trans HC1.out;go_simp) ?_
   simp only [Gb2a,Gb2b,Gb2c]
   refine wpG_call (.string (bs T1)) 86 #[.string x.v] rfl (by rfl) (fun w'=>by go_simp) (fun w' hSw=>(HT1.out w').mono fun e w2 h=>⟨h.1,hSw.trans (h.2.mono hSw.size)⟩) ?_
   simp only [Gb2a,Gb2b,Gb2c]
   refine wpG_val (.string (bs T0++bs T1)) rfl (by rfl) (fun w' hSw=>by go_simp<;>omega) ?_
   simp only [Gb2a,Gb2b,Gb2c]
   refine wpG_nil ?_
   intro wS hSw
   simp only [List.drop_succ_cons,List.drop_zero]
   go_wp2_with fail
   rw [HEA.out,← HLW.out]
   go_at_call 84
   refine (write_bd ((HST.out.1.below HBW.out).below hSw) (cI.wr x) (by have h1:=HST.out.2.2.2;have h2:=HLEN.out;omega) (Nat.le_trans HST.out.2.2.1 (Nat.le_trans HBW.out.size hSw.size))).mono ?_
   rintro e w6 ⟨rfl,hd6,hb6⟩
   have HN6:=hid (HST.out.next (HBW.out.trans (hSw.mono HBW.out.size)) hd6 hb6 HLEN.out)
   rw [← HSN.out,show 2+i*600+600=2+(i+1)*600 by omega] at HN6
   clear hd6 hb6 hSw HST HBW
   go_wp2_with fail
   exact⟨⟨i+1,by omega,by go_num,HN6.out⟩,by simp [intOf]<;>omega⟩
  ·have HEI:=hid (show Wst w5 (w.heap.size+1) (L0++I.flatMap cI.wr) (2+nI*600) wr by have h:=Hid.out hst;rw [List.take_of_length_le (by rw [← HI.out];omega),show i=nI by omega] at h;exact h)
   clear hst
   have m2:wr.cell? ⟨w.heap.size,2,none⟩=some (.slice AK nK dK):=cell_of_row _ _ 2 _ _ _ ((HEI.out.2.1.block w.heap.size (Nat.lt_succ_self _)).trans HR5.out)
   go_wp2_with fail
   clear hlt hi
   go_loopw [50] (fun v wr=>∃ i:Nat,i≤nK∧v=.int .i64 i∧Hid (Wst w5 (w.heap.size+1) (L0++I.flatMap cI.wr++(K.take i).flatMap cK.wr) (2+nI*600+i*600) wr)) (fun v _=>nK-(intOf v).toNat)
   case atStart=>exact⟨0,Nat.zero_le _,by go_num,by show Wst _ _ (_++(K.take 0).flatMap _) (_+0*600) _;rw [List.take_zero,List.flatMap_nil,List.append_nil,Nat.zero_mul,Nat.add_zero];exact HEI.out⟩
   case round =>
    obtain⟨i,hi,rfl,hst⟩:=hrel
    by_cases hlt:i<nK
    ·obtain⟨x,hx⟩:∃ x,K[i]?=some x:=⟨_,List.getElem?_eq_getElem (by rw [← HK.out];exact hlt)⟩
     have hok:=HOK.out x (List.mem_of_getElem? hx)
     have hk1:x.k.size<256:=by have h:x.k.data.toList.length<256:=hok.1;rw [Array.length_toList] at h;exact h
     have hk2:x.n<4294967296:=hok.2.1
     have hxl:x.hs.length=32:=hok.2.2
     have HW:=hid hst
     have hBe:Below w.heap.size w wr:=HB5.out.trans ((Hid.out hst).2.1.mono (Nat.le_succ _))
     obtain⟨b,o,hAe,hb,hr⟩:=(HLK.out.below hBe) i x hx
     have hbs:b<wr.heap.size:=Nat.lt_of_lt_of_le hb hBe.size
     have HSN:=hid (flat_snoc cK.wr hx (L0++I.flatMap cI.wr))
     have HT0:=hid (fun w=>text_at x.k w (by omega))
     have zt0:(bs (txt x.k)).size≤256:=bs_le' _ _ (by rw [txt_len];omega)
     obtain⟨T0,hT0⟩:∃ T,txt x.k=T:=⟨_,rfl⟩
     have HT1:=hid (show ∀ w,Calls Tryz.prog 85 #[.int .u64 (x.n:Int),.int .i64 4] w fun e w'=>e=.returned (.string (bs (be 4 x.n)))∧Below w.heap.size w w' from fun w=>number_be x.n 4 w (by omega) (by omega) (by omega))
     have zt1:(bs (be 4 x.n)).size≤256:=bs_le' _ _ (by rw [be_length];omega)
     obtain⟨T1,hT1⟩:∃ T,be 4 x.n=T:=⟨_,rfl⟩
     have zt2:(bs x.hs).size≤256:=bs_le' _ _ (by omega)
     obtain⟨T2,hT2⟩:∃ T,x.hs=T:=⟨_,rfl⟩
     have HLW:=hid (show cK.wr x=((T0++T1)++T2) by rw [← hT0,← hT1,← hT2];simp only [List.append_assoc];rfl)
     have HLEN:=hid (show (cK.wr x).length≤600 by rw [wrK_len hok];unfold szK;omega)
     have HEA:=hid (show bs T0++bs T1++bs T2=bs ((T0++T1)++T2) by simp only [bs_app])
     rw [show (be 1 x.k.data.toList.length++x.k.data.toList)=T0 from hT0] at HT0
     rw [hT0] at zt0
     rw [hT1] at HT1 zt1
     rw [hT2] at zt2
     have HH:=hid hT2
     have HST:=hid hst
     have HRG:=hid hr
     have HXL:=hid hxl
     clear hr hx hst hBe hok hxl hT0 hT1 hT2
     subst hAe
     go_wp2_with (first
      | (refine wpList_load_at rfl 45 (.tmp 52) rfl b (o+i*34) rfl (ecK x) _ HRG.out Tryz.underlying45 rfl (infoKs x) ?_)
      | (refine wpList_fresh rfl 45 (.tmp 8) (.tmp 53) rfl (ecK x).toArray _ _ rfl rfl (infoKa x) (ecK_sz x) (all_of_one (ecK_one x)) ?_;intro W hb1 hr1 hz1;have HBW:=hid hb1;have HQL:=hid (show wr.heap.size<W.heap.size by rw [hz1];exact Nat.lt_succ_self _);have HRW:=hid hr1;have HC0:=hid (show W.cell? ⟨wr.heap.size,0,none⟩=some (.string x.k) from cell_of_row _ _ 0 _ _ _ hr1);have HC1:=hid (show W.cell? ⟨wr.heap.size,1,none⟩=some (.int .u32 x.n) from cell_of_row _ _ 1 _ _ _ hr1);clear hr1 hz1 hb1 HRG))
     refine wp_region_S (fun w'=>Below W.heap.size W w') 12 (by kernel_rfl) (by kernel_rfl) (by kernel_rfl) ((Below.refl _ _).drew) ?_
     simp only [List.take_succ_cons,List.take_zero]
     refine wpG_val (.pointer (some ⟨wr.heap.size,0,none⟩)) rfl (by rfl) (fun w' hSw=>by go_simp) ?_
     simp only [Gb2a,Gb2b,Gb2c]
     refine wpG_val (.string x.k) rfl (by rfl) (fun w' hSw=>by have c:=(hSw.cell (p:=⟨wr.heap.size,0,none⟩) HQL.out).trans HC0.out;go_simp) ?_
     simp only [Gb2a,Gb2b,Gb2c]
     refine wpG_call (.string (bs T0)) 86 #[.string x.k] rfl (by rfl) (fun w'=>by go_simp) (fun w' hSw=>(HT0.out w').mono fun e w2 h=>⟨h.1,hSw.trans (h.2.mono hSw.size)⟩) ?_
     simp only [Gb2a,Gb2b,Gb2c]
     refine wpG_val (.pointer (some ⟨wr.heap.size,1,none⟩)) rfl (by rfl) (fun w' hSw=>by go_simp) ?_
     simp only [Gb2a,Gb2b,Gb2c]
     refine wpG_val (.int .u32 x.n) rfl (by rfl) (fun w' hSw=>by have c:=(hSw.cell (p:=⟨wr.heap.size,1,none⟩) HQL.out).trans HC1.out;go_simp) ?_
     simp only [Gb2a,Gb2b,Gb2c]
     refine wpG_val (.int .u64 x.n) rfl (by rfl) (fun w' hSw=>by go_simp;rw [IntKind.wrap_u64];omega) ?_
     simp only [Gb2a,Gb2b,Gb2c]
     refine wpG_call (.string (bs T1)) 85 #[.int .u64 x.n,.int .i64 4] rfl (by rfl) (fun w'=>by go_simp) (fun w' hSw=>(HT1.out w').mono fun e w2 h=>⟨h.1,hSw.trans (h.2.mono hSw.size)⟩) ?_
     simp only [Gb2a,Gb2b,Gb2c]
     refine wpG_val (.string (bs T0++bs T1)) rfl (by rfl) (fun w' hSw=>by go_simp<;>omega) ?_
     simp only [Gb2a,Gb2b,Gb2c]
     refine wpG_val (.pointer (some ⟨wr.heap.size,2,none⟩)) rfl (by rfl) (fun w' hSw=>by go_simp) ?_
     simp only [Gb2a,Gb2b,Gb2c]
     refine wpG_val (.slice (some ⟨wr.heap.size,2,none⟩) 32 32) rfl (by rfl) (fun w' hSw=>by go_simp) ?_
     simp only [Gb2a,Gb2b,Gb2c]
     refine wpG_val (.string (bs T2)) rfl (by rfl) (fun w' hSw=>by have c:=conv_hash (q:=wr.heap.size) (o:=2) (show T2.length=32 by rw [← HH.out];exact HXL.out) (rangeAt_row ((hSw.block _ HQL.out).trans HRW.out) (fun a v hv=>by rw [← HH.out] at hv;unfold ecK;rw [fix_of HXL.out,List.getElem?_toArray,Nat.add_comm 2 a];exact hv));go_simp) ?_
     simp only [Gb2a,Gb2b,Gb2c]
     refine wpG_val (.string (bs T0++bs T1++bs T2)) rfl (by rfl) (fun w' hSw=>by go_simp<;>omega) ?_
     simp only [Gb2a,Gb2b,Gb2c]
     refine wpG_nil ?_
     intro wS hSw
     simp only [List.drop_succ_cons,List.drop_zero]
     go_wp2_with fail
     rw [HEA.out,← HLW.out]
     go_at_call 84
     refine (write_bd ((HST.out.1.below HBW.out).below hSw) (cK.wr x) (by have h1:=HST.out.2.2.2;have h2:=HLEN.out;omega) (Nat.le_trans HST.out.2.2.1 (Nat.le_trans HBW.out.size hSw.size))).mono ?_
     rintro e w6 ⟨rfl,hd6,hb6⟩
     have HN6:=hid (HST.out.next (HBW.out.trans (hSw.mono HBW.out.size)) hd6 hb6 HLEN.out)
     rw [← HSN.out,show 2+nI*600+i*600+600=2+nI*600+(i+1)*600 by omega] at HN6
     clear hd6 hb6 hSw HST HBW
     go_wp2_with fail
     exact⟨⟨i+1,by omega,by go_num,HN6.out⟩,by simp [intOf]<;>omega⟩
    ·have HEK:=hid (show Wst w5 (w.heap.size+1) (L0++I.flatMap cI.wr++K.flatMap cK.wr) (2+nI*600+nK*600) wr by have h:=Hid.out hst;rw [List.take_of_length_le (by rw [← HK.out];omega),show i=nK by omega] at h;exact h)
     clear hst
     have m3:wr.cell? ⟨w.heap.size,3,none⟩=some (.slice AV nV dV):=cell_of_row _ _ 3 _ _ _ ((HEK.out.2.1.block w.heap.size (Nat.lt_succ_self _)).trans HR5.out)
     go_wp2_with fail
     clear hlt hi
     go_loopw [71] (fun v wr=>∃ i:Nat,i≤nV∧v=.int .i64 i∧Hid (Wst w5 (w.heap.size+1) (L0++I.flatMap cI.wr++K.flatMap cK.wr++(V.take i).flatMap cV.wr) (2+nI*600+nK*600+i*600) wr)) (fun v _=>nV-(intOf v).toNat)
     case atStart=>exact⟨0,Nat.zero_le _,by go_num,by show Wst _ _ (_++(V.take 0).flatMap _) (_+0*600) _;rw [List.take_zero,List.flatMap_nil,List.append_nil,Nat.zero_mul,Nat.add_zero];exact HEK.out⟩
     case round =>
      obtain⟨i,hi,rfl,hst⟩:=hrel
      by_cases hlt:i<nV
      ·obtain⟨x,hx⟩:∃ x,V[i]?=some x:=⟨_,List.getElem?_eq_getElem (by rw [← HV.out];exact hlt)⟩
       have hok:=HOV.out x (List.mem_of_getElem? hx)
       have hk1:x.nm.size<256:=by have h:x.nm.data.toList.length<256:=hok.1;rw [Array.length_toList] at h;exact h
       have hk2:x.fr.size<256:=by have h:x.fr.data.toList.length<256:=hok.2.1;rw [Array.length_toList] at h;exact h
       have hk3:x.kd<256:=hok.2.2.1
       have hk4:x.bn<18446744073709551616:=hok.2.2.2.1
       have hk5:x.rt<4294967296:=hok.2.2.2.2.1
       have hxl:x.hs.length=32:=hok.2.2.2.2.2
       have HW:=hid hst
       have hBe:Below w.heap.size w wr:=HB5.out.trans ((Hid.out hst).2.1.mono (Nat.le_succ _))
       obtain⟨b,o,hAe,hb,hr⟩:=(HLV.out.below hBe) i x hx
       have hbs:b<wr.heap.size:=Nat.lt_of_lt_of_le hb hBe.size
       have HSN:=hid (flat_snoc cV.wr hx (L0++I.flatMap cI.wr++K.flatMap cK.wr))
       have HT0:=hid (fun w=>text_at x.nm w (by omega))
       have zt0:(bs (txt x.nm)).size≤256:=bs_le' _ _ (by rw [txt_len];omega)
       obtain⟨T0,hT0⟩:∃ T,txt x.nm=T:=⟨_,rfl⟩
       have HT1:=hid (fun w=>text_at x.fr w (by omega))
       have zt1:(bs (txt x.fr)).size≤256:=bs_le' _ _ (by rw [txt_len];omega)
       obtain⟨T1,hT1⟩:∃ T,txt x.fr=T:=⟨_,rfl⟩
       have HT2:=hid (show ∀ w,Calls Tryz.prog 85 #[.int .u64 (x.kd:Int),.int .i64 1] w fun e w'=>e=.returned (.string (bs (be 1 x.kd)))∧Below w.heap.size w w' from fun w=>number_be x.kd 1 w (by omega) (by omega) (by omega))
       have zt2:(bs (be 1 x.kd)).size≤256:=bs_le' _ _ (by rw [be_length];omega)
       obtain⟨T2,hT2⟩:∃ T,be 1 x.kd=T:=⟨_,rfl⟩
       have HT3:=hid (show ∀ w,Calls Tryz.prog 85 #[.int .u64 (x.bn:Int),.int .i64 8] w fun e w'=>e=.returned (.string (bs (be 8 x.bn)))∧Below w.heap.size w w' from fun w=>number_be x.bn 8 w (by omega) (by omega) (by omega))
       have zt3:(bs (be 8 x.bn)).size≤256:=bs_le' _ _ (by rw [be_length];omega)
       obtain⟨T3,hT3⟩:∃ T,be 8 x.bn=T:=⟨_,rfl⟩
       have HT4:=hid (show ∀ w,Calls Tryz.prog 85 #[.int .u64 (x.rt:Int),.int .i64 4] w fun e w'=>e=.returned (.string (bs (be 4 x.rt)))∧Below w.heap.size w w' from fun w=>number_be x.rt 4 w (by omega) (by omega) (by omega))
       have zt4:(bs (be 4 x.rt)).size≤256:=bs_le' _ _ (by rw [be_length];omega)
       obtain⟨T4,hT4⟩:∃ T,be 4 x.rt=T:=⟨_,rfl⟩
       have zt5:(bs x.hs).size≤256:=bs_le' _ _ (by omega)
       obtain⟨T5,hT5⟩:∃ T,x.hs=T:=⟨_,rfl⟩
       have HLW:=hid (show cV.wr x=(((((T0++T1)++T2)++T3)++T4)++T5) by rw [← hT0,← hT1,← hT2,← hT3,← hT4,← hT5];simp only [List.append_assoc];rfl)
       have HLEN:=hid (show (cV.wr x).length≤600 by rw [wrV_len hok];unfold szV;omega)
       have HEA:=hid (show bs T0++bs T1++bs T2++bs T3++bs T4++bs T5=bs (((((T0++T1)++T2)++T3)++T4)++T5) by simp only [bs_app])
       rw [show (be 1 x.nm.data.toList.length++x.nm.data.toList)=T0 from hT0] at HT0
       rw [hT0] at zt0
       rw [show (be 1 x.fr.data.toList.length++x.fr.data.toList)=T1 from hT1] at HT1
       rw [hT1] at zt1
       rw [hT2] at HT2 zt2
       rw [hT3] at HT3 zt3
       rw [hT4] at HT4 zt4
       rw [hT5] at zt5
       have HH:=hid hT5
       have HST:=hid hst
       have HRG:=hid hr
       have HXL:=hid hxl
       clear hr hx hst hBe hok hxl hT0 hT1 hT2 hT3 hT4 hT5
       subst hAe
       go_wp2_with (first
        | (refine wpList_load_at rfl 121 (.tmp 73) rfl b (o+i*37) rfl (ecV x) _ HRG.out Tryz.underlying121 rfl (infoVs x) ?_)
        | (refine wpList_fresh rfl 121 (.tmp 10) (.tmp 74) rfl (ecV x).toArray _ _ rfl rfl (infoVa x) (ecV_sz x) (all_of_one (ecV_one x)) ?_;intro W hb1 hr1 hz1;have HBW:=hid hb1;have HQL:=hid (show wr.heap.size<W.heap.size by rw [hz1];exact Nat.lt_succ_self _);have HRW:=hid hr1;have HC0:=hid (show W.cell? ⟨wr.heap.size,0,none⟩=some (.string x.nm) from cell_of_row _ _ 0 _ _ _ hr1);have HC1:=hid (show W.cell? ⟨wr.heap.size,2,none⟩=some (.string x.fr) from cell_of_row _ _ 2 _ _ _ hr1);have HC2:=hid (show W.cell? ⟨wr.heap.size,1,none⟩=some (.int .u8 x.kd) from cell_of_row _ _ 1 _ _ _ hr1);have HC3:=hid (show W.cell? ⟨wr.heap.size,3,none⟩=some (.int .u64 x.bn) from cell_of_row _ _ 3 _ _ _ hr1);have HC4:=hid (show W.cell? ⟨wr.heap.size,4,none⟩=some (.int .u32 x.rt) from cell_of_row _ _ 4 _ _ _ hr1);clear hr1 hz1 hb1 HRG))
       refine wp_region_S (fun w'=>Below W.heap.size W w') 25 (by kernel_rfl) (by kernel_rfl) (by kernel_rfl) ((Below.refl _ _).drew) ?_
       simp only [List.take_succ_cons,List.take_zero]
       refine wpG_val (.pointer (some ⟨wr.heap.size,0,none⟩)) rfl (by rfl) (fun w' hSw=>by go_simp) ?_
       simp only [Gb2a,Gb2b,Gb2c]
       refine wpG_val (.string x.nm) rfl (by rfl) (fun w' hSw=>by have c:=(hSw.cell (p:=⟨wr.heap.size,0,none⟩) HQL.out).trans HC0.out;go_simp) ?_
       simp only [Gb2a,Gb2b,Gb2c]
       refine wpG_call (.string (bs T0)) 86 #[.string x.nm] rfl (by rfl) (fun w'=>by go_simp) (fun w' hSw=>(HT0.out w').mono fun e w2 h=>⟨h.1,hSw.trans (h.2.mono hSw.size)⟩) ?_
       simp only [Gb2a,Gb2b,Gb2c]
       refine wpG_val (.pointer (some ⟨wr.heap.size,2,none⟩)) rfl (by rfl) (fun w' hSw=>by go_simp) ?_
       simp only [Gb2a,Gb2b,Gb2c]
       refine wpG_val (.string x.fr) rfl (by rfl) (fun w' hSw=>by have c:=(hSw.cell (p:=⟨wr.heap.size,2,none⟩) HQL.out).trans HC1.out;go_simp) ?_
       simp only [Gb2a,Gb2b,Gb2c]
       refine wpG_call (.string (bs T1)) 86 #[.string x.fr] rfl (by rfl) (fun w'=>by go_simp) (fun w' hSw=>(HT1.out w').mono fun e w2 h=>⟨h.1,hSw.trans (h.2.mono hSw.size)⟩) ?_
       simp only [Gb2a,Gb2b,Gb2c]
       refine wpG_val (.string (bs T0++bs T1)) rfl (by rfl) (fun w' hSw=>by go_simp<;>omega) ?_
       simp only [Gb2a,Gb2b,Gb2c]
       refine wpG_val (.pointer (some ⟨wr.heap.size,1,none⟩)) rfl (by rfl) (fun w' hSw=>by go_simp) ?_
       simp only [Gb2a,Gb2b,Gb2c]
       refine wpG_val (.int .u8 x.kd) rfl (by rfl) (fun w' hSw=>by have c:=(hSw.cell (p:=⟨wr.heap.size,1,none⟩) HQL.out).trans HC2.out;go_simp) ?_
       simp only [Gb2a,Gb2b,Gb2c]
       refine wpG_val (.int .u64 x.kd) rfl (by rfl) (fun w' hSw=>by go_simp;rw [IntKind.wrap_u64];omega) ?_
       simp only [Gb2a,Gb2b,Gb2c]
       refine wpG_call (.string (bs T2)) 85 #[.int .u64 x.kd,.int .i64 1] rfl (by rfl) (fun w'=>by go_simp) (fun w' hSw=>(HT2.out w').mono fun e w2 h=>⟨h.1,hSw.trans (h.2.mono hSw.size)⟩) ?_
       simp only [Gb2a,Gb2b,Gb2c]
       refine wpG_val (.string (bs T0++bs T1++bs T2)) rfl (by rfl) (fun w' hSw=>by go_simp<;>omega) ?_
       simp only [Gb2a,Gb2b,Gb2c]
       refine wpG_val (.pointer (some ⟨wr.heap.size,3,none⟩)) rfl (by rfl) (fun w' hSw=>by go_simp) ?_
       simp only [Gb2a,Gb2b,Gb2c]
       refine wpG_val (.int .u64 x.bn) rfl (by rfl) (fun w' hSw=>by have c:=(hSw.cell (p:=⟨wr.heap.size,3,none⟩) HQL.out).trans HC3.out;go_simp) ?_
       simp only [Gb2a,Gb2b,Gb2c]
       refine wpG_call (.string (bs T3)) 85 #[.int .u64 x.bn,.int .i64 8] rfl (by rfl) (fun w'=>by go_simp) (fun w' hSw=>(HT3.out w').mono fun e w2 h=>⟨h.1,hSw.trans (h.2.mono hSw.size)⟩) ?_
       simp only [Gb2a,Gb2b,Gb2c]
       refine wpG_val (.string (bs T0++bs T1++bs T2++bs T3)) rfl (by rfl) (fun w' hSw=>by go_simp<;>omega) ?_
       simp only [Gb2a,Gb2b,Gb2c]
       refine wpG_val (.pointer (some ⟨wr.heap.size,4,none⟩)) rfl (by rfl) (fun w' hSw=>by go_simp) ?_
       simp only [Gb2a,Gb2b,Gb2c]
       refine wpG_val (.int .u32 x.rt) rfl (by rfl) (fun w' hSw=>by have c:=(hSw.cell (p:=⟨wr.heap.size,4,none⟩) HQL.out).trans HC4.out;go_simp) ?_
       simp only [Gb2a,Gb2b,Gb2c]
       refine wpG_val (.int .u64 x.rt) rfl (by rfl) (fun w' hSw=>by go_simp;rw [IntKind.wrap_u64];omega) ?_
       simp only [Gb2a,Gb2b,Gb2c]
       refine wpG_call (.string (bs T4)) 85 #[.int .u64 x.rt,.int .i64 4] rfl (by rfl) (fun w'=>by go_simp) (fun w' hSw=>(HT4.out w').mono fun e w2 h=>⟨h.1,hSw.trans (h.2.mono hSw.size)⟩) ?_
       simp only [Gb2a,Gb2b,Gb2c]
       refine wpG_val (.string (bs T0++bs T1++bs T2++bs T3++bs T4)) rfl (by rfl) (fun w' hSw=>by go_simp<;>omega) ?_
       simp only [Gb2a,Gb2b,Gb2c]
       refine wpG_val (.pointer (some ⟨wr.heap.size,5,none⟩)) rfl (by rfl) (fun w' hSw=>by go_simp) ?_
       simp only [Gb2a,Gb2b,Gb2c]
       refine wpG_val (.slice (some ⟨wr.heap.size,5,none⟩) 32 32) rfl (by rfl) (fun w' hSw=>by go_simp) ?_
       simp only [Gb2a,Gb2b,Gb2c]
       refine wpG_val (.string (bs T5)) rfl (by rfl) (fun w' hSw=>by have c:=conv_hash (q:=wr.heap.size) (o:=5) (show T5.length=32 by rw [← HH.out];exact HXL.out) (rangeAt_row ((hSw.block _ HQL.out).trans HRW.out) (fun a v hv=>by rw [← HH.out] at hv;unfold ecV;rw [fix_of HXL.out,List.getElem?_toArray,Nat.add_comm 5 a];exact hv));go_simp) ?_
       simp only [Gb2a,Gb2b,Gb2c]
       refine wpG_val (.string (bs T0++bs T1++bs T2++bs T3++bs T4++bs T5)) rfl (by rfl) (fun w' hSw=>by go_simp<;>omega) ?_
       simp only [Gb2a,Gb2b,Gb2c]
       refine wpG_nil ?_
       intro wS hSw
       simp only [List.drop_succ_cons,List.drop_zero]
       go_wp2_with fail
       rw [HEA.out,← HLW.out]
       go_at_call 84
       refine (write_bd ((HST.out.1.below HBW.out).below hSw) (cV.wr x) (by have h1:=HST.out.2.2.2;have h2:=HLEN.out;omega) (Nat.le_trans HST.out.2.2.1 (Nat.le_trans HBW.out.size hSw.size))).mono ?_
       rintro e w6 ⟨rfl,hd6,hb6⟩
       have HN6:=hid (HST.out.next (HBW.out.trans (hSw.mono HBW.out.size)) hd6 hb6 HLEN.out)
       rw [← HSN.out,show 2+nI*600+nK*600+i*600+600=2+nI*600+nK*600+(i+1)*600 by omega] at HN6
       clear hd6 hb6 hSw HST HBW
       go_wp2_with fail
       exact⟨⟨i+1,by omega,by go_num,HN6.out⟩,by simp [intOf]<;>omega⟩
      ·have HEV:=hid (show Wst w5 (w.heap.size+1) (L0++I.flatMap cI.wr++K.flatMap cK.wr++V.flatMap cV.wr) (2+nI*600+nK*600+nV*600) wr by have h:=Hid.out hst;rw [List.take_of_length_le (by rw [← HV.out];omega),show i=nV by omega] at h;exact h)
       clear hst
       have HSB:=hid (string_bd HEV.out.1 HEV.out.2.2.1)
       rw [← HWN.out] at HSB
       go_wp2_with fail
       go_at_call 87
       refine HSB.out.mono ?_
       rintro e w9 ⟨rfl,hb9⟩
       have HB9:=hid (HB5.out.trans ((HEV.out.2.1.trans hb9).mono (Nat.le_succ _)))
       clear hb9
       go_wp2_with fail
       go_ret
       exact⟨rfl,HB9.out⟩
def encB (n:Nd):ByteArray:=if ckN n=0 then bs (encN n) else ByteArray.empty
theorem seal_yes (l:List UInt8) (h:l.length≤508) (w:World):Calls Tryz.prog 56 #[.string (bs l)] w fun e w'=>e=.returned (.tuple #[.string (bs (sealL l)),.int .i64 0])∧Below w.heap.size w w':=by
 have:=seal_any (bs l) w
 unfold slB slE at this
 rwa [if_neg (by rw [bs_size];omega),if_neg (by rw [bs_size];omega),bs_data] at this
set_option maxRecDepth 100000 in
set_option maxHeartbeats 4000000 in
theorem encode_any (n:Nd) (hw:Wd n) (cs:Array Value) (w:World) (hn:NdAt w cs n) :
  Calls Tryz.prog 29 #[.agg cs] w fun e w'=>e=.returned (.tuple #[.string (encB n),.int .i64 (ckN n)])∧Below w.heap.size w w':=by
 have hcz:=hn.size
 have HI:=hid (show (Tryz.prog.info? 31).map (·.size)=some cs.size by rw [hcz];kernel_rfl)
 have HB0:=hid (show Below w.heap.size w (w.alloc (.cells cs 31)) from (Below.refl _ _).alloc (Nat.le_refl _) _)
 have HR0:=hid (heap_alloc_new w (.cells cs 31))
 have HC1:=hid (fun w' (hb:Below w.heap.size w w')=>check_any n hw cs w' (hn.below hb))
 by_cases hc:ckN n=0
 ·have HC2:=hid (fun w' (hb:Below w.heap.size w w')=>written_any n (rt_fm hw (ck_zero.1 hc).1) cs w' (hn.below hb))
  have HC3:=hid (fun w'=>seal_yes (wN n) (by rw [wN_len (rt_fm hw (ck_zero.1 hc).1)];exact (ck_zero.1 hc).2) w')
  have HX:=hid (show encB n=bs (sealL (wN n)) by unfold encB;rw [if_pos hc];rfl)
  rw [HX.out,hc]
  rw [hc] at HC1
  clear hc hcz hn hw
  generalize bs (sealL (wN n))=R at *
  generalize bs (wN n)=V at *
  go_enter Tryz.func29,Tryz.ntmps29
  go_wp2_with (first
   | (refine wpList_load_row rfl 31 (.tmp 1) rfl w.heap.size rfl 31 cs (0,0) _ HR0.out Tryz.underlying31 rfl HI.out ?_)
   | (go_at_call 55;refine (HC1.out _ HB0.out).mono ?_;rintro e w3 ⟨rfl,hb3⟩;have HB3:=hid (HB0.out.trans (hb3.mono HB0.out.size));have HR3:=hid ((hb3.block _ (row_lt HR0.out)).trans HR0.out);clear hb3)
   | (refine wpList_load_row rfl 31 (.tmp 1) rfl w.heap.size rfl 31 cs (0,0) _ HR3.out Tryz.underlying31 rfl HI.out ?_)
   | (go_at_call 57;refine (HC2.out _ HB3.out).mono ?_;rintro e w4 ⟨rfl,hb4⟩;have HB4:=hid (HB3.out.trans (hb4.mono HB3.out.size));clear hb4)
   | (go_at_call 56;refine (HC3.out _).mono ?_;rintro e w5 ⟨rfl,hb5⟩;have HB5:=hid (HB4.out.trans (hb5.mono HB4.out.size));clear hb5))
  go_ret2
  exact⟨rfl,HB5.out⟩
 ·have HX:=hid (show encB n=ByteArray.empty by unfold encB;rw [if_neg hc])
  rw [HX.out]
  have q:((ckN n:Int) != 0)=true:=by rw [bne_iff_ne];exact hc
  generalize ckN n=C at *
  clear hc hcz hn hw
  go_enter Tryz.func29,Tryz.ntmps29
  go_wp2_with (first
   | (refine wpList_load_row rfl 31 (.tmp 1) rfl w.heap.size rfl 31 cs (0,0) _ HR0.out Tryz.underlying31 rfl HI.out ?_)
   | (go_at_call 55;refine (HC1.out _ HB0.out).mono ?_;rintro e w3 ⟨rfl,hb3⟩;have HB3:=hid (HB0.out.trans (hb3.mono HB0.out.size));clear hb3))
  go_ret2
  exact⟨rfl,HB3.out⟩
section
variable {α:Type}
theorem many_len (C:Cod α):∀ (c:Nat) (s:S),(tkMany C c s).1.length≤c
 | 0,s=>Nat.le_refl _
 | c+1,s=>by
  rw [tkMany]
  split
  ·simp
  ·have:=many_len C c (C.tk s).2
   simp only [List.length_cons]
   omega
theorem many_all {C:Cod α}{p:α→Prop}(h:∀ s,p (C.tk s).1):∀ (c:Nat) (s:S),∀ x∈(tkMany C c s).1,p x
 | 0,s,x,hx=>by cases hx
 | c+1,s,x,hx=>by
  rw [tkMany] at hx
  split at hx
  ·have:x=(C.tk s).1:=by simpa using hx
   rw [this];exact h s
  ·rcases List.mem_cons.1 hx with rfl | hx
   ·exact h s
   ·exact many_all h c _ x hx
end
theorem K_wd (s:S):(cK.tk s).1.n<256 ^ 4∧(cK.tk s).1.hs.length=32:=by
 obtain⟨V1,s1,e1⟩:∃ V s',tkTxt s=(V,s'):=⟨_,_,rfl⟩
 obtain⟨V2,s2,e2⟩:∃ V s',tkNum 4 s1=(V,s'):=⟨_,_,rfl⟩
 obtain⟨V3,s3,e3⟩:∃ V s',tkHash s2=(V,s'):=⟨_,_,rfl⟩
 have hX:(cK.tk s).1=⟨bs V1,V2,V3⟩:=by
  have:=as_tk (A:=cTxt.pair ((cNum 4).pair cHash)) (f:=fun p=>(⟨bs p.1,p.2.1,p.2.2⟩:Kd)) (g:=fun x=>(x.k.data.toList,x.n,x.hs)) (pair_tk (A:=cTxt) e1 (pair_tk (A:=cNum 4) (B:=cHash) e2 e3))
  exact congrArg Prod.fst this
 rw [hX]
 have h2:=num_width 4 s1
 have h3:=tkHash_len s2
 rw [e2] at h2
 rw [e3] at h3
 exact⟨h2,h3⟩
theorem V_wd (s:S):(cV.tk s).1.kd<256 ^ 1∧(cV.tk s).1.bn<256 ^ 8∧(cV.tk s).1.rt<256 ^ 4∧(cV.tk s).1.hs.length=32:=by
 obtain⟨V1,s1,e1⟩:∃ V s',tkTxt s=(V,s'):=⟨_,_,rfl⟩
 obtain⟨V2,s2,e2⟩:∃ V s',tkTxt s1=(V,s'):=⟨_,_,rfl⟩
 obtain⟨V3,s3,e3⟩:∃ V s',tkNum 1 s2=(V,s'):=⟨_,_,rfl⟩
 obtain⟨V4,s4,e4⟩:∃ V s',tkNum 8 s3=(V,s'):=⟨_,_,rfl⟩
 obtain⟨V5,s5,e5⟩:∃ V s',tkNum 4 s4=(V,s'):=⟨_,_,rfl⟩
 obtain⟨V6,s6,e6⟩:∃ V s',tkHash s5=(V,s'):=⟨_,_,rfl⟩
 have hX:(cV.tk s).1=⟨bs V1,V3,bs V2,V4,V5,V6⟩:=by
  have:=as_tk (A:=cTxt.pair (cTxt.pair ((cNum 1).pair ((cNum 8).pair ((cNum 4).pair cHash))))) (f:=fun p=>(⟨bs p.1,p.2.2.1,bs p.2.1,p.2.2.2.1,p.2.2.2.2.1,p.2.2.2.2.2⟩:Vo)) (g:=fun x=>(x.nm.data.toList,x.fr.data.toList,x.kd,x.bn,x.rt,x.hs)) (pair_tk (A:=cTxt) e1 (pair_tk (A:=cTxt) e2 (pair_tk (A:=cNum 1) e3 (pair_tk (A:=cNum 8) e4 (pair_tk (A:=cNum 4) (B:=cHash) e5 e6)))))
  exact congrArg Prod.fst this
 rw [hX]
 have h3:=num_width 1 s2
 have h4:=num_width 8 s3
 have h5:=num_width 4 s4
 have h6:=tkHash_len s5
 rw [e3] at h3
 rw [e4] at h4
 rw [e5] at h5
 rw [e6] at h6
 exact⟨h3,h4,h5,h6⟩
theorem tkN_fine (l:List UInt8):Wd (tkN l).1∧(tkN l).1.I.length≤255∧(tkN l).1.K.length≤255∧(tkN l).1.V.length≤255∧(tkN l).1.kd<256:=by
 have hc:=num_byte (tkNum 1 (l,false)).2
 have hk:=num_byte (l,false)
 unfold tkN
 dsimp only
 split
 ·exact⟨⟨fun x hx=>(by cases hx),fun x hx=>(by cases hx)⟩,Nat.le_trans (many_len _ _ _) (by omega),Nat.zero_le _,Nat.zero_le _,hk⟩
 ·split
  ·exact⟨⟨many_all K_wd _ _,fun x hx=>(by cases hx)⟩,Nat.zero_le _,Nat.le_trans (many_len _ _ _) (by omega),Nat.zero_le _,hk⟩
  ·split
   ·exact⟨⟨fun x hx=>(by cases hx),many_all V_wd _ _⟩,Nat.zero_le _,Nat.zero_le _,Nat.le_trans (many_len _ _ _) (by omega),hk⟩
   ·exact⟨⟨fun x hx=>(by cases hx),fun x hx=>(by cases hx)⟩,Nat.zero_le _,Nat.zero_le _,Nat.zero_le _,hk⟩
theorem NdOwn.go {w w1 w2:World}{cs:Array Value}{n:Nd}(h:NdOwn w w1 cs n) (hb:Below w1.heap.size w1 w2):NdOwn w w2 cs n:=by
 obtain⟨vI,vK,vV,rfl,mI,mK,mV⟩:=h;exact⟨_,_,_,rfl,mI.go hb,mK.go hb,mV.go hb⟩
theorem NdOwn.since {w0 w w1:World}{cs:Array Value}{n:Nd}(h:NdOwn w w1 cs n) (hb:Below w0.heap.size w0 w):NdOwn w0 w1 cs n:=by
 obtain⟨vI,vK,vV,rfl,mI,mK,mV⟩:=h;exact⟨_,_,_,rfl,mI.since hb,mK.since hb,mV.since hb⟩
theorem NdOwn.beside {w w1 w2:World}{cs:Array Value}{n:Nd}{q:Nat}{old:Array Value}{t:TypeId}{f:Nat×Nat}(h:NdOwn w w1 cs n) (hq:w1.heap[q]?=some (.cells old t f)) (ht:t≠63∧t≠45∧t≠121) (hg:w1.grownBy w2 (some q)) (hw:w.heap.size≤q):NdOwn w w2 cs n:=by
 obtain⟨vI,vK,vV,rfl,mI,mK,mV⟩:=h
 exact⟨_,_,_,rfl,mI.grownQ hg hw (mI.off hq ht.1),mK.grownQ hg hw (mK.off hq ht.2.1),mV.grownQ hg hw (mV.off hq ht.2.2)⟩
theorem NdOwn.one {w w1:World}{cs:Array Value}{n:Nd}(h:NdOwn w w1 cs n):cs.size=4∧cs.all (·.oneCell')=true:=by
 obtain⟨vI,vK,vV,rfl,mI,mK,mV⟩:=h
 obtain⟨A1,c1,rfl,_,_,_⟩:=mI.ls It.enc_len
 obtain⟨A2,c2,rfl,_,_,_⟩:=mK.ls ecK_len
 obtain⟨A3,c3,rfl,_,_,_⟩:=mV.ls ecV_len
 exact⟨rfl,four_cells _ _ _ _ rfl rfl rfl rfl⟩
abbrev zN:Array Value:=#[.int .u8 0,zS,zS,zS]
theorem info4 {cs:Array Value}(h:cs.size=4):(Tryz.prog.info? 31).map (·.size)=some cs.size:=by rw [h];kernel_rfl
theorem dec_cases (d:List UInt8):(openL d=none∧decN d=none)∨∃ l,openL d=some l∧(((tkN l).2=false∧decN d=none)∨((tkN l).2=true∧ckN (tkN l).1≠0∧decN d=none)∨((tkN l).2=true∧ckN (tkN l).1=0∧decN d=some (tkN l).1)):=by
 unfold decN
 cases h:openL d with
 | none=>exact .inl ⟨rfl,rfl⟩
 | some l =>
  right
  refine⟨l,rfl,?_⟩
  dsimp only
  cases h2:(tkN l).2
  ·exact .inl ⟨rfl,if_neg (by simp)⟩
  ·by_cases h3:ckN (tkN l).1=0
   ·exact .inr (.inr ⟨rfl,h3,if_pos ⟨rfl,h3⟩⟩)
   ·exact .inr (.inl ⟨rfl,h3,if_neg (by simp [h3])⟩)
def DePost (d:ByteArray) (w:World) (e:Ending) (w':World):Prop:=∃ n cs,e=.returned (.tuple #[.agg cs,.int .i64 (if (decN d.data.toList).isSome then 0 else 9)])∧NdOwn w w' cs n∧n=(decN d.data.toList).getD ⟨0,[],[],[]⟩
theorem de_none {d:ByteArray}{w w':World}{e:Ending}(h:decN d.data.toList=none) (he:e=.returned (.tuple #[.agg zN,.int .i64 9])) (hb:Below w.heap.size w w'):DePost d w e w':=by
 subst he
 unfold DePost
 rw [h]
 exact⟨⟨0,[],[],[]⟩,zN,rfl,⟨_,_,_,rfl,Mk.nil hb,Mk.nil hb,Mk.nil hb⟩,rfl⟩
theorem de_some {d:ByteArray}{w w':World}{e:Ending}{n:Nd}{cs:Array Value}(h:decN d.data.toList=some n) (he:e=.returned (.tuple #[.agg cs,.int .i64 0])) (hb:NdOwn w w' cs n):DePost d w e w':=by
 subst he
 unfold DePost
 rw [h]
 exact⟨n,cs,rfl,hb,rfl⟩
set_option maxRecDepth 100000 in
set_option maxHeartbeats 4000000 in
theorem decode_any (d:ByteArray) (hd:d.size≤9223372036854775807) (w:World):Calls Tryz.prog 90 #[.string d] w (DePost d w):=by
 have HOP:=hid (fun w=>opened_any d hd w)
 have HR0:=hid (heap_alloc_new w (.cells zN 31))
 have HB0:=hid (show Below w.heap.size w (w.alloc (.cells zN 31)) from (Below.refl _ _).alloc (Nat.le_refl _) _)
 rcases dec_cases d.data.toList with ⟨ho,hdn⟩ | ⟨l,ho,hrest⟩
 ·have HD:=hid hdn
  have HO:=hid ho
  clear ho hdn
  go_enter Tryz.func90,Tryz.ntmps90
  go_wp2_with fail
  generalize w.alloc _=w0 at *
  go_at_call 120
  refine (HOP.out _).mono ?_
  rintro e w3 ⟨r,rfl,hr,hb3⟩
  have HB3:=hid (HB0.out.trans (hb3.mono HB0.out.size))
  have HR3:=hid ((hb3.block _ (row_lt HR0.out)).trans HR0.out)
  have q:(openL d.data.toList).isSome=false:=by rw [HO.out];rfl
  clear hr hb3
  rw [q]
  clear q
  go_wp2_with (first
   | (refine wpList_store_row rfl 31 (.tmp 2) (.tmp 14) rfl w.heap.size zN rfl rfl 31 zN HR3.out (info4 rfl) rfl (four_cells _ _ _ _ rfl rfl rfl rfl) ?_))
  have hg2:=setRow_heap' (cs:=zN) HR3.out
  refine bodyPost_ret (v:=.tuple #[.agg zN,.int .i64 9]) (results_row2 rfl _ _ w.heap.size 31 zN (0,0) _ rfl hg2 Tryz.underlying31 rfl (info4 rfl) _ rfl) rfl ?_
  exact de_none HD.out rfl (HB3.out.grown (grown_setRow _ w.heap.size zN) HB3.out.size (fun k hk=>by cases hk;exact Nat.le_refl _))
 ·have HO:=hid ho
  have hll:l.length≤512:=by
   have:=seal_open ho
   omega
  have HTK:=hid (fun w=>taken_any (bs l) (by rw [bs_size];unfold maxLen;omega) w)
  rw [bs_data] at HTK
  have hfine:=tkN_fine l
  have HCK:=hid (fun (w':World) (cs:Array Value) (h:NdOwn w w' cs (tkN l).1)=>check_any (tkN l).1 hfine.1 cs w' (h.at_ (by omega) (by omega) (by omega)))
  clear hfine hll ho
  rcases hrest with ⟨h2,hdn⟩ | ⟨h2,h3,hdn⟩ | ⟨h2,h3,hdn⟩
  ·have HT2:=hid h2
   have HD:=hid hdn
   clear h2 hdn
   go_enter Tryz.func90,Tryz.ntmps90
   go_wp2_with fail
   generalize w.alloc _=w0 at *
   go_at_call 120
   refine (HOP.out _).mono ?_
   rintro e w3 ⟨r,rfl,hr,hb3⟩
   have HB3:=hid (HB0.out.trans (hb3.mono HB0.out.size))
   have HR3:=hid ((hb3.block _ (row_lt HR0.out)).trans HR0.out)
   have q:(openL d.data.toList).isSome=true:=by rw [HO.out];rfl
   have hrl:=hr l HO.out
   subst hrl
   clear hr hb3
   rw [q]
   clear q
   go_wp2_with (first
    | (go_at_call 121;refine (HTK.out _).mono ?_;rintro e w4 ⟨cs,rfl,hown4⟩;have HO4:=hid hown4;have HR4:=hid ((hown4.bel.block _ (row_lt HR3.out)).trans HR3.out);have HB4:=hid (HB3.out.trans (hown4.bel.mono HB3.out.size));clear hown4;rw [HT2.out])
    | (refine wpList_fresh rfl 31 (.tmp 6) (.tmp 18) rfl cs _ _ rfl rfl (info4 HO4.out.one.1) HO4.out.one.1.symm HO4.out.one.2 ?_;intro w5 hb5 hr5 hz5;have HO5:=hid ((HO4.out.go hb5).since HB3.out);have HR5:=hid ((hb5.block _ (row_lt HR4.out)).trans HR4.out);have HB5:=hid (HB4.out.trans (hb5.mono HB4.out.size));have HN5:=hid hr5;have HL5:=hid (show w.heap.size<w4.heap.size from row_lt HR4.out);clear hb5 hr5 hz5)
    | (refine wpList_store_row rfl 31 (.tmp 2) (.tmp 27) rfl w.heap.size zN rfl rfl 31 zN HR5.out (info4 rfl) rfl (four_cells _ _ _ _ rfl rfl rfl rfl) ?_))
   have hg2:=setRow_heap' (cs:=zN) HR5.out
   refine bodyPost_ret (v:=.tuple #[.agg zN,.int .i64 9]) (results_row2 rfl _ _ w.heap.size 31 zN (0,0) _ rfl hg2 Tryz.underlying31 rfl (info4 rfl) _ rfl) rfl ?_
   exact de_none HD.out rfl (HB5.out.grown (grown_setRow _ w.heap.size zN) HB5.out.size (fun k hk=>by cases hk;exact Nat.le_refl _))
  ·have HT2:=hid h2
   have HD:=hid hdn
   have q3:((ckN (tkN l).1:Int) != 0)=true:=by rw [bne_iff_ne];exact h3
   clear h2 hdn h3
   generalize ckN (tkN l).1=C at *
   go_enter Tryz.func90,Tryz.ntmps90
   go_wp2_with fail
   generalize w.alloc _=w0 at *
   go_at_call 120
   refine (HOP.out _).mono ?_
   rintro e w3 ⟨r,rfl,hr,hb3⟩
   have HB3:=hid (HB0.out.trans (hb3.mono HB0.out.size))
   have HR3:=hid ((hb3.block _ (row_lt HR0.out)).trans HR0.out)
   have q:(openL d.data.toList).isSome=true:=by rw [HO.out];rfl
   have hrl:=hr l HO.out
   subst hrl
   clear hr hb3
   rw [q]
   clear q
   go_wp2_with (first
    | (go_at_call 121;refine (HTK.out _).mono ?_;rintro e w4 ⟨cs,rfl,hown4⟩;have HO4:=hid hown4;have HR4:=hid ((hown4.bel.block _ (row_lt HR3.out)).trans HR3.out);have HB4:=hid (HB3.out.trans (hown4.bel.mono HB3.out.size));clear hown4;rw [HT2.out])
    | (refine wpList_fresh rfl 31 (.tmp 6) (.tmp 18) rfl cs _ _ rfl rfl (info4 HO4.out.one.1) HO4.out.one.1.symm HO4.out.one.2 ?_;intro w5 hb5 hr5 hz5;have HO5:=hid ((HO4.out.go hb5).since HB3.out);have HR5:=hid ((hb5.block _ (row_lt HR4.out)).trans HR4.out);have HB5:=hid (HB4.out.trans (hb5.mono HB4.out.size));have HN5:=hid hr5;have HL5:=hid (show w.heap.size<w4.heap.size from row_lt HR4.out);clear hb5 hr5 hz5)
    | (refine wpList_load_row_g 31 (.tmp 6) rfl (by kernel_rfl) w4.heap.size rfl 31 cs (0,0) _ HN5.out Tryz.underlying31 rfl (info4 HO4.out.one.1) ?_)
    | (go_at_call 55;refine (HCK.out _ _ HO5.out).mono ?_;rintro e w6 ⟨rfl,hb6⟩;have HO6:=hid (HO5.out.go hb6);have HR6:=hid ((hb6.block _ (row_lt HR5.out)).trans HR5.out);have HN6:=hid ((hb6.block _ (row_lt HN5.out)).trans HN5.out);have HB6:=hid (HB5.out.trans (hb6.mono HB5.out.size));clear hb6)
    | (refine wpList_store_row rfl 31 (.tmp 2) (.tmp 27) rfl w.heap.size zN rfl rfl 31 zN HR6.out (info4 rfl) rfl (four_cells _ _ _ _ rfl rfl rfl rfl) ?_))
   have hg2:=setRow_heap' (cs:=zN) HR6.out
   refine bodyPost_ret (v:=.tuple #[.agg zN,.int .i64 9]) (results_row2 rfl _ _ w.heap.size 31 zN (0,0) _ rfl hg2 Tryz.underlying31 rfl (info4 rfl) _ rfl) rfl ?_
   exact de_none HD.out rfl (HB6.out.grown (grown_setRow _ w.heap.size zN) HB6.out.size (fun k hk=>by cases hk;exact Nat.le_refl _))
  ·have HT2:=hid h2
   have HD:=hid hdn
   rw [h3] at HCK
   clear h2 hdn h3
   go_enter Tryz.func90,Tryz.ntmps90
   go_wp2_with fail
   generalize w.alloc _=w0 at *
   go_at_call 120
   refine (HOP.out _).mono ?_
   rintro e w3 ⟨r,rfl,hr,hb3⟩
   have HB3:=hid (HB0.out.trans (hb3.mono HB0.out.size))
   have HR3:=hid ((hb3.block _ (row_lt HR0.out)).trans HR0.out)
   have q:(openL d.data.toList).isSome=true:=by rw [HO.out];rfl
   have hrl:=hr l HO.out
   subst hrl
   clear hr hb3
   rw [q]
   clear q
   go_wp2_with (first
    | (go_at_call 121;refine (HTK.out _).mono ?_;rintro e w4 ⟨cs,rfl,hown4⟩;have HO4:=hid hown4;have HR4:=hid ((hown4.bel.block _ (row_lt HR3.out)).trans HR3.out);have HB4:=hid (HB3.out.trans (hown4.bel.mono HB3.out.size));clear hown4;rw [HT2.out])
    | (refine wpList_fresh rfl 31 (.tmp 6) (.tmp 18) rfl cs _ _ rfl rfl (info4 HO4.out.one.1) HO4.out.one.1.symm HO4.out.one.2 ?_;intro w5 hb5 hr5 hz5;have HO5:=hid ((HO4.out.go hb5).since HB3.out);have HR5:=hid ((hb5.block _ (row_lt HR4.out)).trans HR4.out);have HB5:=hid (HB4.out.trans (hb5.mono HB4.out.size));have HN5:=hid hr5;have HL5:=hid (show w.heap.size<w4.heap.size from row_lt HR4.out);clear hb5 hr5 hz5)
    | (refine wpList_load_row_g 31 (.tmp 6) rfl (by kernel_rfl) w4.heap.size rfl 31 cs (0,0) _ HN5.out Tryz.underlying31 rfl (info4 HO4.out.one.1) ?_)
    | (go_at_call 55;refine (HCK.out _ _ HO5.out).mono ?_;rintro e w6 ⟨rfl,hb6⟩;have HO6:=hid (HO5.out.go hb6);have HR6:=hid ((hb6.block _ (row_lt HR5.out)).trans HR5.out);have HN6:=hid ((hb6.block _ (row_lt HN5.out)).trans HN5.out);have HB6:=hid (HB5.out.trans (hb6.mono HB5.out.size));clear hb6)
    | (refine wpList_load_row rfl 31 (.tmp 6) rfl w4.heap.size rfl 31 cs (0,0) _ HN6.out Tryz.underlying31 rfl (info4 HO4.out.one.1) ?_)
    | (refine wpList_store_row rfl 31 (.tmp 2) (.tmp 28) rfl w.heap.size cs rfl rfl 31 zN HR6.out (info4 HO4.out.one.1) HO4.out.one.1.symm HO4.out.one.2 ?_))
   have hg2:=setRow_heap' (cs:=cs) HR6.out
   refine bodyPost_ret (v:=.tuple #[.agg cs,.int .i64 0]) (results_row2 rfl _ _ w.heap.size 31 cs (0,0) _ rfl hg2 Tryz.underlying31 rfl (info4 HO4.out.one.1) _ rfl) rfl ?_
   exact de_some HD.out rfl (HO6.out.beside HR6.out (by decide) (grown_setRow _ w.heap.size cs) (Nat.le_refl _))
set_option linter.unusedVariables false
set_option linter.unusedSimpArgs false
open Go.ChangeShapes Go.WideShapes Go.ChangeAt Go.RowKit
open Ar Rg
open BigFrame
open Pk (be num be_length u8s u8s_length)
open It (str_le below_drewN)
def nmK (x:Kd):Kd:=⟨⟨#[]⟩,x.n,x.hs⟩
def nmV (x:Vo):Kd:=⟨⟨#[]⟩,x.rt,x.hs⟩
def isV (x:Vo):Bool:=decide (x.rt≠0)
def nmN (n:Nd):List Kd:=if n.kd=2 then n.K.map nmK else if n.kd=3 then (n.V.filter isV).map nmV else []
theorem kid_built (y:Kd) (hk:y.k=⟨#[]⟩) (hl:y.hs.length=32):List.foldl (fun (cs:Array Value) (x:Value×Nat)=>cs.setIfInBounds (2+x.snd) x.fst) #[.string ⟨#[]⟩,.int .u32 (y.n:Int),.int .u8 0,.int .u8 0,.int .u8 0,.int .u8 0,.int .u8 0,.int .u8 0,.int .u8 0,.int .u8 0,.int .u8 0,.int .u8 0,.int .u8 0,.int .u8 0,.int .u8 0,.int .u8 0,.int .u8 0,.int .u8 0,.int .u8 0,.int .u8 0,.int .u8 0,.int .u8 0,.int .u8 0,.int .u8 0,.int .u8 0,.int .u8 0,.int .u8 0,.int .u8 0,.int .u8 0,.int .u8 0,.int .u8 0,.int .u8 0,.int .u8 0,.int .u8 0] (u8s y.hs).zipIdx=(ecK y).toArray:=by
 have:=fold_put (u8s y.hs) (zH.toList) [.string ⟨#[]⟩,.int .u32 (y.n:Int)] 2 0 (by rw [u8s_length,hl];rfl) rfl
 unfold ecK
 rw [fix_of hl,hk]
 exact this
theorem map_snoc {α β:Type}(f:α→β){D:List α}{i:Nat}{x:α}(h:D[i]?=some x):(D.take (i+1)).map f=(D.take i).map f++[f x]:=by
 obtain⟨hk,e⟩:=List.getElem?_eq_some_iff.1 h
 rw [List.take_succ_eq_append_getElem hk,e,List.map_append];rfl
theorem filt_snoc {D:List Vo}{i:Nat}{x:Vo}(h:D[i]?=some x):((D.take (i+1)).filter isV).map nmV=((D.take i).filter isV).map nmV++(if isV x then [nmV x] else []):=by
 obtain⟨hk,e⟩:=List.getElem?_eq_some_iff.1 h
 rw [List.take_succ_eq_append_getElem hk,e,List.filter_append,List.map_append]
 congr 1
 by_cases hx:isV x=true
 ·simp [List.filter_cons,hx]
 ·simp [List.filter_cons,hx]
theorem arr_info (l:List UInt8) (h:l.length=32):(Tryz.prog.info? 43).map (·.size)=some (u8s l).length:=by rw [u8s_length,h];kernel_rfl
set_option maxRecDepth 100000 in
set_option maxHeartbeats 8000000 in
theorem named_any (n:Nd) (hw:Wd n) (hs1:n.K.length≤2513169434915) (hs2:n.V.length≤2513169434915) (cs:Array Value) (w:World) (hn:NdAt w cs n) :
  Calls Tryz.prog 61 #[.agg cs] w fun e w'=>∃ v,e=.returned v∧MkK w w' v (nmN n):=by
 obtain⟨AI,nI,dI,AK,nK,dK,AV,nV,dV,rfl,hI,hK,hV,bI,bK,bV,lI,lK,lV⟩:=hn
 obtain⟨kd,I,K,V⟩:=n
 obtain⟨wK,wV⟩:=hw
 dsimp only at hI hK hV lI lK lV wK wV hs1 hs2 ⊢
 have HB0:=hid (show Below w.heap.size w (w.alloc (.cells #[.int .u8 (kd:Int),.slice AI nI dI,.slice AK nK dK,.slice AV nV dV] 31)) from (Below.refl _ _).alloc (Nat.le_refl _) _)
 by_cases h2:kd=2
 ·have q2:((kd:Int)==2)=true:=by rw [h2];rfl
  have HX:=hid (show nmN ⟨kd,I,K,V⟩=K.map nmK by unfold nmN;rw [if_pos h2])
  have HWX:=hid (show ∀ x∈K,x.hs.length=32 from fun x hx=>(wK x hx).2)
  have HSM:=hid (show nK≤2513169434915 by rw [hK];exact hs1)
  have HK:=hid hK
  have HLX:=hid lK
  clear h2 hI hK hV lI lK lV wK wV hs1 hs2
  go_enter Tryz.func61,Tryz.ntmps61
  go_wp2_with fail
  generalize w.alloc _=w0 at *
  go_loopw [3,15] (fun av v wr=>∃ (i:Nat) (D:List Kd),i≤nK∧v=.int .i64 i∧Hid (D=(K.take i).map nmK)∧Hid (D.length≤i)∧Hid (MkK w wr av D)) (fun _ v _=>nK-(intOf v).toNat)
  case atStart=>exact⟨0,[],Nat.zero_le _,by go_num,rfl,Nat.le_refl _,Mk.nil HB0.out⟩
  case round =>
   obtain⟨i,D,hi,rfl,hD,hDl,hmk⟩:=hrel
   by_cases hlt:i<nK
   ·obtain⟨x,hx⟩:∃ x,K[i]?=some x:=⟨_,List.getElem?_eq_getElem (by rw [← HK.out];exact hlt)⟩
    have HXL:=hid (HWX.out x (List.mem_of_getElem? hx))
    have HDL:=hid (show D.length≤2513169434915 by have h:=Hid.out hDl;have:=HSM.out;omega)
    obtain⟨b,o,hAe,hb,hr⟩:=(HLX.out.below (Hid.out hmk).2) i x hx
    have hbs:b<wr.heap.size:=Nat.lt_of_lt_of_le hb (Hid.out hmk).2.size
    have HRG:=hid hr
    have HM:=hid (Hid.out hmk)
    have HAI:=hid (arr_info x.hs HXL.out)
    have HXX:=hid hx
    obtain⟨y,hy⟩:∃ y,nmK x=y:=⟨_,rfl⟩
    have hb1:=kid_built y (by rw [← hy];rfl) (by rw [← hy];exact HXL.out)
    rw [show y.n=x.n by rw [← hy];rfl,show y.hs=x.hs by rw [← hy];rfl] at hb1
    have HY:=hid hy
    have hz1:(u8s x.hs).length=32:=by rw [u8s_length,HXL.out]
    have hz2:x.hs.length=32:=HXL.out
    clear hr hx hmk hy
    subst hAe
    have HDN:=hid (show D++[y]=(K.take (i+1)).map nmK by rw [map_snoc nmK HXX.out,← Hid.out hD,HY.out])
    have HLN:=hid (show (D++[y]).length≤i+1 by rw [List.length_append];have h:=Hid.out hDl;simp;exact h)
    go_wp2_with (first
     | (refine wpList_load_at rfl 45 (.tmp 17) rfl b (o+i*34) rfl (ecK x) _ HRG.out Tryz.underlying45 rfl (infoKs x) ?_)
     | (refine wpList_fresh rfl 45 (.tmp 5) (.tmp 18) rfl (ecK x).toArray _ _ rfl rfl (infoKa x) (ecK_sz x) (all_of_one (ecK_one x)) ?_;intro W hb1 hr1 hz1;have HM1:=hid (HM.out.go hb1);have c0:W.cell? ⟨wr.heap.size,1,none⟩=some (.int .u32 x.n):=cell_of_row _ _ 1 _ _ _ hr1;have HRH:=hid (show W.rangeAt wr.heap.size 2 (u8s x.hs) from rangeAt_row hr1 (fun a v hv=>by unfold ecK;rw [fix_of HXL.out,List.getElem?_toArray,Nat.add_comm 2 a];exact hv));clear hr1 hz1 hb1 HM HRG)
     | (refine wpList_load_at rfl 43 (.tmp 22) rfl wr.heap.size 2 rfl (u8s x.hs) _ HRH.out Tryz.underlying43 rfl HAI.out ?_)
     | (refine wpList_plain rfl (fun K1 hK1=>op_oneK (.tmp 24) y rfl rfl (hK1 _ _ ?_));have hal:Below W.heap.size W (W.alloc (.cells (ecK y).toArray 45)):=(Below.refl _ _).alloc (Nat.le_refl _) _;have HM2:=hid (HM1.out.go hal);have HX2:=hid (heap_alloc_new W (.cells (ecK y).toArray 45));clear hal HM1)
     | (refine wpList_plain rfl (fun K1 hK1=>op_catK HM2.out y W.heap.size 1 HX2.out (by have:=HDL.out;omega) (.tmp 19) (.tmp 25) rfl rfl rfl (fun v5 w5 hm5 hg5 hat5=>hK1 _ _ ?_));obtain⟨A5,n5,c5,rfl⟩:∃ A n c,v5=.slice A n c:=(by obtain⟨A,c,h,_⟩:=hm5.ls ecK_len;exact⟨A,_,c,h⟩);have HM5:=hid hm5;clear hm5 hg5 hat5))
    exact⟨⟨i+1,D++[y],by omega,by go_num,HDN.out,HLN.out,HM5.out⟩,by simp [intOf]<;>omega⟩
   ·have HE:=hid (show D=(K).map nmK by have h:=Hid.out hD;rwa [List.take_of_length_le (by rw [← HK.out];omega)] at h)
    have HM:=hid (Hid.out hmk)
    clear hD hmk
    go_wp2
    go_ret
    exact⟨_,rfl,by rw [HX.out,← HE.out];exact HM.out⟩
 ·have q2:((kd:Int)==2)=false:=by rw [beq_eq_false_iff_ne];omega
  by_cases h3:kd=3
  ·have q3:((kd:Int)==3)=true:=by rw [h3];rfl
   have HX:=hid (show nmN ⟨kd,I,K,V⟩=(V.filter isV).map nmV by unfold nmN;rw [if_neg h2,if_pos h3])
   have HWX:=hid (show ∀ x∈V,x.hs.length=32 from fun x hx=>(wV x hx).2.2.2)
   have HSM:=hid (show nV≤2513169434915 by rw [hV];exact hs2)
   have HV:=hid hV
   have HLX:=hid lV
   clear h2 h3 hI hK hV lI lK lV wK wV hs1 hs2
   go_enter Tryz.func61,Tryz.ntmps61
   go_wp2_with fail
   generalize w.alloc _=w0 at *
   go_loopw [3,33] (fun av v wr=>∃ (i:Nat) (D:List Kd),i≤nV∧v=.int .i64 i∧Hid (D=((V.take i).filter isV).map nmV)∧Hid (D.length≤i)∧Hid (MkK w wr av D)) (fun _ v _=>nV-(intOf v).toNat)
   case atStart=>exact⟨0,[],Nat.zero_le _,by go_num,rfl,Nat.le_refl _,Mk.nil HB0.out⟩
   case round =>
    obtain⟨i,D,hi,rfl,hD,hDl,hmk⟩:=hrel
    by_cases hlt:i<nV
    ·obtain⟨x,hx⟩:∃ x,V[i]?=some x:=⟨_,List.getElem?_eq_getElem (by rw [← HV.out];exact hlt)⟩
     have HXL:=hid (HWX.out x (List.mem_of_getElem? hx))
     have HDL:=hid (show D.length≤2513169434915 by have h:=Hid.out hDl;have:=HSM.out;omega)
     obtain⟨b,o,hAe,hb,hr⟩:=(HLX.out.below (Hid.out hmk).2) i x hx
     have hbs:b<wr.heap.size:=Nat.lt_of_lt_of_le hb (Hid.out hmk).2.size
     have HRG:=hid hr
     have HM:=hid (Hid.out hmk)
     have HAI:=hid (arr_info x.hs HXL.out)
     have HXX:=hid hx
     obtain⟨y,hy⟩:∃ y,nmV x=y:=⟨_,rfl⟩
     have hb1:=kid_built y (by rw [← hy];rfl) (by rw [← hy];exact HXL.out)
     rw [show y.n=x.rt by rw [← hy];rfl,show y.hs=x.hs by rw [← hy];rfl] at hb1
     have HY:=hid hy
     have hz1:(u8s x.hs).length=32:=by rw [u8s_length,HXL.out]
     have hz2:x.hs.length=32:=HXL.out
     clear hr hx hmk hy
     subst hAe
     by_cases hv0:x.rt=0
     ·have qv:((x.rt:Int) != 0)=false:=by rw [hv0];rfl
      have HDN:=hid (show D=((V.take (i+1)).filter isV).map nmV by rw [filt_snoc HXX.out,if_neg (by simp [isV,hv0]),List.append_nil];exact Hid.out hD)
      have HLN:=hid (show D.length≤i+1 from Nat.le_succ_of_le (Hid.out hDl))
      clear hv0
      go_wp2_with (first
       | (refine wpList_load_at rfl 121 (.tmp 35) rfl b (o+i*37) rfl (ecV x) _ HRG.out Tryz.underlying121 rfl (infoVs x) ?_)
       | (refine wpList_fresh rfl 121 (.tmp 7) (.tmp 36) rfl (ecV x).toArray _ _ rfl rfl (infoVa x) (ecV_sz x) (all_of_one (ecV_one x)) ?_;intro W hb1 hr1 hz1;have HM1:=hid (HM.out.go hb1);have c0:W.cell? ⟨wr.heap.size,4,none⟩=some (.int .u32 x.rt):=cell_of_row _ _ 4 _ _ _ hr1;have HRH:=hid (show W.rangeAt wr.heap.size 5 (u8s x.hs) from rangeAt_row hr1 (fun a v hv=>by unfold ecV;rw [fix_of HXL.out,List.getElem?_toArray,Nat.add_comm 5 a];exact hv));clear hr1 hz1 hb1 HM HRG))
      exact⟨⟨i+1,D,by omega,by go_num,HDN.out,HLN.out,HM1.out⟩,by simp [intOf]<;>omega⟩
     ·have qv:((x.rt:Int) != 0)=true:=by rw [bne_iff_ne];omega
      have HDN:=hid (show D++[y]=((V.take (i+1)).filter isV).map nmV by rw [filt_snoc HXX.out,if_pos (by simp [isV,hv0]),← Hid.out hD,HY.out])
      have HLN:=hid (show (D++[y]).length≤i+1 by rw [List.length_append];have h:=Hid.out hDl;simp;exact h)
      clear hv0
      go_wp2_with (first
       | (refine wpList_load_at rfl 121 (.tmp 35) rfl b (o+i*37) rfl (ecV x) _ HRG.out Tryz.underlying121 rfl (infoVs x) ?_)
       | (refine wpList_fresh rfl 121 (.tmp 7) (.tmp 36) rfl (ecV x).toArray _ _ rfl rfl (infoVa x) (ecV_sz x) (all_of_one (ecV_one x)) ?_;intro W hb1 hr1 hz1;have HM1:=hid (HM.out.go hb1);have c0:W.cell? ⟨wr.heap.size,4,none⟩=some (.int .u32 x.rt):=cell_of_row _ _ 4 _ _ _ hr1;have HRH:=hid (show W.rangeAt wr.heap.size 5 (u8s x.hs) from rangeAt_row hr1 (fun a v hv=>by unfold ecV;rw [fix_of HXL.out,List.getElem?_toArray,Nat.add_comm 5 a];exact hv));clear hr1 hz1 hb1 HM HRG)
       | (refine wpList_load_at rfl 43 (.tmp 43) rfl wr.heap.size 5 rfl (u8s x.hs) _ HRH.out Tryz.underlying43 rfl HAI.out ?_)
       | (refine wpList_plain rfl (fun K1 hK1=>op_oneK (.tmp 45) y rfl rfl (hK1 _ _ ?_));have hal:Below W.heap.size W (W.alloc (.cells (ecK y).toArray 45)):=(Below.refl _ _).alloc (Nat.le_refl _) _;have HM2:=hid (HM1.out.go hal);have HX2:=hid (heap_alloc_new W (.cells (ecK y).toArray 45));clear hal HM1)
       | (refine wpList_plain rfl (fun K1 hK1=>op_catK HM2.out y W.heap.size 1 HX2.out (by have:=HDL.out;omega) (.tmp 40) (.tmp 46) rfl rfl rfl (fun v5 w5 hm5 hg5 hat5=>hK1 _ _ ?_));obtain⟨A5,n5,c5,rfl⟩:∃ A n c,v5=.slice A n c:=(by obtain⟨A,c,h,_⟩:=hm5.ls ecK_len;exact⟨A,_,c,h⟩);have HM5:=hid hm5;clear hm5 hg5 hat5))
      exact⟨⟨i+1,D++[y],by omega,by go_num,HDN.out,HLN.out,HM5.out⟩,by simp [intOf]<;>omega⟩
    ·have HE:=hid (show D=((V).filter isV).map nmV by have h:=Hid.out hD;rwa [List.take_of_length_le (by rw [← HV.out];omega)] at h)
     have HM:=hid (Hid.out hmk)
     clear hD hmk
     go_wp2
     go_ret
     exact⟨_,rfl,by rw [HX.out,← HE.out];exact HM.out⟩
  ·have q3:((kd:Int)==3)=false:=by rw [beq_eq_false_iff_ne];omega
   have HX:=hid (show nmN ⟨kd,I,K,V⟩=[] by unfold nmN;rw [if_neg h2,if_neg h3])
   clear h2 h3 hI hK hV lI lK lV wK wV hs1 hs2
   go_enter Tryz.func61,Tryz.ntmps61
   go_wp2
   go_ret
   exact⟨_,rfl,by rw [HX.out];exact Mk.nil HB0.out⟩
def kdN (n:Nd):List Nat:=(nmN n).map (·.n)
open Pk (u8s u8s_length)
section
variable {α:Type}
def eqL (eq:α→α→Bool):List α→List α→Bool
 | [],[]=>true
 | a::A,b::B=>eq a b&&eqL eq A B
 | _,_=>false
theorem eqL_iff {eq:α→α→Bool}(h:∀ a b,eq a b=true↔a=b):∀ {A B:List α},eqL eq A B=true↔A=B
 | [],[]=>by simp [eqL]
 | [],_::_=>by simp [eqL]
 | _::_,[]=>by simp [eqL]
 | a::A,b::B=>by rw [eqL,Bool.and_eq_true,h,eqL_iff h,List.cons.injEq]
theorem eqL_no {eq:α→α→Bool}(h:∀ a b,eq a b=true↔a=b){A B:List α}(hne:A≠B):eqL eq A B=false:=by
 rw [Bool.eq_false_iff];exact fun e=>hne ((eqL_iff h).1 e)
theorem take_same {D E:List α}{i:Nat}{x:α}(h:D.take i=E.take i) (hx:D[i]?=some x) (hy:E[i]?=some x):D.take (i+1)=E.take (i+1):=by
 rw [List.take_add_one,List.take_add_one,h,hx,hy]
end
theorem bytes_eq {a b:ByteArray}:a.data.toList=b.data.toList↔a=b:=⟨fun h=>ByteArray.ext (Array.toList_inj.1 h),fun h=>by rw [h]⟩
theorem str_same (a b:ByteArray):(a.toList==b.toList)=decide (a=b):=by
 rw [ByteArray.toList_eq,ByteArray.toList_eq,Bool.eq_iff_iff,beq_iff_eq,decide_eq_true_iff];exact bytes_eq
def eqI (a b:It.Itm):Bool:=decide (a.k=b.k)&&decide (a.v=b.v)
def eqK (a b:Kd):Bool:=decide (a.k=b.k)&&(decide (a.n=b.n)&&decide (a.hs=b.hs))
def eqV (a b:Vo):Bool:=decide (a.nm=b.nm)&&(decide (a.kd=b.kd)&&(decide (a.fr=b.fr)&&(decide (a.bn=b.bn)&&(decide (a.rt=b.rt)&&decide (a.hs=b.hs)))))
theorem eqI_iff (a b:It.Itm):eqI a b=true↔a=b:=by
 obtain⟨a1,a2⟩:=a;obtain⟨b1,b2⟩:=b
 simp [eqI]
theorem eqK_iff (a b:Kd):eqK a b=true↔a=b:=by
 obtain⟨a1,a2,a3⟩:=a;obtain⟨b1,b2,b3⟩:=b
 simp [eqK]
theorem eqV_iff (a b:Vo):eqV a b=true↔a=b:=by
 obtain⟨a1,a2,a3,a4,a5,a6⟩:=a;obtain⟨b1,b2,b3,b4,b5,b6⟩:=b
 simp [eqV]
def eqN (a b:Nd):Bool:=decide (a.kd=b.kd)&&(eqL eqI a.I b.I&&(decide (a.K.length=b.K.length)&&(eqL eqV a.V b.V&&eqL eqK a.K b.K)))
theorem eqN_iff (a b:Nd):eqN a b=true↔a=b:=by
 obtain⟨a1,a2,a3,a4⟩:=a;obtain⟨b1,b2,b3,b4⟩:=b
 unfold eqN
 simp only [Bool.and_eq_true,eqL_iff eqI_iff,eqL_iff eqK_iff,eqL_iff eqV_iff,decide_eq_true_iff,Nd.mk.injEq]
 constructor
 ·rintro ⟨h1,h2,h3,h4,h5⟩;exact⟨h1,h2,h5,h4⟩
 ·rintro ⟨h1,h2,h3,h4⟩;exact⟨h1,h2,by rw [h3],h4,h3⟩
theorem plain9:Tryz.prog.plainKey 9=true:=by kernel_rfl
theorem plain32:Tryz.prog.plainKey 22=true:=by kernel_rfl
theorem plain64:Tryz.prog.plainKey 119=true:=by kernel_rfl
theorem plainVK:Tryz.prog.plainKey 118=true:=by kernel_rfl
theorem infoArr:∃ i,Tryz.prog.info? 43=some i:=Option.isSome_iff_exists.mp (by kernel_rfl)
theorem cellsArr:Tryz.prog.cellsOf 43=32:=by kernel_rfl
theorem part_arr (xs:Array Value) (off:Nat) (w:World):(part 43 xs off).run Tryz.prog w=.ok (.agg (xs.extract off (off+32))) w:=by
 obtain⟨i,hi⟩:=infoArr
 simp [part,isAgg,run_underlying Tryz.underlying43,run_sizeOf w hi,cellsArr]
theorem eq_arr_at {l m:List UInt8}(hl:l.length=32) (hm:m.length=32) (d:Nat) (w:World):(Op.equalIn (d+2) 43 (.agg (u8s l).toArray) (.agg (u8s m).toArray)).run Tryz.prog w=.ok (decide (l=m)) w:=by
 obtain⟨i,hi⟩:=info8u
 rw [run_equalIn_array (P:=Tryz.prog) w (d+1) _ _ Tryz.underlying43 hi,cells8]
 rw [eqItems_any d l m w _ (fun j hj=>by
  have hj2:j<32:=by simpa using hj
  exact⟨by omega,by omega⟩)]
 refine congrArg (fun b=>Result.ok b w) ?_
 rw [Bool.eq_iff_iff,List.all_eq_true,decide_eq_true_iff]
 constructor
 ·intro h
  apply List.ext_getElem?
  intro j
  by_cases hj:j<32
  ·simpa using h j (by simpa using hj)
  ·rw [List.getElem?_eq_none (by omega),List.getElem?_eq_none (by omega)]
 ·rintro rfl j _;simp
theorem extr (pre:List Value) (l:List UInt8) (h:l.length=32):(pre++u8s l).toArray.extract pre.length (pre.length+32)=(u8s l).toArray:=by
 apply Array.toList_inj.1
 rw [Array.toList_extract,List.extract_eq_take_drop]
 rw [show pre.length+32-pre.length=32 by omega]
 simp only [List.drop_left]
 exact List.take_of_length_le (by rw [u8s_length,h];exact Nat.le_refl _)
theorem int_same (a b:Nat):((a:Int)==(b:Int))=decide (a=b):=by rw [Bool.eq_iff_iff,beq_iff_eq,decide_eq_true_iff];omega
theorem kidFields : (Tryz.prog.fieldsOf 45).toList.map (fun f => (f.name, f.type, f.offset)) = [("Key", 9, 0), ("Num", 22, 1), ("Hash", 43, 2)] := by kernel_rfl
theorem volFields : (Tryz.prog.fieldsOf 121).toList.map (fun f => (f.name, f.type, f.offset)) = [("Name", 9, 0), ("Kind", 118, 1), ("From", 9, 2), ("Born", 119, 3), ("Root", 22, 4), ("Hash", 43, 5)] := by kernel_rfl
theorem eqF_cons {P : Program} {d off : Nat} {xs ys : Array Value} {f : Field} {fs : List Field} {w : World} {t : TypeId} {nm : String} {a b : Value} {q : Bool} (hn : (f.name, f.type, f.offset) = (nm, t, off)) (hne : nm ≠ "_") (ha : (part t xs off).run P w = .ok a w) (hb : (part t ys off).run P w = .ok b w) (hq : (Op.equalIn d t a b).run P w = .ok q w) :
  (Op.eqFields d xs ys (f::fs)).run P w=if q then (Op.eqFields d xs ys fs).run P w else .ok false w:=by
 simp only [Prod.mk.injEq] at hn
 obtain⟨rfl,rfl,rfl⟩:=hn
 simp only [Op.eqFields,if_pos hne,Sem.run_bind,ha,hb,hq,Result.andThen_ok]
 cases q<;>simp
theorem eqF_nil {P:Program}{d:Nat}{xs ys:Array Value}{w:World}:(Op.eqFields d xs ys []).run P w=.ok true w:=by simp [Op.eqFields]
theorem if_ok (q r:Bool) (w:World) (x:Result Bool) (h:x=.ok r w):(if q then x else .ok false w)=.ok (q&&r) w:=by cases q<;>simp [h]
set_option maxRecDepth 100000 in
theorem eq_kid (x y:Kd) (hx:x.hs.length=32) (hy:y.hs.length=32) (w:World):(Op.equalIn 10000 45 (.agg (ecK x).toArray) (.agg (ecK y).toArray)).run Tryz.prog w=.ok (eqK x y) w:=by
 rw [ecK_of hx,ecK_of hy,run_equalIn_struct (P:=Tryz.prog) w 9999 45 _ _ (by kernel_rfl) (by kernel_rfl)]
 have hf:=kidFields
 generalize (Tryz.prog.fieldsOf 45).toList=fs at *
 have hlf:fs.length=3:=by have:=congrArg List.length hf;simpa using this
 match fs,hlf,hf with
 | [f0,f1,f2],_,hf =>
  simp only [List.map_cons,List.map_nil,List.cons.injEq,and_true] at hf
  obtain⟨h0,h1,h2⟩:=hf
  rw [eqF_cons (q:=decide (x.k=y.k)) h0 (by decide) (run_part_plain (P:=Tryz.prog) w plain9 (v:=.string x.k) rfl) (run_part_plain (P:=Tryz.prog) w plain9 (v:=.string y.k) rfl) (by rw [run_equalIn_string (P:=Tryz.prog) w 9998 9 x.k y.k Tryz.underlying9,str_same])]
  refine if_ok _ _ _ _ ?_
  rw [eqF_cons (q:=decide (x.n=y.n)) h1 (by decide) (run_part_plain (P:=Tryz.prog) w plain32 (v:=.int .u32 (x.n:Int)) rfl) (run_part_plain (P:=Tryz.prog) w plain32 (v:=.int .u32 (y.n:Int)) rfl) (by rw [run_equalIn_int (P:=Tryz.prog) w 9998 22 .u32 .u32 (x.n:Int) (y.n:Int) Tryz.underlying22,int_same])]
  refine if_ok _ _ _ _ ?_
  have e1:=part_arr (encK x).toArray 2 w
  have e2:=part_arr (encK y).toArray 2 w
  rw [show (encK x).toArray.extract 2 (2+32)=(u8s x.hs).toArray from extr ([.string x.k,.int .u32 (x.n:Int)]) x.hs hx] at e1
  rw [show (encK y).toArray.extract 2 (2+32)=(u8s y.hs).toArray from extr ([.string y.k,.int .u32 (y.n:Int)]) y.hs hy] at e2
  rw [eqF_cons (q:=decide (x.hs=y.hs)) h2 (by decide) e1 e2 (eq_arr_at hx hy 9997 w),eqF_nil]
  cases decide (x.hs=y.hs)<;>rfl
set_option maxRecDepth 100000 in
theorem eq_vol (x y:Vo) (hx:x.hs.length=32) (hy:y.hs.length=32) (w:World):(Op.equalIn 10000 121 (.agg (ecV x).toArray) (.agg (ecV y).toArray)).run Tryz.prog w=.ok (eqV x y) w:=by
 rw [ecV_of hx,ecV_of hy,run_equalIn_struct (P:=Tryz.prog) w 9999 121 _ _ (by kernel_rfl) (by kernel_rfl)]
 have hf:=volFields
 generalize (Tryz.prog.fieldsOf 121).toList=fs at *
 have hlf:fs.length=6:=by have:=congrArg List.length hf;simpa using this
 match fs,hlf,hf with
 | [f0,f1,f2,f3,f4,f5],_,hf =>
  simp only [List.map_cons,List.map_nil,List.cons.injEq,and_true] at hf
  obtain⟨h0,h1,h2,h3,h4,h5⟩:=hf
  rw [eqF_cons (q:=decide (x.nm=y.nm)) h0 (by decide) (run_part_plain (P:=Tryz.prog) w plain9 (v:=.string x.nm) rfl) (run_part_plain (P:=Tryz.prog) w plain9 (v:=.string y.nm) rfl) (by rw [run_equalIn_string (P:=Tryz.prog) w 9998 9 x.nm y.nm Tryz.underlying9,str_same])]
  refine if_ok _ _ _ _ ?_
  rw [eqF_cons (q:=decide (x.kd=y.kd)) h1 (by decide) (run_part_plain (P:=Tryz.prog) w plainVK (v:=.int .u8 (x.kd:Int)) rfl) (run_part_plain (P:=Tryz.prog) w plainVK (v:=.int .u8 (y.kd:Int)) rfl) (by rw [run_equalIn_int (P:=Tryz.prog) w 9998 118 .u8 .u8 (x.kd:Int) (y.kd:Int) Tryz.underlying118,int_same])]
  refine if_ok _ _ _ _ ?_
  rw [eqF_cons (q:=decide (x.fr=y.fr)) h2 (by decide) (run_part_plain (P:=Tryz.prog) w plain9 (v:=.string x.fr) rfl) (run_part_plain (P:=Tryz.prog) w plain9 (v:=.string y.fr) rfl) (by rw [run_equalIn_string (P:=Tryz.prog) w 9998 9 x.fr y.fr Tryz.underlying9,str_same])]
  refine if_ok _ _ _ _ ?_
  rw [eqF_cons (q:=decide (x.bn=y.bn)) h3 (by decide) (run_part_plain (P:=Tryz.prog) w plain64 (v:=.int .u64 (x.bn:Int)) rfl) (run_part_plain (P:=Tryz.prog) w plain64 (v:=.int .u64 (y.bn:Int)) rfl) (by rw [run_equalIn_int (P:=Tryz.prog) w 9998 119 .u64 .u64 (x.bn:Int) (y.bn:Int) Tryz.underlying119,int_same])]
  refine if_ok _ _ _ _ ?_
  rw [eqF_cons (q:=decide (x.rt=y.rt)) h4 (by decide) (run_part_plain (P:=Tryz.prog) w plain32 (v:=.int .u32 (x.rt:Int)) rfl) (run_part_plain (P:=Tryz.prog) w plain32 (v:=.int .u32 (y.rt:Int)) rfl) (by rw [run_equalIn_int (P:=Tryz.prog) w 9998 22 .u32 .u32 (x.rt:Int) (y.rt:Int) Tryz.underlying22,int_same])]
  refine if_ok _ _ _ _ ?_
  have e1:=part_arr (encV x).toArray 5 w
  have e2:=part_arr (encV y).toArray 5 w
  rw [show (encV x).toArray.extract 5 (5+32)=(u8s x.hs).toArray from extr ([.string x.nm,.int .u8 (x.kd:Int),.string x.fr,.int .u64 (x.bn:Int),.int .u32 (x.rt:Int)]) x.hs hx] at e1
  rw [show (encV y).toArray.extract 5 (5+32)=(u8s y.hs).toArray from extr ([.string y.nm,.int .u8 (y.kd:Int),.string y.fr,.int .u64 (y.bn:Int),.int .u32 (y.rt:Int)]) y.hs hy] at e2
  rw [eqF_cons (q:=decide (x.hs=y.hs)) h5 (by decide) e1 e2 (eq_arr_at hx hy 9997 w),eqF_nil]
  cases decide (x.hs=y.hs)<;>rfl
set_option linter.unusedVariables false
set_option linter.unusedSimpArgs false
open Go.ChangeShapes Go.WideShapes Go.ChangeAt Go.RowKit
open Ar Rg
open BigFrame
open Pk (u8s u8s_length)
open It (str_le below_drewN)
theorem guardV:Tryz.prog.eqGuardType Tryz.prog.depth 121=false:=by kernel_rfl
theorem guardK:Tryz.prog.eqGuardType Tryz.prog.depth 45=false:=by kernel_rfl
theorem range_below {wr w':World}{b o:Nat}{l:List Value}(hr:wr.rangeAt b o l) (hb:b<wr.heap.size) (hS:Below wr.heap.size wr w'):w'.rangeAt b o l:=fun j v hv=>(hS.cell (p:=⟨b,_,none⟩) hb).trans (hr j v hv)
set_option maxRecDepth 100000 in
set_option maxHeartbeats 1000000 in
theorem sameI_any (D E:List It.Itm) (A A':Option Addr) (n c n' c' B B':Nat) (hn:n=D.length) (hn':n'=E.length) (hm:n≤281474976710656) (w:World) (hB:B≤w.heap.size) (hB':B'≤w.heap.size) (hD:Ls It.enc 2 w B A D) (hE:Ls It.enc 2 w B' A' E) :
  Calls Tryz.prog 40 #[.slice A n c,.slice A' n' c'] w fun e w'=>e=.returned (.bool (eqL eqI D E))∧Below w.heap.size w w':=by
 have HN:=hid hn
 have HN':=hid hn'
 have HD:=hid hD
 have HE:=hid hE
 clear hn hn' hD hE
 by_cases hl:n=n'
 ·subst hl
  go_enter Tryz.func40,Tryz.ntmps40
  go_wp2_with fail
  go_loopw [13] (fun v wr=>∃ i:Nat,i≤n∧v=.int .i64 i∧Hid (D.take i=E.take i)∧Hid (Below w.heap.size w wr)) (fun v _=>n-(intOf v).toNat)
  case atStart=>exact⟨0,Nat.zero_le _,by go_num,rfl,Below.refl _ _⟩
  case round =>
   obtain⟨i,hi,rfl,htk,hbel⟩:=hrel
   by_cases hlt:i<n
   ·obtain⟨x,hx⟩:∃ x,D[i]?=some x:=⟨_,List.getElem?_eq_getElem (by rw [← HN.out];exact hlt)⟩
    obtain⟨y,hy⟩:∃ y,E[i]?=some y:=⟨_,List.getElem?_eq_getElem (by rw [← HN'.out];exact hlt)⟩
    obtain⟨b,o,hAe,hb,hr⟩:=(HD.out.below ((Hid.out hbel).mono hB)) i x hx
    obtain⟨b',o',hAe',hb',hr'⟩:=(HE.out.below ((Hid.out hbel).mono hB')) i y hy
    have hc0:wr.cell? ⟨b,o+i*2,none⟩=some (.string x.k):=hr 0 _ rfl
    have hc1:wr.cell? ⟨b,o+i*2+1,none⟩=some (.string x.v):=hr 1 _ rfl
    have hd0:wr.cell? ⟨b',o'+i*2,none⟩=some (.string y.k):=hr' 0 _ rfl
    have hd1:wr.cell? ⟨b',o'+i*2+1,none⟩=some (.string y.v):=hr' 1 _ rfl
    clear hr hr'
    subst hAe hAe'
    by_cases hk:x.k=y.k
    ·have he0:(x.k.toList==y.k.toList)=true:=by rw [str_same];exact decide_eq_true hk
     by_cases hv:x.v=y.v
     ·have he1:(x.v.toList==y.v.toList)=true:=by rw [str_same];exact decide_eq_true hv
      have HT:=hid (take_same (Hid.out htk) hx ((show y=x by obtain⟨a1,a2⟩:=x;obtain⟨b1,b2⟩:=y;dsimp only at hk hv;rw [hk,hv])▸hy))
      clear htk hx hy hk hv
      go_wp2_with fail
      go_big_quiet (fail)
      have HB2:=hid (below_drewN (Hid.out hbel) nq)
      clear hbel
      generalize World.drewN _ _=W2 at *
      go_wp2
      exact⟨⟨i+1,by omega,by go_num,HT.out,HB2.out⟩,by simp [intOf]<;>omega⟩
     ·have he1:(x.v.toList==y.v.toList)=false:=by rw [str_same];exact decide_eq_false hv
      have HF:=hid (eqL_no eqI_iff (A:=D) (B:=E) fun e=>hv (by rw [e,hy] at hx;cases hx;rfl))
      clear htk hx hy hk hv
      go_wp2_with fail
      go_big_quiet (fail)
      have HB2:=hid (below_drewN (Hid.out hbel) nq)
      clear hbel
      generalize World.drewN _ _=W2 at *
      go_wp2
      go_ret
      exact⟨by rw [HF.out];rfl,HB2.out⟩
    ·have he0:(x.k.toList==y.k.toList)=false:=by rw [str_same];exact decide_eq_false hk
     have HF:=hid (eqL_no eqI_iff (A:=D) (B:=E) fun e=>hk (by rw [e,hy] at hx;cases hx;rfl))
     clear htk hx hy hk
     go_wp2_with fail
     go_big_quiet (fail)
     have HB2:=hid (below_drewN (Hid.out hbel) nq)
     clear hbel
     generalize World.drewN _ _=W2 at *
     go_wp2
     go_ret
     exact⟨by rw [HF.out];rfl,HB2.out⟩
   ·have HT:=hid (show eqL eqI D E=true from (eqL_iff eqI_iff).2 (by
     have h:=Hid.out htk
     rwa [List.take_of_length_le (by rw [← HN.out];omega),List.take_of_length_le (by rw [← HN'.out];omega)] at h))
    go_wp2
    go_ret
    exact⟨by rw [HT.out];rfl,Hid.out hbel⟩
 ·have hne:((n:Int) != (n':Int))=true:=by rw [bne_iff_ne];omega
  have HF:=hid (eqL_no eqI_iff (A:=D) (B:=E) fun e=>hl (by rw [HN.out,HN'.out,e]))
  go_enter Tryz.func40,Tryz.ntmps40
  go_wp2
  go_ret
  exact⟨by rw [HF.out];rfl,Below.refl _ _⟩
set_option maxRecDepth 100000 in
set_option maxHeartbeats 4000000 in
theorem sameV_any (D E:List Vo) (wD:∀ x∈D,x.hs.length=32) (wE:∀ x∈E,x.hs.length=32) (A A':Option Addr) (n c n' c' B B':Nat) (hn:n=D.length) (hn':n'=E.length) (hm:n≤281474976710656) (w:World) (hB:B≤w.heap.size) (hB':B'≤w.heap.size) (hD:Ls ecV 37 w B A D) (hE:Ls ecV 37 w B' A' E) :
  Calls Tryz.prog 41 #[.slice A n c,.slice A' n' c'] w fun e w'=>e=.returned (.bool (eqL eqV D E))∧Below w.heap.size w w':=by
 have HN:=hid hn
 have HN':=hid hn'
 have HD:=hid hD
 have HE:=hid hE
 have HWD:=hid wD
 have HWE:=hid wE
 clear hn hn' hD hE wD wE
 by_cases hl:n=n'
 ·subst hl
  go_enter Tryz.func41,Tryz.ntmps41
  go_wp2_with fail
  go_loopw [13] (fun v wr=>∃ i:Nat,i≤n∧v=.int .i64 i∧Hid (D.take i=E.take i)∧Hid (Below w.heap.size w wr)) (fun v _=>n-(intOf v).toNat)
  case atStart=>exact⟨0,Nat.zero_le _,by go_num,rfl,Below.refl _ _⟩
  case round =>
   obtain⟨i,hi,rfl,htk,hbel⟩:=hrel
   by_cases hlt:i<n
   ·obtain⟨x,hx⟩:∃ x,D[i]?=some x:=⟨_,List.getElem?_eq_getElem (by rw [← HN.out];exact hlt)⟩
    obtain⟨y,hy⟩:∃ y,E[i]?=some y:=⟨_,List.getElem?_eq_getElem (by rw [← HN'.out];exact hlt)⟩
    have HXL:=hid (HWD.out x (List.mem_of_getElem? hx))
    have HYL:=hid (HWE.out y (List.mem_of_getElem? hy))
    obtain⟨b,o,hAe,hb,hr⟩:=(HD.out.below ((Hid.out hbel).mono hB)) i x hx
    obtain⟨b',o',hAe',hb',hr'⟩:=(HE.out.below ((Hid.out hbel).mono hB')) i y hy
    have HRX:=hid hr
    have HRY:=hid hr'
    have HBX:=hid (Nat.lt_of_lt_of_le hb (Nat.le_trans hB (Hid.out hbel).size))
    have HBY:=hid (Nat.lt_of_lt_of_le hb' (Nat.le_trans hB' (Hid.out hbel).size))
    have HXX:=hid hx
    have HYY:=hid hy
    clear hr hr' hx hy hb hb'
    subst hAe hAe'
    have heq:=fun w=>eq_vol x y HXL.out HYL.out w
    have hgd:=guardV
    obtain⟨q,hq⟩:∃ q,eqV x y=q:=⟨_,rfl⟩
    rw [hq] at heq
    have HQ:=hid hq
    clear hq
    go_wp2_with fail
    refine wp_region_G (fun w'=>Below wr.heap.size wr w') (by kernel_rfl) (by kernel_rfl) (Below.refl _ _).drew ?_
    refine wpG_val (.slice (some ⟨b,o,none⟩) n c) rfl (by rfl) (fun w' hS=>by go_simp) ?_
    simp only [Gb2a,Gb2b,Gb2c]
    refine wpG_val (.int .i64 i) rfl (by rfl) (fun w' hS=>by go_simp) ?_
    simp only [Gb2a,Gb2b,Gb2c]
    refine wpG_val (.pointer (some ⟨b,o+i*37,none⟩)) rfl (by rfl) (fun w' hS=>by go_simp) ?_
    simp only [Gb2a,Gb2b,Gb2c]
    refine wpG_val (.agg (ecV x).toArray) rfl (by rfl) (fun w' hS=>load_run 121 (.tmp 18) rfl b (o+i*37) rfl (ecV x) _ (range_below HRX.out HBX.out hS) Tryz.underlying121 rfl (infoVs x)) ?_
    simp only [Gb2a,Gb2b,Gb2c]
    refine wpG_val (.slice (some ⟨b',o',none⟩) n c') rfl (by rfl) (fun w' hS=>by go_simp) ?_
    simp only [Gb2a,Gb2b,Gb2c]
    refine wpG_val (.int .i64 i) rfl (by rfl) (fun w' hS=>by go_simp) ?_
    simp only [Gb2a,Gb2b,Gb2c]
    refine wpG_val (.pointer (some ⟨b',o'+i*37,none⟩)) rfl (by rfl) (fun w' hS=>by go_simp) ?_
    simp only [Gb2a,Gb2b,Gb2c]
    refine wpG_val (.agg (ecV y).toArray) rfl (by rfl) (fun w' hS=>load_run 121 (.tmp 22) rfl b' (o'+i*37) rfl (ecV y) _ (range_below HRY.out HBY.out hS) Tryz.underlying121 rfl (infoVs y)) ?_
    simp only [Gb2a,Gb2b,Gb2c]
    refine wpG_val (.bool (!q)) rfl (by rfl) (fun w' hS=>by go_simp) ?_
    simp only [Gb2a,Gb2b,Gb2c]
    refine wpG_nil ?_
    intro w9 hS9
    have HB2:=hid ((Hid.out hbel).trans (hS9.mono (Hid.out hbel).size))
    clear hS9 hbel heq hgd
    cases q
    ·have HF:=hid (eqL_no eqV_iff (A:=D) (B:=E) fun e=>by
      have h1:=HYY.out
      rw [← e,HXX.out] at h1
      cases h1
      have h2:=(eqV_iff x x).2 rfl
      rw [HQ.out] at h2
      cases h2)
     clear htk
     go_wp2
     go_ret
     exact⟨by rw [HF.out];rfl,HB2.out⟩
    ·have HT:=hid (take_same (Hid.out htk) HXX.out (((eqV_iff x y).1 HQ.out)▸HYY.out))
     clear htk
     go_wp2
     exact⟨⟨i+1,by omega,by go_num,HT.out,HB2.out⟩,by simp [intOf]<;>omega⟩
   ·have HT:=hid (show eqL eqV D E=true from (eqL_iff eqV_iff).2 (by
     have h:=Hid.out htk
     rwa [List.take_of_length_le (by rw [← HN.out];omega),List.take_of_length_le (by rw [← HN'.out];omega)] at h))
    go_wp2
    go_ret
    exact⟨by rw [HT.out];rfl,Hid.out hbel⟩
 ·have hne:((n:Int) != (n':Int))=true:=by rw [bne_iff_ne];omega
  have HF:=hid (eqL_no eqV_iff (A:=D) (B:=E) fun e=>hl (by rw [HN.out,HN'.out,e]))
  go_enter Tryz.func41,Tryz.ntmps41
  go_wp2
  go_ret
  exact⟨by rw [HF.out];rfl,Below.refl _ _⟩
set_option maxRecDepth 100000 in
set_option maxHeartbeats 8000000 in
theorem same_any (n m:Nd) (hw:Wd n) (hv:Wd m) (cs ds:Array Value) (w:World) (hn:NdAt w cs n) (hm:NdAt w ds m) :
  Calls Tryz.prog 14 #[.agg cs,.agg ds] w fun e w'=>e=.returned (.bool (eqN n m))∧Below w.heap.size w w':=by
 obtain⟨AI,nI,dI,AK,nK,dK,AV,nV,dV,rfl,hI,hK,hV,bI,bK,bV,lI,lK,lV⟩:=hn
 obtain⟨BI,mI,eI,BK,mK,eK,BV,mV,eV,rfl,gI,gK,gV,aI,aK,aV,kI,kK,kV⟩:=hm
 obtain⟨kd,I,K,V⟩:=n
 obtain⟨kd',I',K',V'⟩:=m
 obtain⟨wK,wV⟩:=hw
 obtain⟨vK,vV⟩:=hv
 dsimp only at hI hK hV lI lK lV wK wV gI gK gV kI kK kV vK vV ⊢
 have hC1:=fun w' (hb:Below w.heap.size w w')=>sameI_any I I' AI BI nI dI mI eI w.heap.size w.heap.size hI gI bI w' hb.size hb.size (lI.below hb) (kI.below hb)
 have hC2:=fun w' (hb:Below w.heap.size w w')=>sameV_any V V' (fun x hx=>(wV x hx).2.2.2) (fun x hx=>(vV x hx).2.2.2) AV BV nV dV mV eV w.heap.size w.heap.size hV gV bV w' hb.size hb.size (lV.below hb) (kV.below hb)
 have HC1:=hid hC1
 have HC2:=hid hC2
 have HLK:=hid lK
 have HLM:=hid kK
 have HWK:=hid (show ∀ x∈K,x.hs.length=32 from fun x hx=>(wK x hx).2)
 have HVK:=hid (show ∀ x∈K',x.hs.length=32 from fun x hx=>(vK x hx).2)
 have HK:=hid hK
 have HM:=hid gK
 obtain⟨R1,R2,S0,Z0⟩:=two_new w #[.int .u8 (kd:Int),.slice AI nI dI,.slice AK nK dK,.slice AV nV dV] #[.int .u8 (kd':Int),.slice BI mI eI,.slice BK mK eK,.slice BV mV eV] 31 31
 have HR1:=hid R1
 have HR2:=hid R2
 have HS0:=hid S0
 obtain⟨R,hR⟩:∃ R,eqN ⟨kd,I,K,V⟩ ⟨kd',I',K',V'⟩=R:=⟨_,rfl⟩
 rw [hR]
 have HR:=hid hR
 unfold eqN at HR
 dsimp only at HR
 rw [← hK,← gK] at HR
 clear hR hC1 hC2 lI lK lV kI kK kV wK wV vK vV hI hK hV gI gK gV R1 R2 S0 Z0
 by_cases hkd:kd=kd'
 ·have q1:((kd:Int) != (kd':Int))=false:=by rw [bne_eq_false_iff_eq];omega
  cases hq:eqL eqI I I'
  ·rw [hq] at HC1 HR
   have HX:=hid (show R=false by rw [← HR.out];simp)
   clear hq HR hkd
   go_enter Tryz.func14,Tryz.ntmps14
   go_wp2_with (first
    | (go_at_call 40;refine (HC1.out _ HS0.out).mono ?_;rintro e w3 ⟨rfl,hb3⟩;have HB3:=hid (HS0.out.trans (hb3.mono HS0.out.size));have HR3:=hid ((hb3.block _ (row_lt HR1.out)).trans HR1.out);have HR4:=hid ((hb3.block _ (row_lt HR2.out)).trans HR2.out);have n2:w3.cell? ⟨w.heap.size,2,none⟩=some (.slice AK nK dK):=cell_of_row _ _ 2 _ _ _ HR3.out;have n3:w3.cell? ⟨w.heap.size,3,none⟩=some (.slice AV nV dV):=cell_of_row _ _ 3 _ _ _ HR3.out;have k2:w3.cell? ⟨w.heap.size+1,2,none⟩=some (.slice BK mK eK):=cell_of_row _ _ 2 _ _ _ HR4.out;have k3:w3.cell? ⟨w.heap.size+1,3,none⟩=some (.slice BV mV eV):=cell_of_row _ _ 3 _ _ _ HR4.out;clear hb3)
    | (go_at_call 41;refine (HC2.out _ HB3.out).mono ?_;rintro e w5 ⟨rfl,hb5⟩;have HB5:=hid (HB3.out.trans (hb5.mono HB3.out.size));have HR5:=hid ((hb5.block _ (row_lt HR3.out)).trans HR3.out);have HR6:=hid ((hb5.block _ (row_lt HR4.out)).trans HR4.out);have n5:w5.cell? ⟨w.heap.size,2,none⟩=some (.slice AK nK dK):=cell_of_row _ _ 2 _ _ _ HR5.out;clear hb5))
   go_ret
   exact⟨by rw [HX.out];rfl,HB3.out⟩
  ·rw [hq] at HC1 HR
   by_cases hlen:nK=mK
   ·have q2:((nK:Int) != (mK:Int))=false:=by rw [bne_eq_false_iff_eq];omega
    cases hq2:eqL eqV V V'
    ·rw [hq2] at HC2 HR
     have HX:=hid (show R=false by rw [← HR.out];simp)
     clear hq hq2 HR hkd hlen
     go_enter Tryz.func14,Tryz.ntmps14
     go_wp2_with (first
      | (go_at_call 40;refine (HC1.out _ HS0.out).mono ?_;rintro e w3 ⟨rfl,hb3⟩;have HB3:=hid (HS0.out.trans (hb3.mono HS0.out.size));have HR3:=hid ((hb3.block _ (row_lt HR1.out)).trans HR1.out);have HR4:=hid ((hb3.block _ (row_lt HR2.out)).trans HR2.out);have n2:w3.cell? ⟨w.heap.size,2,none⟩=some (.slice AK nK dK):=cell_of_row _ _ 2 _ _ _ HR3.out;have n3:w3.cell? ⟨w.heap.size,3,none⟩=some (.slice AV nV dV):=cell_of_row _ _ 3 _ _ _ HR3.out;have k2:w3.cell? ⟨w.heap.size+1,2,none⟩=some (.slice BK mK eK):=cell_of_row _ _ 2 _ _ _ HR4.out;have k3:w3.cell? ⟨w.heap.size+1,3,none⟩=some (.slice BV mV eV):=cell_of_row _ _ 3 _ _ _ HR4.out;clear hb3)
      | (go_at_call 41;refine (HC2.out _ HB3.out).mono ?_;rintro e w5 ⟨rfl,hb5⟩;have HB5:=hid (HB3.out.trans (hb5.mono HB3.out.size));have HR5:=hid ((hb5.block _ (row_lt HR3.out)).trans HR3.out);have HR6:=hid ((hb5.block _ (row_lt HR4.out)).trans HR4.out);have n5:w5.cell? ⟨w.heap.size,2,none⟩=some (.slice AK nK dK):=cell_of_row _ _ 2 _ _ _ HR5.out;clear hb5))
     go_ret
     exact⟨by rw [HX.out];rfl,HB5.out⟩
    ·rw [hq2] at HC2 HR
     have HX:=hid (show R=eqL eqK K K' by rw [← HR.out];simp [hkd,hlen])
     have HLEN:=hid hlen
     clear hq hq2 HR hkd hlen
     go_enter Tryz.func14,Tryz.ntmps14
     go_wp2_with (first
      | (go_at_call 40;refine (HC1.out _ HS0.out).mono ?_;rintro e w3 ⟨rfl,hb3⟩;have HB3:=hid (HS0.out.trans (hb3.mono HS0.out.size));have HR3:=hid ((hb3.block _ (row_lt HR1.out)).trans HR1.out);have HR4:=hid ((hb3.block _ (row_lt HR2.out)).trans HR2.out);have n2:w3.cell? ⟨w.heap.size,2,none⟩=some (.slice AK nK dK):=cell_of_row _ _ 2 _ _ _ HR3.out;have n3:w3.cell? ⟨w.heap.size,3,none⟩=some (.slice AV nV dV):=cell_of_row _ _ 3 _ _ _ HR3.out;have k2:w3.cell? ⟨w.heap.size+1,2,none⟩=some (.slice BK mK eK):=cell_of_row _ _ 2 _ _ _ HR4.out;have k3:w3.cell? ⟨w.heap.size+1,3,none⟩=some (.slice BV mV eV):=cell_of_row _ _ 3 _ _ _ HR4.out;clear hb3)
      | (go_at_call 41;refine (HC2.out _ HB3.out).mono ?_;rintro e w5 ⟨rfl,hb5⟩;have HB5:=hid (HB3.out.trans (hb5.mono HB3.out.size));have HR5:=hid ((hb5.block _ (row_lt HR3.out)).trans HR3.out);have HR6:=hid ((hb5.block _ (row_lt HR4.out)).trans HR4.out);have n5:w5.cell? ⟨w.heap.size,2,none⟩=some (.slice AK nK dK):=cell_of_row _ _ 2 _ _ _ HR5.out;clear hb5))
     go_loopw [39] (fun v wr=>∃ i:Nat,i≤nK∧v=.int .i64 i∧Hid (K.take i=K'.take i)∧Hid (Below w5.heap.size w5 wr)) (fun v _=>nK-(intOf v).toNat)
     case atStart=>exact⟨0,Nat.zero_le _,by go_num,rfl,Below.refl _ _⟩
     case round =>
      obtain⟨i,hi,rfl,htk,hbel⟩:=hrel
      have HBE:=hid (HB5.out.trans ((Hid.out hbel).mono HB5.out.size))
      by_cases hlt:i<nK
      ·have hlm:i<mK:=by have:=HLEN.out;omega
       obtain⟨x,hx⟩:∃ x,K[i]?=some x:=⟨_,List.getElem?_eq_getElem (by rw [← HK.out];exact hlt)⟩
       obtain⟨y,hy⟩:∃ y,K'[i]?=some y:=⟨_,List.getElem?_eq_getElem (by rw [← HM.out];exact hlm)⟩
       have HXL:=hid (HWK.out x (List.mem_of_getElem? hx))
       have HYL:=hid (HVK.out y (List.mem_of_getElem? hy))
       obtain⟨b,o,hAe,hb,hr⟩:=(HLK.out.below HBE.out) i x hx
       obtain⟨b',o',hAe',hb',hr'⟩:=(HLM.out.below HBE.out) i y hy
       have HRX:=hid hr
       have HRY:=hid hr'
       have HBX:=hid (Nat.lt_of_lt_of_le hb HBE.out.size)
       have HBY:=hid (Nat.lt_of_lt_of_le hb' HBE.out.size)
       have HXX:=hid hx
       have HYY:=hid hy
       clear hr hr' hx hy hb hb'
       subst hAe hAe'
       have HN2:=hid (show wr.cell? ⟨w.heap.size,2,none⟩=some (.slice (some ⟨b,o,none⟩) nK dK) from cell_of_row _ _ 2 _ _ _ (((Hid.out hbel).block _ (row_lt HR5.out)).trans HR5.out))
       have HK2:=hid (show wr.cell? ⟨w.heap.size+1,2,none⟩=some (.slice (some ⟨b',o',none⟩) mK eK) from cell_of_row _ _ 2 _ _ _ (((Hid.out hbel).block _ (row_lt HR6.out)).trans HR6.out))
       have HL1:=hid (show w.heap.size<wr.heap.size from Nat.lt_of_lt_of_le (row_lt HR5.out) (Hid.out hbel).size)
       have HL2:=hid (show w.heap.size+1<wr.heap.size from Nat.lt_of_lt_of_le (row_lt HR6.out) (Hid.out hbel).size)
       have heq:=fun w=>eq_kid x y HXL.out HYL.out w
       have hgd:=guardK
       obtain⟨q,hq⟩:∃ q,eqK x y=q:=⟨_,rfl⟩
       rw [hq] at heq
       have HQ:=hid hq
       clear hq
       go_wp2_with fail
       refine wp_region_G (fun w'=>Below wr.heap.size wr w') (by kernel_rfl) (by kernel_rfl) (Below.refl _ _).drew ?_
       refine wpG_val (.pointer (some ⟨w.heap.size,2,none⟩)) rfl (by rfl) (fun w' hS=>by go_simp) ?_
       simp only [Gb2a,Gb2b,Gb2c]
       refine wpG_val (.slice (some ⟨b,o,none⟩) nK dK) rfl (by rfl) (fun w' hS=>by have c:=(hS.cell (p:=⟨w.heap.size,2,none⟩) HL1.out).trans HN2.out;go_simp) ?_
       simp only [Gb2a,Gb2b,Gb2c]
       refine wpG_val (.int .i64 i) rfl (by rfl) (fun w' hS=>by go_simp) ?_
       simp only [Gb2a,Gb2b,Gb2c]
       refine wpG_val (.pointer (some ⟨b,o+i*34,none⟩)) rfl (by rfl) (fun w' hS=>by go_simp) ?_
       simp only [Gb2a,Gb2b,Gb2c]
       refine wpG_val (.agg (ecK x).toArray) rfl (by rfl) (fun w' hS=>load_run 45 (.tmp 45) rfl b (o+i*34) rfl (ecK x) _ (range_below HRX.out HBX.out hS) Tryz.underlying45 rfl (infoKs x)) ?_
       simp only [Gb2a,Gb2b,Gb2c]
       refine wpG_val (.pointer (some ⟨w.heap.size+1,2,none⟩)) rfl (by rfl) (fun w' hS=>by go_simp) ?_
       simp only [Gb2a,Gb2b,Gb2c]
       refine wpG_val (.slice (some ⟨b',o',none⟩) mK eK) rfl (by rfl) (fun w' hS=>by have c:=(hS.cell (p:=⟨w.heap.size+1,2,none⟩) HL2.out).trans HK2.out;go_simp) ?_
       simp only [Gb2a,Gb2b,Gb2c]
       refine wpG_val (.int .i64 i) rfl (by rfl) (fun w' hS=>by go_simp) ?_
       simp only [Gb2a,Gb2b,Gb2c]
       refine wpG_val (.pointer (some ⟨b',o'+i*34,none⟩)) rfl (by rfl) (fun w' hS=>by go_simp) ?_
       simp only [Gb2a,Gb2b,Gb2c]
       refine wpG_val (.agg (ecK y).toArray) rfl (by rfl) (fun w' hS=>load_run 45 (.tmp 50) rfl b' (o'+i*34) rfl (ecK y) _ (range_below HRY.out HBY.out hS) Tryz.underlying45 rfl (infoKs y)) ?_
       simp only [Gb2a,Gb2b,Gb2c]
       refine wpG_val (.bool (!q)) rfl (by rfl) (fun w' hS=>by go_simp) ?_
       simp only [Gb2a,Gb2b,Gb2c]
       refine wpG_nil ?_
       intro w9 hS9
       have HB2:=hid ((Hid.out hbel).trans (hS9.mono (Hid.out hbel).size))
       clear hS9 hbel heq hgd
       cases q
       ·have HF:=hid (eqL_no eqK_iff (A:=K) (B:=K') fun e=>by
         have h1:=HYY.out
         rw [← e,HXX.out] at h1
         cases h1
         have h2:=(eqK_iff x x).2 rfl
         rw [HQ.out] at h2
         cases h2)
        clear htk
        go_wp2
        go_ret
        exact⟨by rw [HX.out,HF.out];rfl,HB5.out.trans (HB2.out.mono HB5.out.size)⟩
       ·have HT:=hid (take_same (Hid.out htk) HXX.out (((eqK_iff x y).1 HQ.out)▸HYY.out))
        clear htk
        go_wp2
        exact⟨⟨i+1,by omega,by go_num,HT.out,HB2.out⟩,by simp [intOf]<;>omega⟩
      ·have HT:=hid (show eqL eqK K K'=true from (eqL_iff eqK_iff).2 (by
        have h:=Hid.out htk
        rwa [List.take_of_length_le (by rw [← HK.out];omega),List.take_of_length_le (by rw [← HM.out,← HLEN.out];omega)] at h))
       clear hbel
       go_wp2
       go_ret
       exact⟨by rw [HX.out,HT.out];rfl,HBE.out⟩
   ·have q2:((nK:Int) != (mK:Int))=true:=by rw [bne_iff_ne];omega
    have HX:=hid (show R=false by rw [← HR.out];simp [hlen])
    clear hq HR hkd hlen
    go_enter Tryz.func14,Tryz.ntmps14
    go_wp2_with (first
     | (go_at_call 40;refine (HC1.out _ HS0.out).mono ?_;rintro e w3 ⟨rfl,hb3⟩;have HB3:=hid (HS0.out.trans (hb3.mono HS0.out.size));have HR3:=hid ((hb3.block _ (row_lt HR1.out)).trans HR1.out);have HR4:=hid ((hb3.block _ (row_lt HR2.out)).trans HR2.out);have n2:w3.cell? ⟨w.heap.size,2,none⟩=some (.slice AK nK dK):=cell_of_row _ _ 2 _ _ _ HR3.out;have n3:w3.cell? ⟨w.heap.size,3,none⟩=some (.slice AV nV dV):=cell_of_row _ _ 3 _ _ _ HR3.out;have k2:w3.cell? ⟨w.heap.size+1,2,none⟩=some (.slice BK mK eK):=cell_of_row _ _ 2 _ _ _ HR4.out;have k3:w3.cell? ⟨w.heap.size+1,3,none⟩=some (.slice BV mV eV):=cell_of_row _ _ 3 _ _ _ HR4.out;clear hb3)
     | (go_at_call 41;refine (HC2.out _ HB3.out).mono ?_;rintro e w5 ⟨rfl,hb5⟩;have HB5:=hid (HB3.out.trans (hb5.mono HB3.out.size));have HR5:=hid ((hb5.block _ (row_lt HR3.out)).trans HR3.out);have HR6:=hid ((hb5.block _ (row_lt HR4.out)).trans HR4.out);have n5:w5.cell? ⟨w.heap.size,2,none⟩=some (.slice AK nK dK):=cell_of_row _ _ 2 _ _ _ HR5.out;clear hb5))
    go_ret
    exact⟨by rw [HX.out];rfl,HB3.out⟩
 ·have q1:((kd:Int) != (kd':Int))=true:=by rw [bne_iff_ne];omega
  have HX:=hid (show R=false by rw [← HR.out];simp [hkd])
  clear HR hkd
  go_enter Tryz.func14,Tryz.ntmps14
  go_wp2_with (first
   | (go_at_call 40;refine (HC1.out _ HS0.out).mono ?_;rintro e w3 ⟨rfl,hb3⟩;have HB3:=hid (HS0.out.trans (hb3.mono HS0.out.size));have HR3:=hid ((hb3.block _ (row_lt HR1.out)).trans HR1.out);have HR4:=hid ((hb3.block _ (row_lt HR2.out)).trans HR2.out);have n2:w3.cell? ⟨w.heap.size,2,none⟩=some (.slice AK nK dK):=cell_of_row _ _ 2 _ _ _ HR3.out;have n3:w3.cell? ⟨w.heap.size,3,none⟩=some (.slice AV nV dV):=cell_of_row _ _ 3 _ _ _ HR3.out;have k2:w3.cell? ⟨w.heap.size+1,2,none⟩=some (.slice BK mK eK):=cell_of_row _ _ 2 _ _ _ HR4.out;have k3:w3.cell? ⟨w.heap.size+1,3,none⟩=some (.slice BV mV eV):=cell_of_row _ _ 3 _ _ _ HR4.out;clear hb3)
   | (go_at_call 41;refine (HC2.out _ HB3.out).mono ?_;rintro e w5 ⟨rfl,hb5⟩;have HB5:=hid (HB3.out.trans (hb5.mono HB3.out.size));have HR5:=hid ((hb5.block _ (row_lt HR3.out)).trans HR3.out);have HR6:=hid ((hb5.block _ (row_lt HR4.out)).trans HR4.out);have n5:w5.cell? ⟨w.heap.size,2,none⟩=some (.slice AK nK dK):=cell_of_row _ _ 2 _ _ _ HR5.out;clear hb5))
  go_ret
  exact⟨by rw [HX.out];rfl,HS0.out⟩
open Pk (be num be_length u8s u8s_length)
def x1:It.Itm:=⟨⟨#[97]⟩,⟨#[49]⟩⟩
def L0:Nd:=⟨1,[],[],[]⟩
def k1:Kd:=⟨⟨#[97]⟩,7,List.replicate 32 0⟩
def B1:Nd:=⟨2,[],[k1],[]⟩
def NVar (w:World) (b:Nat) (cs:Array Value) (n:Nd):Prop:=w.heap[b]?=some (.cells cs 31 (0,0))∧NdAt w cs n
theorem NVar.below {w w':World}{b:Nat}{cs:Array Value}{n:Nd}(h:NVar w b cs n) (hb:Below w.heap.size w w'):NVar w' b cs n:=⟨(hb.block b (row_lt h.1)).trans h.1,h.2.below hb⟩
theorem NVar.lt {w:World}{b:Nat}{cs:Array Value}{n:Nd}(h:NVar w b cs n):b<w.heap.size:=row_lt h.1
theorem NdAt.one {w:World}{cs:Array Value}{n:Nd}(h:NdAt w cs n):cs.all (·.oneCell')=true:=by
 obtain⟨AI,nI,cI,AK,nK,cK,AV,nV,cV,rfl,_⟩:=h;exact four_cells _ _ _ _ rfl rfl rfl rfl
theorem decode_yes (d:ByteArray) (hd:d.size≤9223372036854775807){n:Nd}(h:decN d.data.toList=some n) (hs:n.I.length≤255∧n.K.length≤255∧n.V.length≤255) (w:World) :
  Calls Tryz.prog 90 #[.string d] w fun e w'=>∃ cs,e=.returned (.tuple #[.agg cs,.int .i64 0])∧NdOwn w w' cs n∧NdAt w' cs n:=(decode_any d hd w).mono fun e w' hh=>by
 obtain⟨n',cs,he,ho,hn⟩:=hh
 rw [h] at he hn
 have hn:n'=n:=hn
 subst hn
 exact⟨cs,he,ho,ho.at_ (by omega) (by omega) (by omega)⟩
theorem decode_no (d:ByteArray) (hd:d.size≤9223372036854775807) (h:decN d.data.toList=none) (w:World) :
  Calls Tryz.prog 90 #[.string d] w fun e w'=>∃ cs,e=.returned (.tuple #[.agg cs,.int .i64 9])∧NdOwn w w' cs ⟨0,[],[],[]⟩∧NdAt w' cs ⟨0,[],[],[]⟩:=(decode_any d hd w).mono fun e w' hh=>by
 obtain⟨n',cs,he,ho,hn⟩:=hh
 rw [h] at he hn
 have hn:n'=⟨0,[],[],[]⟩:=hn
 subst hn
 exact⟨cs,he,ho,ho.at_ (Nat.zero_le _) (Nat.zero_le _) (Nat.zero_le _)⟩
theorem decN_small {d:List UInt8}{n:Nd}(h:decN d=some n):Wd n∧n.I.length≤255∧n.K.length≤255∧n.V.length≤255:=by
 unfold decN at h
 split at h
 ·cases h
 ·split at h
  ·cases h
   have:=tkN_fine (by assumption)
   exact⟨this.1,this.2.1,this.2.2.1,this.2.2.2.1⟩
  ·cases h
theorem encB_yes {n:Nd}(h:ckN n=0):encB n=bs (encN n):=by unfold encB;rw [if_pos h]
end Go.Proofs.YtlpejbbmemhloaaGreatDoor.Nd
namespace Go.Proofs.YtlpejbbmemhloaaGreatDoor.Hk
open Lib (hid)
set_option linter.unusedVariables false
open Go.ChangeShapes Go.WideShapes Go.ChangeAt Go.RowKit
variable {tK tS:TypeId}
open Pk (be be_length u8s u8s_length u8s_set u8s_get)
def hashOf (l:List UInt8):List UInt8:=hashB (pieces kc first (l++padL l.length) ((l.length+(padL l.length).length) / 64))
theorem hash_length (l:List UInt8):(hashOf l).length=32:=by unfold hashOf hashB;simp
theorem sum_lit (x:ByteArray) (hx:x.size≤140737488351232) (w:World) (hR:Row w 1 tK kc) (hR0:Row w 0 tS first.list) :
  Calls Tryz.prog 30 #[.string x] w fun e w'=>∃ C,C=(u8s (hashOf x.data.toList)).toArray∧e=.returned (.agg C)∧Below w.heap.size w w' :=
 (sum_any kc kc_length first x hx w hR.lt hR0.lt hR hR0).mono fun _ _ h=>⟨_,by unfold hashOf;simp,h.1,h.2⟩
theorem info8u:∃ i,Tryz.prog.info? 5=some i:=Option.isSome_iff_exists.mp (by kernel_rfl)
theorem cells8:Tryz.prog.cellsOf 5=1:=by kernel_rfl
theorem guard32:Tryz.prog.eqGuardType Tryz.prog.depth 43=false:=by kernel_rfl
end Go.Proofs.YtlpejbbmemhloaaGreatDoor.Hk
namespace Go.Proofs.YtlpejbbmemhloaaGreatDoor.Hp
open Lib (hid)
set_option linter.unusedVariables false
set_option linter.unusedSimpArgs false
open Go.ChangeShapes Go.WideShapes Go.ChangeAt Go.RowKit
open Ar Rg Nd
open BigFrame
open Pk (u8s u8s_length)
open Hk (hashOf hash_length)
def hsD (d:ByteArray):List UInt8:=hashOf d.data.toList
theorem hsD_len (d:ByteArray):(hsD d).length=32:=hash_length _
structure Ob where
 num:Nat
 d:ByteArray
 r:Int
 n:Nd
 vI:Value
 vK:Value
 vV:Value
 bl:List Nat
 bv:Value
 a:Nat
 gn:Bool
def hsO (o:Ob):List UInt8:=if o.a=0 then List.replicate 32 0 else hsD o.d
theorem hsO_len (o:Ob):(hsO o).length=32:=by unfold hsO;split<;>simp [hsD_len]
def ecO (o:Ob):List Value:=.int .u32 o.num::.string o.d::.int .i64 o.r::.int .u8 o.n.kd::o.vI::o.vK::o.vV::o.bv::.int .i64 o.a::(u8s (hsO o)++[.bool o.gn])
def Ob.ask (o:Ob) (k:Nat):Ob:=⟨o.num,o.d,o.r,o.n,o.vI,o.vK,o.vV,o.bl,o.bv,o.a+k,o.gn⟩
def Ob.rf (o:Ob) (r:Int):Ob:=⟨o.num,o.d,r,o.n,o.vI,o.vK,o.vV,o.bl,o.bv,o.a,o.gn⟩
def Ob.go (o:Ob) (q:Bool):Ob:=⟨o.num,o.d,o.r,o.n,o.vI,o.vK,o.vV,o.bl,o.bv,o.a,q⟩
def Ob.be (o:Ob) (D:List Nat) (v:Value):Ob:=⟨o.num,o.d,o.r,o.n,o.vI,o.vK,o.vV,D,v,o.a,o.gn⟩
def enP (p:Nat):List Value:=[.pointer (some ⟨p,0,none⟩)]
theorem enP_len (p:Nat):(enP p).length=1:=rfl
theorem enP_one (x:Nat):∀ u∈enP x,u.oneCell'=true:=by
 intro u hu
 rw [List.mem_singleton.1 hu];rfl
abbrev T:TypeId:=82
abbrev TP:TypeId:=71
structure Off (n0:Nat) (w w':World):Prop where
 os:w'.os=w.os
 tape:w'.tape=w.tape
 output:w'.output=w.output
 size:w.heap.size≤w'.heap.size
 block:∀ k,k<w.heap.size→(k<n0∨∀ cs f,w.heap[k]?≠some (.cells cs T f))→w'.heap[k]?=w.heap[k]?
theorem Off.refl (n0:Nat) (w:World):Off n0 w w:=⟨rfl,rfl,rfl,Nat.le_refl _,fun _ _ _=>rfl⟩
theorem Off.trans {n0:Nat}{a b c:World}(h:Off n0 a b) (k:Off n0 b c):Off n0 a c :=
 ⟨k.os.trans h.os,k.tape.trans h.tape,k.output.trans h.output,Nat.le_trans h.size k.size,fun i hi hh=>by
  have h1:=h.block i hi hh
  rw [k.block i (Nat.lt_of_lt_of_le hi h.size) (hh.imp id fun h2 cs f=>by rw [h1];exact h2 cs f),h1]⟩
theorem Off.of_below {n0:Nat}{w w':World}(h:Below w.heap.size w w'):Off n0 w w':=⟨h.os,h.tape,h.output,h.size,fun k hk _=>h.block k hk⟩
theorem Off.of_grown {n0 p:Nat}{w w':World}{cs:Array Value}{f:Nat×Nat}(h:w.grownBy w' (some p)) (hp:n0≤p) (hr:w.heap[p]?=some (.cells cs T f)):Off n0 w w' :=
 ⟨h.os,h.tape,h.output,h.size,fun k hk hh=>h.block k hk fun e=>by
  cases e
  rcases hh with h1 | h1
  ·omega
  ·exact h1 cs f hr⟩
theorem Off.below {n0:Nat}{w w':World}(h:Off n0 w w') (hn:n0≤w.heap.size):Below n0 w w':=⟨h.os,h.tape,h.output,h.size,fun k hk=>h.block k (by omega) (.inl hk)⟩
theorem Off.row {n0 p:Nat}{w w':World}{cs:Array Value}{t:TypeId}{f:Nat×Nat}(h:Off n0 w w') (hr:w.heap[p]?=some (.cells cs t f)) (ht:t≠T):w'.heap[p]?=some (.cells cs t f):=by
 rw [h.block p (row_lt hr) (.inr fun cs' f' e=>by rw [hr] at e;simp only [Option.some.injEq,Obj.cells.injEq] at e;exact ht e.2.1)]
 exact hr
theorem Off.own {n0 b:Nat}{w w':World}{e:TypeId}{k:Nat}{v:Value}{n:Nat}{xs:List Value}(h:Off n0 w w') (he:e≠T) (ho:w.ownsRow b e k v n xs):w'.ownsRow b e k v n xs:=by
 refine⟨ho.1,?_⟩
 rcases ho.2 with hn | ⟨g,cap,cur,rfl,hb,hgg,rest⟩
 ·exact .inl hn
 ·exact .inr ⟨g,cap,cur,rfl,hb,h.row hgg he,rest⟩
theorem own_go {b:Nat}{w w':World}{e:TypeId}{k:Nat}{v:Value}{n:Nat}{xs:List Value}(h:w.ownsRow b e k v n xs) (hb:Below w.heap.size w w'):w'.ownsRow b e k v n xs :=
 World.ownsRow.kept h ⟨hb.os,hb.tape,hb.output,hb.size,fun k hk _=>hb.block k hk⟩ (Classical.em _)
def OwP (n0:Nat) (w:World) (v:Value) (D:List Nat):Prop:=w.ownsRow n0 TP 1 v D.length (D.flatMap enP)
abbrev MkP (w wr:World) (v:Value) (D:List Nat):Prop:=Mk enP 1 TP w wr v D
theorem OwP.of_mk {w wr:World}{v:Value}{D:List Nat}{n0:Nat}(h:MkP w wr v D) (hn:n0≤w.heap.size):OwP n0 wr v D:=World.ownsRow.mono h.1 hn
theorem OwP.ls {n0:Nat}{w:World}{v:Value}{D:List Nat}(h:OwP n0 w v D):∃ A c,v=.slice A D.length c∧D.length≤c∧c≤maxLen∧Ls enP 1 w w.heap.size A D :=
 have hm:MkP { w with heap:=#[] } w v D:=⟨World.ownsRow.mono h (Nat.zero_le _),⟨rfl,rfl,rfl,Nat.zero_le _,fun k hk=>absurd hk (Nat.not_lt_zero _)⟩⟩
 hm.ls enP_len
def OwN (n0:Nat) (w:World) (vI vK vV:Value) (n:Nd):Prop :=
 w.ownsRow n0 63 2 vI n.I.length (n.I.flatMap It.enc)∧w.ownsRow n0 45 34 vK n.K.length (n.K.flatMap ecK)∧w.ownsRow n0 121 37 vV n.V.length (n.V.flatMap ecV)
theorem OwN.nd {n0:Nat}{w:World}{vI vK vV:Value}{n:Nd}(h:OwN n0 w vI vK vV n):NdOwn { w with heap:=#[] } w #[.int .u8 n.kd,vI,vK,vV] n :=
 have hb:Below 0 { w with heap:=#[] } w:=⟨rfl,rfl,rfl,Nat.zero_le _,fun k hk=>absurd hk (Nat.not_lt_zero _)⟩
 ⟨vI,vK,vV,rfl,⟨World.ownsRow.mono h.1 (Nat.zero_le _),hb⟩,⟨World.ownsRow.mono h.2.1 (Nat.zero_le _),hb⟩,⟨World.ownsRow.mono h.2.2 (Nat.zero_le _),hb⟩⟩
theorem OwN.of {n0:Nat}{w w':World}{vI vK vV:Value}{n:Nd}(h:NdOwn w w' #[.int .u8 n.kd,vI,vK,vV] n) (hn:n0≤w.heap.size):OwN n0 w' vI vK vV n:=by
 obtain⟨v1,v2,v3,e,m1,m2,m3⟩:=h
 simp only [Array.mk.injEq,List.cons.injEq,and_true,true_and] at e
 obtain⟨rfl,rfl,rfl⟩:=e
 exact⟨World.ownsRow.mono m1.1 hn,World.ownsRow.mono m2.1 hn,World.ownsRow.mono m3.1 hn⟩
theorem OwN.go {n0:Nat}{w w':World}{vI vK vV:Value}{n:Nd}(h:OwN n0 w vI vK vV n) (hb:Below w.heap.size w w'):OwN n0 w' vI vK vV n:=⟨own_go h.1 hb,own_go h.2.1 hb,own_go h.2.2 hb⟩
theorem OwN.off {n0 m0:Nat}{w w':World}{vI vK vV:Value}{n:Nd}(h:OwN n0 w vI vK vV n) (hb:Off m0 w w'):OwN n0 w' vI vK vV n:=⟨hb.own (by decide) h.1,hb.own (by decide) h.2.1,hb.own (by decide) h.2.2⟩
theorem OwN.nil (n0:Nat) (w:World) (kd:Nat):OwN n0 w zS zS zS ⟨kd,[],[],[]⟩:=⟨World.ownsRow_nil _ _ _ _,World.ownsRow_nil _ _ _ _,World.ownsRow_nil _ _ _ _⟩
structure HpAt (n0:Nat) (w:World) (P:List Nat) (s:Nat→Ob):Prop where
 nd:P.Nodup
 lo:∀ p∈P,n0≤p
 row:∀ p∈P,w.heap[p]?=some (.cells (ecO (s p)).toArray T (0,0))
 own:∀ p∈P,OwN n0 w (s p).vI (s p).vK (s p).vV (s p).n
 bel:∀ p∈P,OwP n0 w (s p).bv (s p).bl
theorem HpAt.nil (n0:Nat) (w:World) (s:Nat→Ob):HpAt n0 w [] s:=⟨List.nodup_nil,fun p h=>(by cases h),fun p h=>(by cases h),fun p h=>(by cases h),fun p h=>(by cases h)⟩
theorem HpAt.lt {n0:Nat}{w:World}{P:List Nat}{s:Nat→Ob}(h:HpAt n0 w P s){p:Nat}(hp:p∈P):p<w.heap.size:=row_lt (h.row p hp)
theorem HpAt.go {n0:Nat}{w w':World}{P:List Nat}{s:Nat→Ob}(h:HpAt n0 w P s) (hb:Below w.heap.size w w'):HpAt n0 w' P s :=
 ⟨h.nd,h.lo,fun p hp=>(hb.block p (h.lt hp)).trans (h.row p hp),fun p hp=>(h.own p hp).go hb,fun p hp=>own_go (h.bel p hp) hb⟩
theorem HpAt.beside {n0 q:Nat}{w w':World}{P:List Nat}{s:Nat→Ob}{old:Array Value}{t:TypeId}{f:Nat×Nat}(h:HpAt n0 w P s) (hq:w.heap[q]?=some (.cells old t f))
  (ht:t≠T∧t≠TP∧t≠63∧t≠45∧t≠121) (hg:w.grownBy w' (some q)):HpAt n0 w' P s:=by
 have hk:∀ {b:Nat}{e:TypeId}{k:Nat}{v:Value}{n:Nat}{xs:List Value},t≠e→w.ownsRow b e k v n xs→w'.ownsRow b e k v n xs:=fun {b e k v n xs} he ho=>World.ownsRow.kept ho hg (by
  rcases ho.2 with ⟨rfl,_⟩ | ⟨g,cap,cur,rfl,_,hgg,_⟩
  ·exact .inl rfl
  ·right
   intro e
   simp only [Value.ownBlock,Option.some.injEq] at e
   subst e
   rw [hgg] at hq
   simp only [Option.some.injEq,Obj.cells.injEq] at hq
   exact he hq.2.1.symm)
 refine⟨h.nd,h.lo,fun p hp=>?_,fun p hp=>⟨hk ht.2.2.1 (h.own p hp).1,hk ht.2.2.2.1 (h.own p hp).2.1,hk ht.2.2.2.2 (h.own p hp).2.2⟩,fun p hp=>hk ht.2.1 (h.bel p hp)⟩
 rw [hg.block p (h.lt hp) (fun e=>by
  have e:p=q:=Option.some.inj e
  have:=h.row p hp
  rw [e] at this
  rw [hq] at this
  simp only [Option.some.injEq,Obj.cells.injEq] at this
  exact ht.1 this.2.1)]
 exact h.row p hp
def upd (s:Nat→Ob) (p:Nat) (o:Ob):Nat→Ob:=fun q=>if q=p then o else s q
theorem upd_same (s:Nat→Ob) (p:Nat) (o:Ob):upd s p o p=o:=by unfold upd;rw [if_pos rfl]
theorem upd_other {s:Nat→Ob}{p q:Nat}{o:Ob}(h:q≠p):upd s p o q=s q:=by unfold upd;rw [if_neg h]
theorem HpAt.put {n0 p:Nat}{w w':World}{P:List Nat}{s:Nat→Ob}(h:HpAt n0 w P s) (hp:p∈P) (hg:w.grownBy w' (some p)){o:Ob}(hr:w'.heap[p]?=some (.cells (ecO o).toArray T (0,0)))
  (h1:OwN n0 w o.vI o.vK o.vV o.n) (h2:OwP n0 w o.bv o.bl):HpAt n0 w' P (upd s p o)∧Off n0 w w':=by
 have ho:Off n0 w w':=Off.of_grown hg (h.lo p hp) (h.row p hp)
 refine⟨⟨h.nd,h.lo,fun q hq=>?_,fun q hq=>?_,fun q hq=>?_⟩,ho⟩
 ·by_cases e:q=p
  ·subst e;rw [upd_same];exact hr
  ·rw [upd_other e,hg.block q (h.lt hq) (fun e1=>e (Option.some.inj e1))];exact h.row q hq
 ·by_cases e:q=p
  ·subst e;rw [upd_same];exact h1.off ho
  ·rw [upd_other e];exact (h.own q hq).off ho
 ·by_cases e:q=p
  ·subst e;rw [upd_same];exact ho.own (by decide) h2
  ·rw [upd_other e];exact ho.own (by decide) (h.bel q hq)
theorem HpAt.more {n0 p:Nat}{w:World}{P P':List Nat}{s:Nat→Ob}(h:HpAt n0 w P s) (hp:n0≤p) (hn:p ∉ P) (hP:P'.Perm (p::P)){o:Ob}(hr:w.heap[p]?=some (.cells (ecO o).toArray T (0,0)))
  (h1:OwN n0 w o.vI o.vK o.vV o.n) (h2:OwP n0 w o.bv o.bl):HpAt n0 w P' (upd s p o):=by
 have hm:∀ q,q∈P'→q=p∨q∈P:=fun q hq=>List.mem_cons.1 (hP.mem_iff.1 hq)
 have hne:∀ q,q∈P→q≠p:=fun q hq e=>hn (e▸hq)
 refine⟨hP.nodup_iff.2 (List.nodup_cons.2 ⟨hn,h.nd⟩),fun q hq=>?_,fun q hq=>?_,fun q hq=>?_,fun q hq=>?_⟩
 ·rcases hm q hq with rfl | h1
  ·exact hp
  ·exact h.lo q h1
 ·rcases hm q hq with rfl | h3
  ·rw [upd_same];exact hr
  ·rw [upd_other (hne q h3)];exact h.row q h3
 ·rcases hm q hq with rfl | h3
  ·rw [upd_same];exact h1
  ·rw [upd_other (hne q h3)];exact h.own q h3
 ·rcases hm q hq with rfl | h3
  ·rw [upd_same];exact h2
  ·rw [upd_other (hne q h3)];exact h.bel q h3
theorem row_set {w:World}{b i:Nat}{cs:List Value}{t:TypeId}{u:Value}(h:w.heap[b]?=some (.cells cs.toArray t (0,0))):(w.setCell ⟨b,i,none⟩ u).heap[b]?=some (.cells (cs.set i u).toArray t (0,0)):=by
 simp [World.setCell,h,Array.getElem?_modify]
set_option maxRecDepth 100000
open Hk (Row kc first hashOf hash_length sum_lit)
theorem run_storeVar_part {P:Program}(w:World) (g o:Nat) (t ty:TypeId) (cur cells:Array Value) (x:Value) (hg:w.heap[g]?=some (.cells cur t (0,0))) (hx:x.cells=cells.toList.toArray) (hi:(P.info? ty).map (·.size)=some cells.size)
  (hfit:o+cells.size≤cur.size) (h1:cells.all (·.oneCell')=true) :
  (storeVar ty ⟨g,o,none⟩ x).run P w=.ok () (w.setRow g (cur.toList.take o++cells.toList++cur.toList.drop (o+cells.size)).toArray):=by
 have h:=run_storeCells_at P g o t cells.toList 0 cur w hg (by simpa using hfit) (fun v hv=>(Array.all_eq_true_iff_forall_mem.1 h1) v (by simpa using hv))
 cases hq:P.info? ty with
 | none=>simp [hq] at hi
 | some i =>
  have hs:i.size=cells.size:=by simpa [hq] using hi
  simp only [Nat.add_zero,Array.length_toList] at h
  have hx':x.cells=cells:=by rw [hx]
  simp [storeVar,sizeOf,typeInfo,hq,hx',hs,h]
section
variable {P:Program}{ops:Array Oper}{rest:List Oper}{o:Oper}{a:Act}{w:World}{Q:Exit→Act→World→Prop}
theorem wpList_store_part (hgd:o.guard=none) (ty:TypeId) (x y:Operand) (ho:o.op=.store ty x y) (g i:Nat) (v:Value) (cells:Array Value) (hx:a.eval x=.pointer (some ⟨g,i,none⟩)) (hy:a.eval y=v)
  (t:TypeId) (cur new:Array Value) (hg:w.heap[g]?=some (.cells cur t (0,0))) (hv:v.cells=cells.toList.toArray) (hi:(P.info? ty).map (·.size)=some cells.size)
  (hfit:i+cells.size≤cur.size) (h1:cells.all (·.oneCell')=true) (hn:(cur.toList.take i++cells.toList++cur.toList.drop (i+cells.size)).toArray=new)
  (h:wpList P ops Q rest (a.put o.dst undef) (w.setRow g new)):wpList P ops Q (o::rest) a w :=
 wpList_plain hgd fun K hK=>by
  subst hn
  unfold Oper.wp execOp
  simp only [ho,hx,hy,Instr.storeAt,Instr.sureAddr,Sem.run_bind,Sem.run_pure,Result.andThen_ok,run_storeVar_part w g i t ty cur cells v hg hv hi hfit h1]
  exact hK _ _ h
end
structure Kc (tK tS:TypeId) (n0:Nat) (w:World):Prop where
 r:Row w 1 tK kc
 i:Row w 0 tS first.list
 lr:1<n0
 li:0<n0
theorem cell_lt {w:World}{b o:Nat}{v:Value}(h:w.cell? ⟨b,o,none⟩=some v):b<w.heap.size:=World.block_lt_of_cell? w _ h
theorem add_at (b o:Nat) (a:Nat) (ha:a≤1099511627776) (w:World) (hc:w.cell? ⟨b,o,none⟩=some (.int .i64 a)) (hz:w.frozen? ⟨b,o,none⟩=false) :
  Calls Tryz.prog 104 #[.pointer (some ⟨b,o,none⟩),.int .i64 1] w fun e w'=>e=.returned (.int .i64 ((a+1:Nat):Int))∧w'=w.setCell ⟨b,o,none⟩ (.int .i64 ((a+1:Nat):Int)):=by
 have hs:IntKind.i64.wrap ((a:Int)+1)=((a+1:Nat):Int):=by rw [IntWalk.i64_in _ (by omega)];omega
 have hd:=run_call_add (P:=Tryz.prog) Tryz.func137 (by kernel_rfl) (by kernel_rfl) (by kernel_rfl) .i64 (by kernel_rfl) (y:=1) (s:=((a+1:Nat):Int)) hc hz (by simp [go_sem,hs])
 clear hs
 go_enter Tryz.func104,Tryz.ntmps104
 go_wp2
 go_ret
 exact⟨rfl,rfl⟩
theorem load_at (b o:Nat) (a:Int) (w:World) (hc:w.cell? ⟨b,o,none⟩=some (.int .i64 a)) :
  Calls Tryz.prog 79 #[.pointer (some ⟨b,o,none⟩)] w fun e w'=>e=.returned (.int .i64 a)∧w=w':=by
 have hd:=run_call_load (P:=Tryz.prog) Tryz.func102 (by kernel_rfl) (by kernel_rfl) (by kernel_rfl) .i64 (by kernel_rfl) hc
 go_enter Tryz.func79,Tryz.ntmps79
 go_wp2
 go_ret
 exact⟨rfl,rfl⟩
def At (w:World) (p:Nat) (o:Ob):Prop:=w.heap[p]?=some (.cells (ecO o).toArray T (0,0))
theorem HpAt.at_ {n0 p:Nat}{w:World}{P:List Nat}{s:Nat→Ob}(h:HpAt n0 w P s) (hp:p∈P):At w p (s p):=h.row p hp
theorem At.cell {w:World}{p:Nat}{o:Ob}(h:At w p o){i:Nat}{v:Value}(hv:(ecO o)[i]?=some v):w.cell? ⟨p,i,none⟩=some v :=
 cell_of_row _ _ i _ _ _ (show w.heap[p]?=some (.cells (ecO o).toArray T (0,0)) from h) |>.trans (by simpa using hv)
theorem At.frozen {w:World}{p:Nat}{o:Ob}(h:At w p o) (i:Nat):w.frozen? ⟨p,i,none⟩=false:=frozen_of_row _ _ _ _ _ h
theorem At.lt {w:World}{p:Nat}{o:Ob}(h:At w p o):p<w.heap.size:=row_lt h
theorem At.hash {w:World}{p:Nat}{o:Ob}(h:At w p o):w.rangeAt p 9 (u8s (hsO o)):=fun j v hv=>h.cell (by
 have hj:j<32:=by have:=(List.getElem?_eq_some_iff.1 hv).1;rwa [u8s_length,hsO_len] at this
 unfold ecO
 rw [Nat.add_comm 9 j]
 show ((u8s (hsO o)++[.bool o.gn]))[j]?=some v
 rw [List.getElem?_append_left (by rw [u8s_length,hsO_len];exact hj)]
 exact hv)
theorem At.gone {w:World}{p:Nat}{o:Ob}(h:At w p o):w.cell? ⟨p,41,none⟩=some (.bool o.gn):=h.cell (by
 unfold ecO
 show ((u8s (hsO o)++[.bool o.gn]))[32]?=some _
 rw [List.getElem?_append_right (by rw [u8s_length,hsO_len];omega),u8s_length,hsO_len]
 rfl)
theorem At.setR {w:World}{p:Nat}{o:Ob}(h:At w p o) (r:Int):At (w.setCell ⟨p,2,none⟩ (.int .i64 r)) p (o.rf r):=row_set (i:=2) (u:=.int .i64 r) h
theorem At.setG {w:World}{p:Nat}{o:Ob}(h:At w p o) (q:Bool):At (w.setCell ⟨p,41,none⟩ (.bool q)) p (o.go q):=by
 have:=row_set (i:=41) (u:=.bool q) h
 unfold At
 rw [this]
 congr 2
 unfold ecO
 show (_::_::_::_::_::_::_::_::_::((u8s (hsO o)++[Value.bool o.gn]).set 32 (Value.bool q))).toArray=_
 rw [List.set_append_right _ _ (by rw [u8s_length,hsO_len];omega),u8s_length,hsO_len]
 rfl
theorem At.setB {w:World}{p:Nat}{o:Ob}(h:At w p o) (D:List Nat) (v:Value):At (w.setCell ⟨p,7,none⟩ v) p (o.be D v):=row_set (i:=7) (u:=v) h
theorem leads_any {w:World}{p:Nat}{o:Ob}(h:At w p o) (ha:o.a≤1099511627776) :
  Calls Tryz.prog 68 #[.pointer (some ⟨p,0,none⟩)] w fun e w'=>e=.returned (.int .i64 o.a)∧w=w':=by
 have hc:=h.cell (i:=8) (v:=.int .i64 o.a) rfl
 have hl:=h.lt
 clear h
 have HC:=hid (fun w' (h:w'.cell? ⟨p,8,none⟩=some (.int .i64 o.a))=>load_at p 8 o.a w' h)
 go_enter Tryz.func68,Tryz.ntmps68
 go_wp2_with (go_at_call 79;refine (HC.out _ hc).mono ?_;rintro e w1 ⟨rfl,rfl⟩)
 go_ret
 exact⟨rfl,rfl⟩
theorem leads_at {w:World}{p:Nat}{o:Ob}(h:At w p o) (ha:o.a≤1099511627776) :
  Calls Tryz.prog 68 #[.pointer (some ⟨p,0,none⟩)] w fun e w'=>e=.returned (.int .i64 o.a)∧w'=w:=(leads_any h ha).mono fun e w' hh=>⟨hh.1,hh.2.symm⟩
def rtR (o:Ob):Bool:=decide ((o.a:Int)≤o.r)&&decide (o.r≤16777216)
set_option maxHeartbeats 1000000 in
theorem rightRefs_any {w:World}{p:Nat}{o:Ob}(h:At w p o) (ha:o.a≤1099511627776) :
  Calls Tryz.prog 64 #[.pointer (some ⟨p,0,none⟩)] w fun e w'=>e=.returned (.bool (rtR o))∧Below w.heap.size w w':=by
 have hc:=h.cell (i:=2) (v:=.int .i64 o.r) rfl
 have hl:=h.lt
 have HA:=hid h
 have hb0:Below w.heap.size w w:=Below.refl _ _
 clear h
 unfold rtR
 obtain⟨num,d,r,n,vI,vK,vV,bl,bv,a,gn⟩:=o
 dsimp only at *
 by_cases h1:(a:Int)≤r
 ·have d1:decide ((a:Int)≤r)=true:=decide_eq_true h1
  by_cases h2:r≤16777216
  ·have d2:decide (r≤16777216)=true:=decide_eq_true h2
   rw [d1,d2]
   go_enter Tryz.func64,Tryz.ntmps64
   go_wp2_with fail
   go_big_quiet ((go_at_call 68;exact Calls.quiet_of_same (leads_at HA.out ha)))
   have HB:=hid (below_drewN hb0 nq)
   generalize World.drewN _ _=W2 at *
   go_wp2
   go_ret
   exact⟨rfl,HB.out⟩
  ·have d2:decide (r≤16777216)=false:=decide_eq_false h2
   rw [d1,d2]
   go_enter Tryz.func64,Tryz.ntmps64
   go_wp2_with fail
   go_big_quiet ((go_at_call 68;exact Calls.quiet_of_same (leads_at HA.out ha)))
   have HB:=hid (below_drewN hb0 nq)
   generalize World.drewN _ _=W2 at *
   go_wp2
   go_ret
   exact⟨rfl,HB.out⟩
 ·have d1:decide ((a:Int)≤r)=false:=decide_eq_false h1
  rw [d1,Bool.false_and]
  go_enter Tryz.func64,Tryz.ntmps64
  go_wp2_with fail
  go_big_quiet ((go_at_call 68;exact Calls.quiet_of_same (leads_at HA.out ha)))
  have HB:=hid (below_drewN hb0 nq)
  generalize World.drewN _ _=W2 at *
  go_wp2
  go_ret
  exact⟨rfl,HB.out⟩
set_option maxHeartbeats 1000000 in
theorem held_any {w:World}{p:Nat}{o:Ob}(h:At w p o) (ha:o.a≤1099511627776) (h1:(o.a:Int)≤o.r) (h2:o.r≤1099511627776) :
  Calls Tryz.prog 37 #[.pointer (some ⟨p,0,none⟩)] w fun e w'=>e=.returned (.int .i64 (o.r-o.a))∧Below w.heap.size w w':=by
 have hc:=h.cell (i:=2) (v:=.int .i64 o.r) rfl
 have hl:=h.lt
 have HA:=hid h
 have hb0:Below w.heap.size w w:=Below.refl _ _
 clear h
 obtain⟨num,d,r,n,vI,vK,vV,bl,bv,a,gn⟩:=o
 dsimp only at *
 have e1:IntKind.i64.wrap (r-(a:Int))=r-(a:Int):=IntWalk.i64_in _ (by omega)
 go_enter Tryz.func37,Tryz.ntmps37
 go_wp2_with fail
 go_big_quiet ((go_at_call 68;exact Calls.quiet_of_same (leads_at HA.out ha)))
 have HB:=hid (below_drewN hb0 nq)
 clear e1
 generalize World.drewN _ _=W2 at *
 go_wp2
 go_ret
 exact⟨rfl,HB.out⟩
set_option maxHeartbeats 1000000 in
theorem hold_yes {n0 p:Nat}{w:World}{P:List Nat}{s:Nat→Ob}(h:HpAt n0 w P s) (hp:p∈P) (h0:0≤(s p).r) (h1:(s p).r<16777216) :
  Calls Tryz.prog 48 #[.pointer (some ⟨p,0,none⟩)] w fun e w'=>e=.returned (.int .i64 0)∧HpAt n0 w' P (upd s p ((s p).rf ((s p).r+1)))∧Off n0 w w':=by
 have hA:=h.at_ hp
 have hc:=hA.cell (i:=2) (v:=.int .i64 (s p).r) rfl
 have hz:=hA.frozen 2
 have hl:=hA.lt
 have HF:=hid (h.put hp (grown_setCell w ⟨p,2,none⟩ (.int .i64 ((s p).r+1))) (hA.setR ((s p).r+1)) (h.own p hp) (h.bel p hp))
 have hne:((s p).r==16777216)=false:=by rw [beq_eq_false_iff_ne];omega
 clear hA
 generalize (s p).r=r at *
 go_enter Tryz.func48,Tryz.ntmps48
 go_wp2
 go_ret
 exact⟨rfl,HF.out⟩
theorem hold_no {w:World}{p:Nat}{o:Ob}(h:At w p o) (h1:o.r=16777216) :
  Calls Tryz.prog 48 #[.pointer (some ⟨p,0,none⟩)] w fun e w'=>e=.returned (.int .i64 1)∧w=w':=by
 have hc:=h.cell (i:=2) (v:=.int .i64 o.r) rfl
 have hl:=h.lt
 clear h
 rw [h1] at hc
 clear h1
 go_enter Tryz.func48,Tryz.ntmps48
 go_wp2
 go_ret
 exact⟨rfl,rfl⟩
theorem Kc.off {tK tS:TypeId}{n0:Nat}{w w':World}(h:Kc tK tS n0 w) (hb:Off n0 w w'):Kc tK tS n0 w' :=
 ⟨(hb.block _ (row_lt h.r) (.inl h.lr)).trans h.r,(hb.block _ (row_lt h.i) (.inl h.li)).trans h.i,h.lr,h.li⟩
theorem Kc.below {tK tS:TypeId}{n0:Nat}{w w':World}(h:Kc tK tS n0 w) (hb:Below n0 w w'):Kc tK tS n0 w' :=
 ⟨(hb.block _ h.lr).trans h.r,(hb.block _ h.li).trans h.i,h.lr,h.li⟩
def ecR (o:Ob) (l:List UInt8):List Value:=.int .u32 o.num::.string o.d::.int .i64 o.r::.int .u8 o.n.kd::o.vI::o.vK::o.vV::o.bv::.int .i64 o.a::(u8s l++[.bool o.gn])
theorem u8s_one (l:List UInt8):∀ v∈u8s l,v.oneCell'=true:=by
 intro v hv
 unfold u8s at hv
 obtain⟨b,_,rfl⟩:=List.mem_map.1 hv
 rfl
theorem u8s_all (l:List UInt8):(u8s l).toArray.all (·.oneCell')=true:=Array.all_eq_true_iff_forall_mem.2 (fun v hv=>u8s_one l v (by simpa using hv))
theorem ecR_put (o:Ob) (l m:List UInt8) (hl:l.length=32) (hm:m.length=32) :
  ((ecR o l).toArray.toList.take 9++(u8s m).toArray.toList++(ecR o l).toArray.toList.drop (9+(u8s m).toArray.size)).toArray=(ecR o m).toArray:=by
 congr 1
 unfold ecR
 simp only [List.size_toArray,u8s_length,hm,List.toList_toArray]
 show [_,_,_,_,_,_,_,_,_]++u8s m++(u8s l++[Value.bool o.gn]).drop 32=_
 rw [List.drop_append_of_le_length (by rw [u8s_length];omega),List.drop_of_length_le (by rw [u8s_length];omega)]
 rfl
theorem grown_newRow {w W:World}{p g:Nat}(h:w.grownBy W (some p)) (hg:w.heap.size≤g) (cs:Array Value):w.grownBy (W.setRow g cs) (some p) :=
 ⟨h.os,h.tape,h.output,by simpa [World.setRow] using h.size,fun k hk hne=>by
  simp only [World.setRow,Array.getElem?_modify]
  rw [if_neg (by omega)]
  exact h.block k hk hne⟩
theorem grown_row (w:World) (g:Nat) (cs:Array Value):w.grownBy (w.setRow g cs) (some g) :=
 ⟨rfl,rfl,rfl,by simp [World.setRow],fun k hk hne=>by
  simp only [World.setRow,Array.getElem?_modify]
  rw [if_neg (fun e=>hne (by rw [e]))]⟩
theorem grown_cell (w:World) (b o:Nat) (u:Value):w.grownBy (w.setCell ⟨b,o,none⟩ u) (some b) :=
 ⟨rfl,rfl,rfl,by simp [World.setCell],fun k hk hne=>by
  simp only [World.setCell,Array.getElem?_modify]
  rw [if_neg (fun e=>hne (by rw [e]))]⟩
theorem setRow_at {w:World}{g:Nat}{cs old:Array Value}{t:TypeId}{f:Nat×Nat}(h:w.heap[g]?=some (.cells old t f)):(w.setRow g cs).heap[g]?=some (.cells cs t f):=setRow_heap w g old cs t f h
theorem row_other {w W:World}{p g:Nat}{o:Obj}(h:w.grownBy W (some p)) (hg:w.heap[g]?=some o) (hne:g≠p):W.heap[g]?=some o:=(h.block g (row_lt hg) (fun e=>hne (Option.some.inj e))).trans hg
theorem hs1 {o:Ob}(h:¬ o.a=0):hsO o=hsD o.d:=by unfold hsO;rw [if_neg h]
theorem hash_range {w:World}{p:Nat}{o:Ob}{l:List UInt8}(hl:l.length=32) (h:w.heap[p]?=some (.cells (ecR o l).toArray T (0,0))):w.rangeAt p 9 (u8s l):=rangeAt_row h fun j v hv=>by
 have hj:j<32:=by have:=(List.getElem?_eq_some_iff.1 hv).1;rwa [u8s_length,hl] at this
 have:(ecR o l)[9+j]?=some v:=by
  unfold ecR
  rw [Nat.add_comm 9 j]
  show ((u8s l++[.bool o.gn]))[j]?=some v
  rw [List.getElem?_append_left (by rw [u8s_length,hl];exact hj)]
  exact hv
 simpa using this
set_option maxHeartbeats 2000000 in
theorem ask_any {tK tS:TypeId}{n0 p:Nat}{w:World}{P:List Nat}{s:Nat→Ob}(h:HpAt n0 w P s) (hk:Kc tK tS n0 w) (hn:n0≤w.heap.size) (hp:p∈P) (ha:(s p).a≤1099511627776) (hd:(s p).d.size≤140737488351232) :
  Calls Tryz.prog 122 #[.pointer (some ⟨p,0,none⟩)] w fun e w'=>e=.returned (.agg (u8s (hsD (s p).d)).toArray)∧HpAt n0 w' P (upd s p ((s p).ask 1))∧Off n0 w w':=by
 have hA:=h.at_ hp
 have hl:=hA.lt
 have HF:=hid (fun (W:World) (hg:w.grownBy W (some p)) (hr:W.heap[p]?=some (.cells (ecO ((s p).ask 1)).toArray T (0,0)))=>h.put hp hg hr ((h.own p hp)) ((h.bel p hp)))
 have HK:=hid hk
 have hlen:=hsO_len (s p)
 generalize s p=o at *
 have HG0:=hid (show w.grownBy (w.alloc (.cells zH 43)) (some p) from World.grownBy_alloc _ _ _)
 have HR0:=hid (heap_alloc_new w (.cells zH 43))
 have HA0:=hid (show At (w.alloc (.cells zH 43)) p o from ((show Below w.heap.size w (w.alloc (.cells zH 43)) from (Below.refl _ w).alloc (Nat.le_refl _) _).block p hl).trans hA)
 have hcell:=HA0.out.cell (i:=8) (v:=.int .i64 o.a) rfl
 have hfz:=HA0.out.frozen 8
 have hl0:=HA0.out.lt
 clear hk hA
 have hk0:o.ask 1=⟨o.num,o.d,o.r,o.n,o.vI,o.vK,o.vV,o.bl,o.bv,o.a+1,o.gn⟩:=rfl
 have hL:hsO (o.ask 1)=hsD o.d:=hs1 (o:=o.ask 1) (by show ¬ o.a+1=0;omega)
 have hecO:ecO (o.ask 1)=ecR (o.ask 1) (hsD o.d):=by unfold ecO ecR;rw [hL]
 have hLl:=hsD_len o.d
 have HE:=hid hecO
 have HDS:=hid (fun W h1 h2=>show Calls Tryz.prog 30 #[.string o.d] W fun e w'=>∃ C,C=(u8s (hsD o.d)).toArray∧e=.returned (.agg C)∧Below W.heap.size W w' from sum_lit (tK:=tK) (tS:=tS) o.d hd W h1 h2)
 have HHS:=hid (fun (h:¬ o.a=0)=>hs1 h)
 clear hecO hL hk0
 generalize hsD o.d=L at *
 have HIA:=hid (show (Tryz.prog.info? 43).map (·.size)=some (u8s L).toArray.size by rw [List.size_toArray];exact arr_info L hLl)
 have HIL:=hid (arr_info L hLl)
 have HSZ:=hid (show zH.size=(u8s L).toArray.size from (show zH.size=32 from rfl).trans (show (u8s L).toArray.size=32 by rw [List.size_toArray,u8s_length,hLl]).symm)
 have HFIT:=hid (show 9+(u8s L).toArray.size≤(ecR (o.ask 1) (hsO o)).toArray.size by rw [List.size_toArray,List.size_toArray,u8s_length,hLl];unfold ecR;simp [u8s_length,hlen])
 have HPUT:=hid (ecR_put (o.ask 1) (hsO o) L hlen hLl)
 have HLL:=hid hLl
 have HLO:=hid (h.lo p hp)
 clear hlen hLl h
 by_cases ha0:o.a=0
 ·have q1:(((o.a+1:Nat):Int)==1)=true:=by rw [ha0];rfl
  clear ha0 HHS
  have HADD:=hid (fun W hc hz=>add_at p 8 o.a ha W hc hz)
  go_enter Tryz.func122,Tryz.ntmps122
  go_wp2_with fail
  change Calls _ _ _ (w.alloc (.cells zH 43)) _
  generalize w.alloc (.cells zH 43)=W0 at *
  refine (HADD.out _ hcell hfz).mono ?_
  rintro e w1 ⟨rfl,hw1⟩
  have HR1:=hid (show w1.heap[p]?=some (.cells (ecR (o.ask 1) (hsO o)).toArray T (0,0)) by rw [hw1];exact row_set (i:=8) (u:=.int .i64 ((o.a+1:Nat):Int)) HA0.out)
  have HG1:=hid (show w.grownBy w1 (some p) by rw [hw1];exact grown_trans HG0.out (grown_cell _ _ _ _))
  have HX1:=hid (show w1.heap[w.heap.size]?=some (.cells zH 43 (0,0)) by rw [hw1];exact row_other (grown_cell _ _ _ _) HR0.out (by omega))
  have hb1:w.heap.size<w1.heap.size:=row_lt HX1.out
  have hp1:p<w1.heap.size:=row_lt HR1.out
  clear hw1 HADD HG0 HR0 HA0 hcell hfz hl0
  have HS:=hid (HDS.out w1 (row_other HG1.out HK.out.r (by have:=HLO.out;have:=HK.out.lr;omega)) (row_other HG1.out HK.out.i (by have:=HLO.out;have:=HK.out.li;omega)))
  have hcd:w1.cell? ⟨p,1,none⟩=some (.string o.d):=cell_of_row _ _ 1 _ _ _ HR1.out
  clear HDS
  go_wp2_with (first
   | (go_at_call 30;(with_reducible refine HS.out.mono ?_);rintro e w2 ⟨C,rfl,rfl,hb2⟩;have HR2:=hid ((hb2.block p hp1).trans HR1.out);have HG2:=hid (grown_trans HG1.out (grown_of_below hb2 _));have HX2:=hid ((hb2.block _ hb1).trans HX1.out);have hp2:p<w2.heap.size:=row_lt HR2.out;clear hb2 HS HR1 HG1 HX1 hcd)
   | (refine wpList_store_part rfl 43 (.tmp 16) (.tmp 14) rfl p 9 _ (u8s L).toArray rfl rfl T (ecR (o.ask 1) (hsO o)).toArray (ecR (o.ask 1) L).toArray HR2.out rfl HIA.out HFIT.out (u8s_all L) HPUT.out ?_;have HR3:=hid (setRow_at (cs:=(ecR (o.ask 1) L).toArray) HR2.out);have HG3:=hid (grown_trans HG2.out (grown_row w2 p (ecR (o.ask 1) L).toArray));have HX3:=hid (row_other (grown_row w2 p (ecR (o.ask 1) L).toArray) HX2.out (by omega));clear HR2 HG2 HX2)
   | (refine wpList_load_at rfl 43 (.tmp 19) rfl p 9 rfl (u8s L) _ (hash_range HLL.out HR3.out) Tryz.underlying43 rfl HIL.out ?_)
   | (refine wpList_store_row rfl 43 (.tmp 2) (.tmp 20) rfl w.heap.size (u8s L).toArray rfl rfl 43 _ HX3.out HIA.out HSZ.out (u8s_all L) ?_))
  refine bodyPost_ret (v:=.agg (u8s L).toArray) (results_cell_row rfl _ _ w.heap.size 43 (u8s L).toArray (0,0) _ rfl (setRow_at HX3.out) Tryz.underlying43 rfl HIA.out) rfl ?_
  exact⟨rfl,HF.out _ (grown_newRow HG3.out (Nat.le_refl _) _) (by rw [HE.out];exact row_other (grown_row _ _ _) HR3.out (by omega))⟩
 ·have q1:(((o.a+1:Nat):Int)==1)=false:=by rw [beq_eq_false_iff_ne];omega
  have HAR:=hid (show ecO o=ecR o L by unfold ecO ecR;rw [HHS.out ha0])
  clear ha0 HHS HDS
  have HADD:=hid (fun W hc hz=>add_at p 8 o.a ha W hc hz)
  go_enter Tryz.func122,Tryz.ntmps122
  go_wp2_with fail
  change Calls _ _ _ (w.alloc (.cells zH 43)) _
  generalize w.alloc (.cells zH 43)=W0 at *
  refine (HADD.out _ hcell hfz).mono ?_
  rintro e w1 ⟨rfl,hw1⟩
  have HR1:=hid (show w1.heap[p]?=some (.cells (ecR (o.ask 1) L).toArray T (0,0)) by rw [hw1];exact row_set (cs:=ecR o L) (i:=8) (u:=.int .i64 ((o.a+1:Nat):Int)) (by rw [← HAR.out];exact HA0.out))
  have HG1:=hid (show w.grownBy w1 (some p) by rw [hw1];exact grown_trans HG0.out (grown_cell _ _ _ _))
  have HX1:=hid (show w1.heap[w.heap.size]?=some (.cells zH 43 (0,0)) by rw [hw1];exact row_other (grown_cell _ _ _ _) HR0.out (by omega))
  have hb1:w.heap.size<w1.heap.size:=row_lt HX1.out
  have hp1:p<w1.heap.size:=row_lt HR1.out
  clear hw1 HADD HG0 HR0 HA0 hcell hfz hl0
  go_wp2_with (first
   | (refine wpList_load_at rfl 43 (.tmp 19) rfl p 9 rfl (u8s L) _ (hash_range HLL.out HR1.out) Tryz.underlying43 rfl HIL.out ?_)
   | (refine wpList_store_row rfl 43 (.tmp 2) (.tmp 20) rfl w.heap.size (u8s L).toArray rfl rfl 43 _ HX1.out HIA.out HSZ.out (u8s_all L) ?_))
  refine bodyPost_ret (v:=.agg (u8s L).toArray) (results_cell_row rfl _ _ w.heap.size 43 (u8s L).toArray (0,0) _ rfl (setRow_at HX1.out) Tryz.underlying43 rfl HIA.out) rfl ?_
  exact⟨rfl,HF.out _ (grown_newRow HG1.out (Nat.le_refl _) _) (by rw [HE.out];exact row_other (grown_row _ _ _) HR1.out (by omega))⟩
set_option linter.unusedVariables false
set_option linter.unusedSimpArgs false
set_option maxRecDepth 100000
open Go.ChangeShapes Go.WideShapes Go.ChangeAt Go.RowKit
open Ar Rg Nd
def cn (a b:Nat):Int:=if a<b then -1 else if b<a then 1 else 0
theorem isNaN32 (a:Nat) (w:World):Calls Tryz.prog 92 #[.int .u32 a] w fun e w'=>e=.returned (.bool false)∧w=w':=by
 go_enter Tryz.func92,Tryz.ntmps92
 go_wp2
 go_ret
 exact⟨by simp,rfl⟩
theorem compare32 (a b:Nat) (w:World):Calls Tryz.prog 67 #[.int .u32 a,.int .u32 b] w fun e w'=>e=.returned (.int .i64 (cn a b))∧w=w':=by
 have HA:=hid (isNaN32 a)
 have HB:=hid (isNaN32 b)
 unfold cn
 by_cases h1:a<b
 ·have d1:decide ((a:Int)<(b:Int))=true:=by simp;omega
  rw [if_pos h1]
  go_enter Tryz.func67,Tryz.ntmps67
  go_wp2_with fail
  refine (HA.out _).mono ?_
  rintro e w1 ⟨rfl,rfl⟩
  go_wp2_with fail
  refine (HB.out _).mono ?_
  rintro e w1 ⟨rfl,rfl⟩
  go_wp2
  go_ret
  exact⟨rfl,rfl⟩
 ·have d1:decide ((a:Int)<(b:Int))=false:=by simp;omega
  rw [if_neg h1]
  by_cases h2:b<a
  ·have d2:decide ((b:Int)<(a:Int))=true:=by simp;omega
   rw [if_pos h2]
   go_enter Tryz.func67,Tryz.ntmps67
   go_wp2_with fail
   refine (HA.out _).mono ?_
   rintro e w1 ⟨rfl,rfl⟩
   go_wp2_with fail
   refine (HB.out _).mono ?_
   rintro e w1 ⟨rfl,rfl⟩
   go_wp2
   go_ret
   exact⟨rfl,rfl⟩
  ·have d2:decide ((b:Int)<(a:Int))=false:=by simp;omega
   rw [if_neg h2]
   go_enter Tryz.func67,Tryz.ntmps67
   go_wp2_with fail
   refine (HA.out _).mono ?_
   rintro e w1 ⟨rfl,rfl⟩
   go_wp2_with fail
   refine (HB.out _).mono ?_
   rintro e w1 ⟨rfl,rfl⟩
   go_wp2
   go_ret
   exact⟨rfl,rfl⟩
theorem findCmp_at {w:World}{p:Nat}{o:Ob}(h:At w p o) (k:Nat) (c:Int) (hc:cn o.num k=c) :
  Calls Tryz.prog 66 #[.pointer (some ⟨p,0,none⟩),.int .u32 k] w fun e w'=>e=.returned (.int .i64 c)∧w=w':=by
 subst hc
 have hn:=h.cell (i:=0) (v:=.int .u32 o.num) rfl
 have hl:=h.lt
 clear h
 have HC:=hid (fun w=>compare32 o.num k w)
 generalize cn o.num k=c at *
 go_enter Tryz.func66,Tryz.ntmps66
 go_wp2_with fail
 refine (HC.out _).mono ?_
 rintro e w1 ⟨rfl,rfl⟩
 go_wp2
 go_ret
 exact⟨rfl,rfl⟩
theorem cn_lt (a b:Nat):cn a b<0↔a<b:=by
 unfold cn
 split
 ·simp [*]
 ·split<;>simp [*]
theorem cn_eq (a b:Nat):cn a b=0↔a=b:=by
 unfold cn
 split
 ·constructor
  ·intro h;cases h
  ·omega
 ·split
  ·constructor
   ·intro h;cases h
   ·omega
  ·constructor
   ·omega
   ·intro _;rfl
def Bs (G:Nat→Bool) (L0 H0 lo hi:Nat):Prop:=L0≤lo∧lo≤hi∧hi≤H0∧(lo=L0∨G (lo-1)=false)∧(hi=H0∨G hi=true)
theorem Bs.start (G:Nat→Bool){L0 H0:Nat}(h:L0≤H0):Bs G L0 H0 L0 H0:=⟨Nat.le_refl _,h,Nat.le_refl _,.inl rfl,.inl rfl⟩
theorem Bs.up {G:Nat→Bool}{L0 H0 lo hi c:Nat}(h:Bs G L0 H0 lo hi) (h1:lo≤c) (h2:c<hi) (hc:G c=false):Bs G L0 H0 (c+1) hi:=⟨by have:=h.1;omega,by omega,h.2.2.1,.inr hc,h.2.2.2.2⟩
theorem Bs.down {G:Nat→Bool}{L0 H0 lo hi c:Nat}(h:Bs G L0 H0 lo hi) (h1:lo≤c) (h2:c<hi) (hc:G c=true):Bs G L0 H0 lo c:=⟨h.1,h1,by have:=h.2.2.1;omega,h.2.2.2.1,.inr hc⟩
def Up (s:Nat→Ob) (P:List Nat):Prop:=List.Pairwise (fun p q=>(s p).num<(s q).num) P
theorem up_lt {s:Nat→Ob}{P:List Nat}(h:Up s P){i j:Nat}{x y:Nat}(hx:P[i]?=some x) (hy:P[j]?=some y) (hij:i<j):(s x).num<(s y).num:=by
 obtain⟨h1,rfl⟩:=List.getElem?_eq_some_iff.1 hx
 obtain⟨h2,rfl⟩:=List.getElem?_eq_some_iff.1 hy
 exact List.pairwise_iff_getElem.1 h i j h1 h2 hij
def GI (s:Nat→Ob) (P:List Nat) (k:Nat) (c:Nat):Bool:=match P[c]? with | some z=>!decide ((s z).num<k) | none=>false
theorem GI_at {s:Nat→Ob}{P:List Nat}{k:Nat}{z:Nat}{c:Nat}(h:P[c]?=some z):GI s P k c=!decide ((s z).num<k):=by unfold GI;rw [h]
def Pos (s:Nat→Ob) (P:List Nat) (k p:Nat):Prop:=p≤P.length∧(∀ j y,P[j]?=some y→j<p→(s y).num<k)∧(∀ j y,P[j]?=some y→p≤j→k≤(s y).num)
theorem pos_of {s:Nat→Ob}{P:List Nat}{k p:Nat}(hs:Up s P) (h:Bs (GI s P k) 0 P.length p p):Pos s P k p:=by
 obtain⟨_,_,h1,h2,h3⟩:=h
 refine⟨h1,fun j y hy hj=>?_,fun j y hy hj=>?_⟩
 ·rcases h2 with h2 | h2
  ·omega
  ·have hz:P[p-1]?=some (P[p-1]'(by omega)):=List.getElem?_eq_getElem _
   rw [GI_at hz] at h2
   have h2:(s (P[p-1]'(by omega))).num<k:=by simpa using h2
   by_cases e:j=p-1
   ·subst e
    rw [hz] at hy
    rw [← Option.some.inj hy];exact h2
   ·exact Nat.lt_trans (up_lt hs hy hz (by omega)) h2
 ·have hjl:j<P.length:=(List.getElem?_eq_some_iff.1 hy).1
  rcases h3 with h3 | h3
  ·omega
  ·have hz:P[p]?=some (P[p]'(by omega)):=List.getElem?_eq_getElem _
   rw [GI_at hz] at h3
   have h3:k≤(s (P[p]'(by omega))).num:=by simpa using h3
   by_cases e:j=p
   ·subst e
    rw [hz] at hy
    rw [← Option.some.inj hy];exact h3
   ·have:=up_lt hs hz hy (by omega)
    omega
def found (s:Nat→Ob) (P:List Nat) (k p:Nat):Bool:=match P[p]? with | some y=>decide ((s y).num=k) | none=>false
theorem found_at {s:Nat→Ob}{P:List Nat}{k p:Nat}{y:Nat}(h:P[p]?=some y):found s P k p=decide ((s y).num=k):=by unfold found;rw [h]
theorem found_out {s:Nat→Ob}{P:List Nat}{k p:Nat}(h:P.length≤p):found s P k p=false:=by unfold found;rw [List.getElem?_eq_none h]
def Rows (w:World) (P:List Nat) (s:Nat→Ob):Prop:=∀ p∈P,At w p (s p)
theorem Rows.below {w w':World}{P:List Nat}{s:Nat→Ob}(h:Rows w P s) (hb:Below w.heap.size w w'):Rows w' P s:=fun p hp=>(hb.block p (h p hp).lt).trans (h p hp)
theorem HpAt.rows {n0:Nat}{w:World}{P:List Nat}{s:Nat→Ob}(h:HpAt n0 w P s):Rows w P s:=fun p hp=>h.row p hp
set_option maxHeartbeats 2000000 in
theorem search_any (P:List Nat) (s:Nat→Ob) (k:Nat) (A:Option Addr) (n cap:Nat) (hn:n=P.length) (hm:n≤281474976710656) (hs:Up s P) (w:World) (hD:Ls enP 1 w w.heap.size A P) (hR:Rows w P s) :
  Calls Tryz.prog 65 #[.slice A n cap,.int .u32 k,.func (.func 66) #[] #[]] w fun e w'=>∃ p:Nat,Pos s P k p∧e=.returned (.tuple #[.int .i64 p,.bool (found s P k p)])∧Below w.heap.size w w':=by
 have HN:=hid hn
 have HD:=hid hD
 have HS:=hid hs
 have HR:=hid hR
 clear hn hD hs hR
 go_enter Tryz.func65,Tryz.ntmps65
 go_wp2_with fail
 go_loopw [9,10] (fun v u wr=>∃ lo hi:Nat,v=.int .i64 lo∧u=.int .i64 hi∧Hid (Bs (GI s P k) 0 n lo hi)∧Hid (Below w.heap.size w wr)) (fun v u _=>(intOf u).toNat-(intOf v).toNat)
 case atStart=>exact⟨0,n,by go_num,by go_num,Bs.start _ (Nat.zero_le _),Below.refl _ _⟩
 case round =>
  obtain⟨lo,hi,rfl,rfl,hbs,hbel⟩:=hrel
  obtain⟨_,n2,n3,_⟩:=Hid.out hbs
  have hL:=HD.out.below (Hid.out hbel)
  have hRR:=HR.out.below (Hid.out hbel)
  by_cases hlt:lo<hi
  ·obtain⟨h,hh⟩:∃ h:Nat,((lo:Int)+(hi:Int)) / 2=(h:Int):=⟨(lo+hi) / 2,by omega⟩
   have n4:lo≤h:=by omega
   have n5:h<hi:=by omega
   have n6:(0:Int)≤(h:Int):=by omega
   have n7:(h:Int)<(n:Int):=by omega
   obtain⟨z,hz⟩:∃ z,P[h]?=some z:=⟨_,List.getElem?_eq_getElem (by rw [← HN.out];omega)⟩
   obtain⟨b,o,hAe,hb,hr⟩:=hL h z hz
   have HRZ:=hid (hRR z (List.mem_of_getElem? hz))
   have hbl:b<wr.heap.size:=Nat.lt_of_lt_of_le hb (Hid.out hbel).size
   have hc0:wr.cell? ⟨b,o+h,none⟩=some (.pointer (some ⟨z,0,none⟩)):=by have:=hr 0 _ rfl;rwa [Nat.mul_one] at this
   clear hL hr hRR
   subst hAe
   obtain⟨c,hcf⟩:∃ c,cn (s z).num k=c:=⟨_,rfl⟩
   have hcl:=cn_lt (s z).num k
   rw [hcf] at hcl
   have HCF:=hid hcf
   by_cases hlk:(s z).num<k
   ·have hc:c<0:=hcl.2 hlk
    have HUP:=hid ((Hid.out hbs).up n4 n5 (by rw [GI_at hz,decide_eq_true hlk];rfl))
    clear hcl hcf hbs hz hlk
    go_wp2_with (go_at_call 66;refine (findCmp_at HRZ.out k c HCF.out).mono ?_;rintro e w1 ⟨rfl,rfl⟩)
    exact⟨⟨h+1,hi,by go_num,rfl,HUP.out,Hid.out hbel⟩,by simp [intOf]<;>omega⟩
   ·have hc:0≤c:=by
     have:¬ c<0:=fun e=>hlk (hcl.1 e)
     omega
    have HDN:=hid ((Hid.out hbs).down n4 n5 (by rw [GI_at hz,decide_eq_false hlk];rfl))
    clear hcl hcf hbs hz hlk
    go_wp2_with (go_at_call 66;refine (findCmp_at HRZ.out k c HCF.out).mono ?_;rintro e w1 ⟨rfl,rfl⟩)
    exact⟨⟨lo,h,rfl,rfl,HDN.out,Hid.out hbel⟩,by simp [intOf]<;>omega⟩
  ·obtain rfl:lo=hi:=by omega
   have HAT:=hid (pos_of HS.out (by have:=Hid.out hbs;rw [HN.out] at this;exact this))
   clear hbs
   by_cases hp:lo<n
   ·obtain⟨z,hz⟩:∃ z,P[lo]?=some z:=⟨_,List.getElem?_eq_getElem (by rw [← HN.out];omega)⟩
    obtain⟨b,o,hAe,hb,hr⟩:=hL lo z hz
    have HRZ:=hid (hRR z (List.mem_of_getElem? hz))
    have hbl:b<wr.heap.size:=Nat.lt_of_lt_of_le hb (Hid.out hbel).size
    have hc0:wr.cell? ⟨b,o+lo,none⟩=some (.pointer (some ⟨z,0,none⟩)):=by have:=hr 0 _ rfl;rwa [Nat.mul_one] at this
    clear hL hr hRR
    subst hAe
    obtain⟨c,hcf⟩:∃ c,cn (s z).num k=c:=⟨_,rfl⟩
    have hce:=cn_eq (s z).num k
    rw [hcf] at hce
    have HF:=hid (show found s P k lo=(c==0) by rw [found_at hz,Bool.eq_iff_iff];simp [hce])
    have HCF:=hid hcf
    clear hcf hce hz
    go_wp2_with (go_at_call 66;refine (findCmp_at HRZ.out k c HCF.out).mono ?_;rintro e w1 ⟨rfl,rfl⟩)
    go_ret2
    exact⟨lo,HAT.out,by rw [HF.out];rfl,Hid.out hbel⟩
   ·have HF:=hid (found_out (s:=s) (P:=P) (k:=k) (p:=lo) (by rw [← HN.out];omega))
    clear hL hRR
    go_wp2
    go_ret2
    exact⟨lo,HAT.out,by rw [HF.out];rfl,Hid.out hbel⟩
def fndP (s:Nat→Ob) (P:List Nat) (k:Nat):Option Nat:=P.find? fun p=>decide ((s p).num=k)
theorem fndP_some {s:Nat→Ob}{P:List Nat}{k p:Nat}(h:fndP s P k=some p):p∈P∧(s p).num=k:=by
 unfold fndP at h
 exact⟨List.mem_of_find?_eq_some h,by simpa using List.find?_some h⟩
theorem fndP_none {s:Nat→Ob}{P:List Nat}{k:Nat}(h:fndP s P k=none):∀ p∈P,(s p).num≠k:=by
 unfold fndP at h
 intro p hp
 simpa using List.find?_eq_none.1 h p hp
theorem up_inj {s:Nat→Ob}{P:List Nat}(h:Up s P){x y:Nat}(hx:x∈P) (hy:y∈P) (he:(s x).num=(s y).num):x=y:=by
 obtain⟨i,hi⟩:=List.mem_iff_getElem?.1 hx
 obtain⟨j,hj⟩:=List.mem_iff_getElem?.1 hy
 rcases Nat.lt_trichotomy i j with h1 | h1 | h1
 ·have:=up_lt h hi hj h1;omega
 ·subst h1;rw [hi] at hj;exact Option.some.inj hj
 ·have:=up_lt h hj hi h1;omega
theorem fndP_yes {s:Nat→Ob}{P:List Nat}(h:Up s P){x k:Nat}(hx:x∈P) (he:(s x).num=k):fndP s P k=some x:=by
 cases hf:fndP s P k with
 | none=>exact absurd he (fndP_none hf x hx)
 | some y =>
  obtain⟨hy,e⟩:=fndP_some hf
  rw [up_inj h hy hx (by omega)]
theorem fndP_no {s:Nat→Ob}{P:List Nat}{k p:Nat}(ha:Pos s P k p) (hs:Up s P) (hf:found s P k p=false):fndP s P k=none:=by
 unfold fndP
 rw [List.find?_eq_none]
 intro x hx e
 have e:(s x).num=k:=by simpa using e
 obtain⟨j,hj⟩:=List.mem_iff_getElem?.1 hx
 rcases Nat.lt_trichotomy j p with h | h | h
 ·have:=ha.2.1 j x hj h;omega
 ·subst h
  rw [found_at hj] at hf
  simp [e] at hf
 ·have hpl:p<P.length:=by have:=(List.getElem?_eq_some_iff.1 hj).1;omega
  have hz:P[p]?=some (P[p]'hpl):=List.getElem?_eq_getElem _
  have h1:=up_lt hs hz hj h
  have h2:=ha.2.2 p _ hz (Nat.le_refl _)
  omega
def Wk (n0:Nat) (w:World) (q:Nat) (P:List Nat) (s:Nat→Ob):Prop :=
 (∃ cs t v,w.heap[q]?=some (.cells cs t (0,0))∧t≠T∧cs[1]?=some v∧OwP n0 w v P)∧HpAt n0 w P s∧Up s P∧P.length≤281474976710656
def ptrO:Option Nat→Value
 | some p=>.pointer (some ⟨p,0,none⟩)
 | none=>.pointer none
def fcO:Option Nat→Int
 | some _=>0
 | none=>5
set_option maxHeartbeats 2000000 in
theorem find_any {n0 q:Nat}{w:World}{P:List Nat}{s:Nat→Ob}(h:Wk n0 w q P s) (k:Nat) :
  Calls Tryz.prog 34 #[.pointer (some ⟨q,0,none⟩),.int .u32 k] w fun e w'=>e=.returned (.tuple #[ptrO (fndP s P k),.int .i64 (fcO (fndP s P k))])∧Below w.heap.size w w':=by
 obtain⟨⟨cs,t,v,hrow,ht,hv,hO⟩,hH,hU,hm⟩:=h
 obtain⟨A,c,rfl,_,_,hL⟩:=hO.ls
 have hq:q<w.heap.size:=row_lt hrow
 have hc0:w.cell? ⟨q,1,none⟩=some (.slice A P.length c):=(cell_of_row _ _ 1 _ _ _ hrow).trans hv
 obtain⟨n,hn⟩:∃ n,P.length=n:=⟨_,rfl⟩
 rw [hn] at hc0 hm
 have HC:=hid (search_any P s k A n c hn.symm hm hU w hL hH.rows)
 have HL:=hid hL
 have HN:=hid hn
 have HU:=hid hU
 clear hO hv hL hn hH hU hrow
 go_enter Tryz.func34,Tryz.ntmps34
 go_wp2_with fail
 refine HC.out.mono ?_
 rintro e w2 ⟨p,hat,rfl,hb⟩
 have hpn:p≤n:=by rw [← HN.out];exact hat.1
 have HAT:=hid hat
 have HB:=hid hb
 have hc2:w2.cell? ⟨q,1,none⟩=some (.slice A n c):=(World.cell?_of_block (a:=⟨q,1,none⟩) (hb.block q hq)).trans hc0
 have hq2:q<w2.heap.size:=Nat.lt_of_lt_of_le hq hb.size
 clear hat hb
 cases hf:found s P k p
 ·have HX:=hid (fndP_no HAT.out HU.out hf)
  clear hf
  go_wp2_with fail
  go_ret2
  exact⟨by rw [HX.out];rfl,HB.out⟩
 ·have hpl:p<n:=by
   rcases Nat.lt_or_ge p n with h | h
   ·exact h
   ·rw [found_out (by rw [HN.out];exact h)] at hf;cases hf
  obtain⟨z,hz⟩:∃ z,P[p]?=some z:=⟨_,List.getElem?_eq_getElem (by rw [HN.out];exact hpl)⟩
  rw [found_at hz,decide_eq_true_iff] at hf
  have HX:=hid (fndP_yes HU.out (List.mem_of_getElem? hz) hf)
  obtain⟨b,o,hAe,hb,hr⟩:=(HL.out.below HB.out) p z hz
  have hbl:b<w2.heap.size:=Nat.lt_of_lt_of_le hb HB.out.size
  have hc4:w2.cell? ⟨b,o+p,none⟩=some (.pointer (some ⟨z,0,none⟩)):=by have:=hr 0 _ rfl;rwa [Nat.mul_one] at this
  clear hr hz hf
  subst hAe
  go_wp2_with fail
  go_ret2
  exact⟨by rw [HX.out];rfl,HB.out⟩
open BigFrame
open Pk (u8s u8s_length)
theorem fndP_congr {s t:Nat→Ob}{P:List Nat}(h:∀ p,(t p).num=(s p).num) (k:Nat):fndP t P k=fndP s P k:=by
 unfold fndP
 congr 1
 funext p
 rw [h p]
def allF (s:Nat→Ob) (P:List Nat) (D:List Kd):Bool:=D.all fun k=>(fndP s P k.n).isSome
def okF (s:Nat→Ob) (P:List Nat) (k:Kd):Bool:=match fndP s P k.n with | some p=>decide (hsD (s p).d=k.hs) | none=>false
def goodF (s:Nat→Ob) (P:List Nat) (D:List Kd):Bool:=D.all (okF s P)
def psF (s:Nat→Ob) (P:List Nat) (D:List Kd):List Nat:=D.filterMap fun k=>fndP s P k.n
theorem psF_mem {s:Nat→Ob}{P:List Nat}{D:List Kd}:∀ p∈psF s P D,p∈P:=by
 intro p hp
 unfold psF at hp
 obtain⟨k,_,hk⟩:=List.mem_filterMap.1 hp
 exact (fndP_some hk).1
theorem take_snoc {α:Type}{D:List α}{i:Nat}{x:α}(h:D[i]?=some x):D.take (i+1)=D.take i++[x]:=by
 obtain⟨hk,e⟩:=List.getElem?_eq_some_iff.1 h
 rw [List.take_succ_eq_append_getElem hk,e]
theorem Off.grown {n0:Nat}{w0 wr w':World}{row:Option Nat}(h:Off n0 w0 wr) (hg:wr.grownBy w' row) (hr:∀ g,row=some g→w0.heap.size≤g):Off n0 w0 w' :=
 ⟨hg.os.trans h.os,hg.tape.trans h.tape,hg.output.trans h.output,Nat.le_trans h.size hg.size,fun k hk hh=>by
  rw [hg.block k (Nat.lt_of_lt_of_le hk h.size) (fun e=>by have:=hr k e.symm;omega)]
  exact h.block k hk hh⟩
theorem HpAt.carry {n0:Nat}{w0 wr:World}{P:List Nat}{s t:Nat→Ob}(h:HpAt n0 w0 P s) (ho:Off n0 w0 wr) (hr:Rows wr P t) (ht:∀ p∈P,(t p).n=(s p).n∧(t p).vI=(s p).vI∧(t p).vK=(s p).vK∧(t p).vV=(s p).vV∧(t p).bl=(s p).bl∧(t p).bv=(s p).bv):HpAt n0 wr P t :=
 ⟨h.nd,h.lo,hr,fun p hp=>by
  obtain⟨e1,e2,e3,e4,_,_⟩:=ht p hp
  rw [e1,e2,e3,e4];exact (h.own p hp).off ho,fun p hp=>by
  obtain⟨_,_,_,_,e5,e6⟩:=ht p hp
  rw [e5,e6];exact ho.own (by decide) (h.bel p hp)⟩
theorem Rows.grown {wr w':World}{P:List Nat}{s:Nat→Ob}{row:Option Nat}(h:Rows wr P s) (hg:wr.grownBy w' row) (hr:∀ p∈P,row≠some p):Rows w' P s:=fun p hp =>
 (hg.block p (h p hp).lt (fun e=>hr p hp e.symm)).trans (h p hp)
theorem OwP.mk {b:Nat}{wr:World}{v:Value}{D:List Nat}(h:OwP b wr v D) (hb:b≤wr.heap.size):∃ X:World,X.heap.size=b∧MkP X wr v D:=by
 have hz:(wr.heap.extract 0 b).size=b:=by rw [Array.size_extract];omega
 refine⟨{ wr with heap:=wr.heap.extract 0 b },hz,?_,rfl,rfl,rfl,by show (wr.heap.extract 0 b).size≤wr.heap.size;omega,fun k hk=>?_⟩
 ·show wr.ownsRow (wr.heap.extract 0 b).size TP 1 v D.length (D.flatMap enP)
  rw [hz];exact h
 ·have hk':k<b:=by rw [← hz];exact hk
  show wr.heap[k]?=(wr.heap.extract 0 b)[k]?
  rw [Array.getElem?_extract,if_pos (by omega),Nat.zero_add]
theorem infP:(Tryz.prog.info? TP).map (fun i=>(i.zero,i.size,i.bytes))=some (some (.pointer none),1,8):=by kernel_rfl
section
variable {o:Oper}{a:Act}{K:Act→World→Prop}{Q:Exit→Act→World→Prop}{w wr:World}{v:Value}
theorem op_catP {D:List Nat}(hM:MkP w wr v D) (y:Nat) (g c:Nat){t:TypeId}{f:Nat×Nat}(hrow:wr.heap[g]?=some (.cells (enP y).toArray t f)) (hlen:D.length+1≤17592186044416)
  (s x:Operand) (ho:o.op=.call { callee:=.builtin .append,args:=#[s,x],argTypes:=#[66,66] }) (hs:a.eval s=v) (hx:a.eval x=.slice (some ⟨g,0,none⟩) 1 c)
  (h:∀ v' w',MkP w w' v' (D++[y])→wr.grownBy w' v.ownBlock→(v'.ownBlock=v.ownBlock∨v'.ownBlock=some wr.heap.size)→K (a.put o.dst v') w'):Oper.wp Tryz.prog o a wr K Q:=by
 obtain⟨i0,hi,hz0,hz1,hz2⟩:=info_parts infP
 exact op_cat 66 i0 _ 8 Tryz.underlying66 hi hz0 hz1 hz2 rfl (by decide) enP_len enP_one hM y g c hrow (by unfold maxLen;omega) (by omega) s x ho hs hx h
end
theorem Wk.off {n0 q:Nat}{w w':World}{P:List Nat}{s t:Nat→Ob}(h:Wk n0 w q P s) (ho:Off n0 w w') (hH:HpAt n0 w' P t) (hn:∀ p,(t p).num=(s p).num):Wk n0 w' q P t:=by
 obtain⟨⟨cs,ty,v,hrow,ht,hv,hO⟩,_,hU,hm⟩:=h
 refine⟨⟨cs,ty,v,ho.row hrow ht,ht,hv,ho.own (by decide) hO⟩,hH,?_,hm⟩
 unfold Up
 simp only [hn]
 exact hU
theorem Wk.go {n0 q:Nat}{w w':World}{P:List Nat}{s:Nat→Ob}(h:Wk n0 w q P s) (hb:Below w.heap.size w w'):Wk n0 w' q P s:=h.off (Off.of_below hb) (h.2.1.go hb) (fun _=>rfl)
theorem own_ls {α:Type}{enc:α→List Value}{k n c b:Nat}{e:TypeId}{A:Option Addr}{w:World}{D:List α}(hk:∀ x,(enc x).length=k) (h:w.ownsRow b e k (.slice A n c) D.length (D.flatMap enc)):Ls enc k w w.heap.size A D:=by
 have hm:Mk enc k e { w with heap:=#[] } w (.slice A n c) D:=⟨World.ownsRow.mono h (Nat.zero_le _),⟨rfl,rfl,rfl,Nat.zero_le _,fun k hk=>absurd hk (Nat.not_lt_zero _)⟩⟩
 obtain⟨A',c',e1,_,_,hl⟩:=hm.ls hk
 simp only [Value.slice.injEq] at e1
 obtain⟨rfl,_,_⟩:=e1
 exact hl
theorem kid_hash {w:World}{g:Nat}{x:Kd}(hx:x.hs.length=32) (h:w.heap[g]?=some (.cells (ecK x).toArray 45 (0,0))):w.rangeAt g 2 (u8s x.hs):=rangeAt_row h (fun a v hv=>by unfold ecK;rw [fix_of hx,List.getElem?_toArray,Nat.add_comm 2 a];exact hv)
theorem ask_zero (o:Ob):o.ask 0=o:=by cases o;rfl
theorem all_no {s:Nat→Ob}{P:List Nat}{D:List Kd}{i:Nat}{x:Kd}(hx:D[i]?=some x) (h:fndP s P x.n=none):allF s P D=false:=by
 unfold allF
 rw [List.all_eq_false]
 exact⟨x,List.mem_of_getElem? hx,by simp [h]⟩
theorem HpAt.drew {n0:Nat}{w:World}{P:List Nat}{s:Nat→Ob}(h:HpAt n0 w P s):HpAt n0 w.drew P s:=h.go (Below.refl _ _).drew
theorem Off.drew {n0:Nat}{w w':World}(h:Off n0 w w'):Off n0 w w'.drew:=h.trans (Off.of_below (Below.refl _ _).drew)
def BelPost (n0:Nat) (w:World) (P:List Nat) (s:Nat→Ob) (D:List Kd) (e:Ending) (w':World):Prop :=
 ∃ (E:List Nat) (s':Nat→Ob) (v:Value) (z:Int),e=.returned (.tuple #[v,.int .i64 z])∧HpAt n0 w' P s'∧Off n0 w w'∧s'=(fun p=>(s p).ask (E.count p))∧(∃ A n c,v=.slice A n c) ∧
  ((z=5∧allF s P D=false)∨(allF s P D=true∧z=(if goodF s P D then 0 else 9)∧E=psF s P D∧OwP w.heap.size w' v E))
structure BelI (n0:Nat) (w0 wr:World) (P:List Nat) (s:Nat→Ob) (D:List Kd) (i:Nat) (z:Int) (E:List Nat) (v:Value):Prop where
 at_:HpAt n0 wr P (fun p=>(s p).ask (E.count p))
 off:Off n0 w0 wr
 all:allF s P (D.take i)=true
 code:z=(if goodF s P (D.take i) then 0 else 9)
 out:E=psF s P (D.take i)
 own:OwP w0.heap.size wr v E
theorem BelI.nil {n0:Nat}{w0:World}{P:List Nat}{s:Nat→Ob}{D:List Kd}(h:HpAt n0 w0 P s):BelI n0 w0 w0 P s D 0 0 [] (.slice none 0 0) :=
 ⟨by simp only [List.count_nil,ask_zero];exact h,Off.refl _ _,rfl,rfl,rfl,World.ownsRow_nil _ _ _ _⟩
theorem all_snoc {s:Nat→Ob}{P:List Nat}{D:List Kd}{i:Nat}{x:Kd}(hx:D[i]?=some x):allF s P (D.take (i+1))=(allF s P (D.take i)&&(fndP s P x.n).isSome):=by
 unfold allF;rw [take_snoc hx,List.all_append];simp
theorem good_snoc {s:Nat→Ob}{P:List Nat}{D:List Kd}{i:Nat}{x:Kd}(hx:D[i]?=some x):goodF s P (D.take (i+1))=(goodF s P (D.take i)&&okF s P x):=by
 unfold goodF;rw [take_snoc hx,List.all_append];simp
theorem ps_snoc {s:Nat→Ob}{P:List Nat}{D:List Kd}{i:Nat}{x:Kd}{p:Nat}(hx:D[i]?=some x) (hf:fndP s P x.n=some p):psF s P (D.take (i+1))=psF s P (D.take i)++[p]:=by
 unfold psF;rw [take_snoc hx,List.filterMap_append];simp [hf]
theorem upd_count (s:Nat→Ob) (E:List Nat) (z:Nat):upd (fun p=>(s p).ask (E.count p)) z (((s z).ask (E.count z)).ask 1)=fun p=>(s p).ask ((E++[z]).count p):=by
 funext p
 by_cases e:p=z
 ·subst e
  rw [upd_same,List.count_append,List.count_cons_self,List.count_nil]
  rfl
 ·rw [upd_other e,List.count_append,List.count_cons_of_ne (Ne.symm e),List.count_nil]
  rfl
theorem BelI.next {n0 i z:Nat}{w3 wr w5 w6 X:World}{P E:List Nat}{s s1:Nat→Ob}{D:List Kd}{z0:Int}{A6:Option Addr}{n6 c6:Nat}{x:Kd}{o:Obj}{v:Value}(h:BelI n0 w3 wr P s D i z0 E (.slice A6 n6 c6)) (h3:HpAt n0 w3 P s) (hx:D[i]?=some x) (hf:fndP s P x.n=some z)
  (hs1:(fun p=>(s p).ask (E.count p))=s1) (hH5:HpAt n0 w5 P (upd s1 z ((s1 z).ask 1))) (ho5:Off n0 w3 w5) (hown5:OwP w3.heap.size w5 (.slice A6 n6 c6) E) (hX:X.heap.size=w3.heap.size) (hm6:MkP X w6 v (E++[z])) (hg6:(w5.alloc o).grownBy w6 (Value.slice A6 n6 c6).ownBlock) :
  BelI n0 w3 w6 P s D (i+1) (if hsD (s z).d=x.hs then z0 else 9) (E++[z]) v:=by
 have hr:∀ g,(Value.slice A6 n6 c6).ownBlock=some g→w3.heap.size≤g:=fun g hg=>(World.ownsRow.lt hown5 g hg).1
 have hal:Below w5.heap.size w5 (w5.alloc o):=(Below.refl _ _).alloc (Nat.le_refl _) _
 have off6:Off n0 w3 w6:=(ho5.trans (Off.of_below hal)).grown hg6 hr
 have rows6:Rows w6 P (upd s1 z ((s1 z).ask 1)):=(hH5.rows.below hal).grown hg6 fun p hp e=>by have:=hr p e;have:=h3.lt hp;omega
 have hu:upd s1 z ((s1 z).ask 1)=fun p=>(s p).ask ((E++[z]).count p):=by subst hs1;exact upd_count s E z
 rw [hu] at rows6
 refine⟨h3.carry off6 rows6 fun p hp=>⟨rfl,rfl,rfl,rfl,rfl,rfl⟩,off6,by rw [all_snoc hx,h.all,hf];rfl,?_,by rw [ps_snoc hx hf,← h.out],?_⟩
 ·rw [good_snoc hx]
  have hc:=h.code
  unfold okF
  rw [hf]
  by_cases e:hsD (s z).d=x.hs
  ·simp only [e,decide_true,Bool.and_true,if_true];exact hc
  ·simp [e]
 ·have:=hm6.1
  rw [hX] at this
  exact this
set_option maxHeartbeats 4000000 in
theorem below_any {tK tS:TypeId}{n0 q:Nat}{w:World}{P:List Nat}{s:Nat→Ob}(h:Wk n0 w q P s) (hk:Kc tK tS n0 w) (hn:n0≤w.heap.size) (hd:∀ p∈P,(s p).d.size≤140737488351232) (ha:∀ p∈P,(s p).a≤1099511627000)
  (n:Nd) (hw:Wd n) (h1:n.K.length≤255) (h2:n.V.length≤255) (cs:Array Value) (hN:NdAt w cs n) :
  Calls Tryz.prog 91 #[.pointer (some ⟨q,0,none⟩),.agg cs] w (BelPost n0 w P s (nmN n)):=by
 have HI:=hid (info4 hN.size)
 have HR0:=hid (heap_alloc_new w (.cells cs 31))
 have HB0:=hid (show Below w.heap.size w (w.alloc (.cells cs 31)) from (Below.refl _ _).alloc (Nat.le_refl _) _)
 have HC:=hid (fun w' (hb:Below w.heap.size w w')=>named_any n hw (by omega) (by omega) cs w' (hN.below hb))
 have HLN:=hid (show (nmN n).length≤255 by
  unfold nmN
  split
  ·rw [List.length_map];exact h1
  ·split
   ·rw [List.length_map];exact Nat.le_trans (List.length_filter_le _ _) h2
   ·exact Nat.zero_le _)
 have HHL:=hid (show ∀ x∈nmN n,x.hs.length=32 by
  intro x hx
  unfold nmN at hx
  split at hx
  ·obtain⟨y,hy,rfl⟩:=List.mem_map.1 hx
   exact (hw.1 y hy).2
  ·split at hx
   ·obtain⟨y,hy,rfl⟩:=List.mem_map.1 hx
    exact (hw.2 y (List.mem_filter.1 hy).1).2.2.2
   ·cases hx)
 have HW:=hid h
 have HK:=hid hk
 have HD:=hid hd
 have HA:=hid ha
 generalize nmN n=D at *
 clear h hk hN h1 h2 hw hd ha
 go_enter Tryz.func91,Tryz.ntmps91
 go_wp2_with (first
  | (refine wpList_load_row rfl 31 (.tmp 3) rfl w.heap.size rfl 31 cs (0,0) _ HR0.out Tryz.underlying31 rfl HI.out ?_)
  | (go_at_call 61;refine (HC.out _ HB0.out).mono ?_;rintro e w3 ⟨v3,rfl,hm3⟩;have HM3:=hid hm3;have HB3:=hid (HB0.out.trans (hm3.2.mono HB0.out.size));obtain⟨A3,n3,c3,rfl,hn3,hl3⟩:∃ A n c,v3=.slice A n c∧n=D.length∧Ls ecK 34 w3 w3.heap.size A D:=(by obtain⟨A,c,h,_,_,h2⟩:=hm3.ls ecK_len;exact⟨A,_,c,h,rfl,h2⟩);have HN3:=hid hn3;have HL3:=hid hl3;clear hm3 hn3 hl3))
 have HO3:=hid (Off.of_below (n0:=n0) HB3.out)
 have HW3:=hid (HW.out.go HB3.out)
 have HK3:=hid (HK.out.off HO3.out)
 have hz3:w.heap.size≤w3.heap.size:=HB3.out.size
 have hsm:n3≤255:=by rw [HN3.out];exact HLN.out
 clear HW HK HR0 HB0 HC HI
 go_loopw [6,7,15] (fun av zv v wr=>∃ (i:Nat) (z:Int) (E:List Nat),i≤n3∧v=.int .i64 i∧zv=.int .i64 z∧Hid (BelI n0 w3 wr P s D i z E av)) (fun _ _ v _=>n3-(intOf v).toNat)
 case atStart=>exact⟨0,0,[],Nat.zero_le _,by go_num,rfl,BelI.nil HW3.out.2.1⟩
 case round =>
  obtain⟨i,z0,E,hi,rfl,rfl,hI⟩:=hrel
  have HII:=hid (Hid.out hI)
  clear hI
  by_cases hlt:i<n3
  ·obtain⟨x,hx⟩:∃ x,D[i]?=some x:=⟨_,List.getElem?_eq_getElem (by rw [← HN3.out];exact hlt)⟩
   have HX:=hid hx
   have HXL:=hid (HHL.out x (List.mem_of_getElem? hx))
   have hL:=own_ls ecK_len (HII.out.off.own (by decide) HM3.out.1)
   obtain⟨b,o,hAe,hbs,hr⟩:=hL i x hx
   have HRG:=hid hr
   have HWR:=hid (HW3.out.off HII.out.off HII.out.at_ (fun _=>rfl))
   have hEl:E.length≤i:=by
    rw [HII.out.out]
    unfold psF
    exact Nat.le_trans (List.length_filterMap_le _ _) (List.length_take_le _ _)
   obtain⟨A6,n6,c6,rfl⟩:∃ A n c,_=Value.slice A n c:=(by obtain⟨A,c,h,_⟩:=HII.out.own.ls;exact⟨A,_,c,h⟩)
   clear hr hx hL
   subst hAe
   obtain⟨s1,hs1⟩:∃ s1,(fun p=>(s p).ask (E.count p))=s1:=⟨_,rfl⟩
   have HS1:=hid hs1
   rw [hs1] at HWR
   have hfe:fndP s1 P x.n=fndP s P x.n:=by rw [← hs1];exact fndP_congr (fun _=>rfl) _
   clear hs1
   cases hf:fndP s P x.n with
   | none =>
    rw [hf] at hfe
    have HFI:=hid (fun W (hW:Wk n0 W q P s1)=>show Calls Tryz.prog 34 #[.pointer (some ⟨q,0,none⟩),.int .u32 x.n] W fun e w'=>e=.returned (.tuple #[.pointer none,.int .i64 5])∧Below W.heap.size W w' by have:=find_any hW x.n;rw [hfe] at this;exact this)
    have HFF:=hid hf
    clear hfe hf
    go_wp2_with (first
     | (refine wpList_load_at rfl 45 (.tmp 17) rfl b (o+i*34) rfl (ecK x) _ HRG.out Tryz.underlying45 rfl (infoKs x) ?_)
     | (refine wpList_fresh rfl 45 (.tmp 9) (.tmp 18) rfl (ecK x).toArray _ _ rfl rfl (infoKa x) (ecK_sz x) (all_of_one (ecK_one x)) ?_;intro W hb1 hr1 hz1;have HBK:=hid hb1;have HRK:=hid hr1;have HWK:=hid (HWR.out.go hb1);have c0:W.cell? ⟨wr.heap.size,1,none⟩=some (.int .u32 x.n):=cell_of_row _ _ 1 _ _ _ hr1;clear hr1 hz1 hb1 HRG HWR)
     | (go_at_call 34;refine (HFI.out _ HWK.out).mono ?_;rintro e w4 ⟨rfl,hb4⟩;have HB4:=hid hb4;clear hb4))
    go_ret2
    have ho:=HO3.out.trans (HII.out.off.trans ((Off.of_below HBK.out).trans (Off.of_below HB4.out)))
    exact⟨E,s1,_,5,rfl,(HWK.out.go HB4.out).2.1,ho,HS1.out.symm,⟨_,_,_,rfl⟩,.inl ⟨rfl,all_no HX.out HFF.out⟩⟩
   | some z =>
    rw [hf] at hfe
    have HFI:=hid (fun W (hW:Wk n0 W q P s1)=>show Calls Tryz.prog 34 #[.pointer (some ⟨q,0,none⟩),.int .u32 x.n] W fun e w'=>e=.returned (.tuple #[.pointer (some ⟨z,0,none⟩),.int .i64 0])∧Below W.heap.size W w' by have:=find_any hW x.n;rw [hfe] at this;exact this)
    have HFF:=hid hf
    have hzP:z∈P:=(fndP_some hf).1
    clear hfe hf
    have HASK:=hid (fun W (hH:HpAt n0 W P s1) (hK:Kc tK tS n0 W) (hW:w.heap.size≤W.heap.size)=>show Calls Tryz.prog 122 #[.pointer (some ⟨z,0,none⟩)] W fun e w'=>e=.returned (.agg (u8s (hsD (s z).d)).toArray)∧HpAt n0 w' P (upd s1 z ((s1 z).ask 1))∧Off n0 W w' by
      have hsd:(s1 z).d=(s z).d:=by rw [← HS1.out];rfl
      rw [← hsd];exact ask_any hH hK (Nat.le_trans hn hW) hzP (by rw [← HS1.out];show (s z).a+E.count z≤_;have:=HA.out z hzP;have:=List.count_le_length (a:=z) (l:=E);omega) (by rw [← HS1.out];exact HD.out z hzP))
    go_wp2_with (first
     | (refine wpList_load_at rfl 45 (.tmp 17) rfl b (o+i*34) rfl (ecK x) _ HRG.out Tryz.underlying45 rfl (infoKs x) ?_)
     | (refine wpList_fresh rfl 45 (.tmp 9) (.tmp 18) rfl (ecK x).toArray _ _ rfl rfl (infoKa x) (ecK_sz x) (all_of_one (ecK_one x)) ?_;intro W hb1 hr1 hz1;have HBK:=hid hb1;have HRK:=hid hr1;have HWK:=hid (HWR.out.go hb1);have c0:W.cell? ⟨wr.heap.size,1,none⟩=some (.int .u32 x.n):=cell_of_row _ _ 1 _ _ _ hr1;clear hr1 hz1 hb1 HRG HWR)
     | (go_at_call 34;refine (HFI.out _ HWK.out).mono ?_;rintro e w4 ⟨rfl,hb4⟩;have HB4:=hid hb4;clear hb4))
    have HH4:=hid ((HWK.out.go HB4.out).2.1.drew)
    have HOR4:=hid (show Off n0 wr w4.drew from ((Off.of_below HBK.out).trans (Off.of_below HB4.out)).drew)
    have HO4:=hid (HII.out.off.trans HOR4.out)
    have HK4:=hid (HK3.out.off HO4.out)
    have RKB:=hid ((HB4.out.block _ (row_lt HRK.out)).trans HRK.out)
    refine wp_region_T (fun w':World=>w'.heap[wr.heap.size]?=some (.cells (ecK x).toArray 45 (0,0))) 4 (by kernel_rfl) (by kernel_rfl) ?_
    have hS:(fun w':World=>w'.heap[wr.heap.size]?=some (.cells (ecK x).toArray 45 (0,0))) w4.drew:=RKB.out
    refine take_T 0 29 (.pointer (some ⟨z,0,none⟩)) rfl (by rfl) (by kernel_rfl) (by decide) (by kernel_rfl) (by kernel_rfl) (by kernel_rfl) (fun _ _ _ h=>h) (Or.inl ⟨by rfl,fun w' hSw=>by go_simp⟩) hS ?_
    simp only [Gb2a,Gb2b,Gb2c]
    refine take_T 2 31 (.pointer (some ⟨wr.heap.size,2,none⟩)) rfl (by rfl) (by kernel_rfl) (by decide) (by kernel_rfl) (by kernel_rfl) (by kernel_rfl) (fun _ _ _ h=>h) (Or.inl ⟨by rfl,fun w' hSw=>by go_simp⟩) hS ?_
    simp only [Gb2a,Gb2b,Gb2c]
    refine take_T 3 32 (.agg (u8s x.hs).toArray) rfl (by rfl) (by kernel_rfl) (by decide) (by kernel_rfl) (by kernel_rfl) (by kernel_rfl) (fun _ _ _ h=>h) (yieldsIf_load_mid (by rfl) 43 (.tmp 31) rfl wr.heap.size 2 rfl (u8s x.hs) _ (fun w' hSw=>kid_hash HXL.out hSw) Tryz.underlying43 rfl (by rw [u8s_length,HXL.out];kernel_rfl)) hS ?_
    simp only [Gb2a,Gb2b,Gb2c]
    refine only_T 1 rfl (by kernel_rfl) (by decide) (by rfl) (fun K hK=>?_)
    go_wp2_with fail
    go_at_call 122
    refine (HASK.out _ HH4.out HK4.out (Nat.le_trans hz3 HO4.out.size)).mono ?_
    rintro e w5 ⟨rfl,hH5,ho5⟩
    have HH5:=hid hH5
    have HO5:=hid (HO4.out.trans ho5)
    have HOR5:=hid (HOR4.out.trans ho5)
    have RKB5:=hid (ho5.row (show w4.drew.heap[wr.heap.size]?=_ from RKB.out) (by decide))
    have hz5:w4.heap.size≤w5.heap.size:=ho5.size
    have hS2:(fun w':World=>w'.heap[wr.heap.size]?=some (.cells (ecK x).toArray 45 (0,0))) w5:=RKB5.out
    clear hH5 ho5 hS HASK HH4 HK4 HO4 HOR4 RKB
    refine hK.out _ _ hS2 ?_
    clear hK K
    try simp only [Act.put,Gb2a,Gb2b,Gb2c]
    refine done_T (by kernel_rfl) ?_
    simp only [List.drop_succ_cons,List.drop_zero]
    have HOW5:=hid (show OwP w3.heap.size w5 (.slice A6 n6 c6) E from HOR5.out.own (by decide) HII.out.own)
    obtain⟨X,hXs,hMX⟩:=HOW5.out.mk (HO5.out.size)
    have HMX:=hid hMX
    have HXX:=hid hXs
    have HRA:=hid (show (w5.alloc (.cells #[.pointer (some ⟨z,0,none⟩)] TP)).heap[w5.heap.size]?=some (.cells (enP z).toArray TP (0,0)) from heap_alloc_new w5 _)
    clear hXs hMX
    by_cases hq:hsD (s z).d=x.hs
    ·have hcmp:∀ w,(Op.equalIn 10000 43 (.agg (u8s (hsD (s z).d)).toArray) (.agg (u8s x.hs).toArray)).run Tryz.prog w=.ok true w:=fun w=>by rw [eq_arr (hsD_len _) HXL.out];simp [hq]
     have hgd:=guard32
     have HCODE:=hid (show (if hsD (s z).d=x.hs then z0 else 9)=z0 from if_pos hq)
     clear hq
     go_wp2_with (first
      | (refine wpList_plain rfl (fun K1 hK1=>op_catP (HMX.out.alloc _) z w5.heap.size 1 HRA.out (by omega) (.tmp 34) (.tmp 36) rfl rfl rfl (fun v6 w6 hm6 hg6 hat6=>hK1 _ _ ?_));obtain⟨A7,n7,c7,rfl⟩:∃ A n c,v6=.slice A n c:=(by obtain⟨A,c,h,_⟩:=hm6.ls enP_len;exact⟨A,_,c,h⟩);have HM6:=hid hm6;have HG6:=hid hg6;clear hm6 hg6 hat6))
     have HBI:=hid (HII.out.next HW3.out.2.1 HX.out HFF.out HS1.out HH5.out HO5.out HOW5.out HXX.out HM6.out HG6.out)
     exact⟨⟨i+1,z0,E++[z],by omega,by go_num,rfl,by rw [← HCODE.out];exact HBI.out⟩,by simp [intOf]<;>omega⟩
    ·have hcmp:∀ w,(Op.equalIn 10000 43 (.agg (u8s (hsD (s z).d)).toArray) (.agg (u8s x.hs).toArray)).run Tryz.prog w=.ok false w:=fun w=>by rw [eq_arr (hsD_len _) HXL.out];simp [hq]
     have hgd:=guard32
     have HCODE:=hid (show (if hsD (s z).d=x.hs then z0 else 9)=9 from if_neg hq)
     clear hq
     go_wp2_with (first
      | (refine wpList_plain rfl (fun K1 hK1=>op_catP (HMX.out.alloc _) z w5.heap.size 1 HRA.out (by omega) (.tmp 34) (.tmp 36) rfl rfl rfl (fun v6 w6 hm6 hg6 hat6=>hK1 _ _ ?_));obtain⟨A7,n7,c7,rfl⟩:∃ A n c,v6=.slice A n c:=(by obtain⟨A,c,h,_⟩:=hm6.ls enP_len;exact⟨A,_,c,h⟩);have HM6:=hid hm6;have HG6:=hid hg6;clear hm6 hg6 hat6))
     have HBI:=hid (HII.out.next HW3.out.2.1 HX.out HFF.out HS1.out HH5.out HO5.out HOW5.out HXX.out HM6.out HG6.out)
     exact⟨⟨i+1,9,E++[z],by omega,by go_num,rfl,by rw [← HCODE.out];exact HBI.out⟩,by simp [intOf]<;>omega⟩
  ·have hin:i=n3:=by omega
   have HT:=hid (show D.take i=D by rw [hin,HN3.out,List.take_length])
   have HFI:=hid HII.out
   obtain⟨A6,n6,c6,rfl⟩:∃ A n c,_=Value.slice A n c:=(by obtain⟨A,c,h,_⟩:=HII.out.own.ls;exact⟨A,_,c,h⟩)
   clear hin
   go_wp2_with fail
   go_ret2
   have h:=HFI.out
   refine⟨E,_,_,z0,rfl,h.at_,HO3.out.trans h.off,rfl,⟨_,_,_,rfl⟩,.inr ⟨by have:=h.all;rwa [HT.out] at this,by have:=h.code;rwa [HT.out] at this,by have:=h.out;rwa [HT.out] at this,World.ownsRow.mono h.own hz3⟩⟩
end Go.Proofs.YtlpejbbmemhloaaGreatDoor.Hp
