/-
  At every machine the program's EngNew answers as the specification's EngNew does, field by field, writes into no argument, and its answer owns its memory, behind another call too (the law FnExactEngNew returns true); no condition.
  The frame (lifted, over, proved) is written by my own program after the guide's worked texts; the walk and the lemmas ahead of it are mine.
-/
import Derived.Test.YtlgpnogeoaoidaaRows
import Derived.Test.YtlgpnogeoaoidaaShape
import Derived.Test.YtlgpnogeoaoidaaEnB
import Derived.Test.YtlgpnogeoaoidaaEnC
import Derived.WalkKit
import Derived.ProofKit
import Derived.OpenShut
import Derived.ShutString
import Derived.ChangeOld
import Derived.Below
import Derived.SizedLaws
namespace Go.Proofs.Ytlgpnogeoaoidaa.fnExactEngNew
open Go.ChangeShapes Go.WideShapes Go.ChangeAt Go.RowKit
open Go.ChangeMaps (open_string shut_string)
set_option linter.unusedVariables false

theorem own : ownKnob Try.prog.godebug = none := by kernel_rfl
theorem laidOut : laidOutB Try.prog = true := by kernel_rfl

open Go.ChangeShapes Go.WideShapes Go.ChangeAt Go.RowKit IntS Pol Dt Flat Irk
open En
open Ir (Opn)
set_option linter.unusedSimpArgs false
set_option linter.unusedVariables false
theorem same_int (z : Int) : (z != z) = false := by simp
theorem same_bool (z : Bool) : (z != z) = false := by simp
theorem boxL (w : World) (o : Obj) : Below w.heap.size w (w.alloc o) := (Below.refl _ _).alloc (Nat.le_refl _) _

set_option maxRecDepth 8000 in
set_option maxHeartbeats 16000000 in
theorem walk (a0 : Array Value) (w : World) (w0 : Shape.Holds Try.prog w 10 24 a0.toList)  :
    Calls Try.prog 3 #[.agg a0] w fun e w' => e = .returned (.bool true) ∧ Below w.heap.size w w' := by
  obtain ⟨cc0, rfl⟩ : ∃ l : List Value, a0 = l.toArray := ⟨a0.toList, by simp⟩
  obtain ⟨p0x0, p0a1, p0x2, p0a3, p0a4, p0a5, p0a6, p0x7, p0x8, p0a9, hP0⟩ := machR_hold (n := 7) (cs := cc0) w0
  have RM0 : Hid (machR.rd w cc0 (p0x0, p0a1, p0x2, p0a3, p0a4, p0a5, p0a6, p0x7, p0x8, p0a9)) := hP0
  obtain ⟨q0_0, c0_0, q0_2, c0_2, q0_7, c0_7, q0_8, c0_8, rfl, -⟩ := machR_rd hP0
  clear hP0 w0
  obtain ⟨OUT, eO⟩ : ∃ z, newE ⟨p0x0, p0a1, p0x2, p0a3, p0a4, p0a5, p0a6, p0x7, p0x8, p0a9⟩ = z := ⟨_, rfl⟩
  have NX0 : Hid (machR.sz (p0x0, p0a1, p0x2, p0a3, p0a4, p0a5, p0a6, p0x7, p0x8, p0a9) ≤ 1048576 → machR.nx (p0x0, p0a1, p0x2, p0a3, p0a4, p0a5, p0a6, p0x7, p0x8, p0a9) ≤ 20000000) := mach_nx p0x0 p0a1 p0x2 p0a3 p0a4 p0a5 p0a6 p0x7 p0x8 p0a9
  have NXO : Hid (machR.sz (p0x0, p0a1, p0x2, p0a3, p0a4, p0a5, p0a6, p0x7, p0x8, p0a9) ≤ 1048576 → engR.nx OUT ≤ 100000000) := eO ▸ new_nx ⟨p0x0, p0a1, p0x2, p0a3, p0a4, p0a5, p0a6, p0x7, p0x8, p0a9⟩
  obtain ⟨p9x0, p9a1, p9x2, p9a3, p9a4, p9a5, p9a6, p9x7, p9x8, p9a9, p9x10, p9x11⟩ := OUT
  have EO := hide eO
  clear eO
  have tb0 := Rec.new w [.slice q0_0 p0x0.length c0_0, .int .i64 p0a1, .slice q0_2 p0x2.length c0_2, .int .i64 p0a3, .bool p0a4, .bool p0a5, .int .i64 p0a6, .slice q0_7 p0x7.length c0_7, .slice q0_8 p0x8.length c0_8, .int .i64 p0a9] 24
  have TA0 := hide tb0
  clear tb0
  have bin : Below w.heap.size w (w.alloc (.cells #[.slice q0_0 p0x0.length c0_0, .int .i64 p0a1, .slice q0_2 p0x2.length c0_2, .int .i64 p0a3, .bool p0a4, .bool p0a5, .int .i64 p0a6, .slice q0_7 p0x7.length c0_7, .slice q0_8 p0x8.length c0_8, .int .i64 p0a9] 24)) := boxL _ _
  have BW := hide bin
  clear bin
  go_enter Try.func3, Try.ntmps3
  have z0_0 := TA0.out.cell 0 _ rfl
  have z0_1 := TA0.out.cell 1 _ rfl
  have z0_2 := TA0.out.cell 2 _ rfl
  have z0_3 := TA0.out.cell 3 _ rfl
  have z0_4 := TA0.out.cell 4 _ rfl
  have z0_5 := TA0.out.cell 5 _ rfl
  have z0_6 := TA0.out.cell 6 _ rfl
  have z0_7 := TA0.out.cell 7 _ rfl
  have z0_8 := TA0.out.cell 8 _ rfl
  have z0_9 := TA0.out.cell 9 _ rfl
  go_wp2_with fail
  generalize (w.alloc (.cells #[.slice q0_0 p0x0.length c0_0, .int .i64 p0a1, .slice q0_2 p0x2.length c0_2, .int .i64 p0a3, .bool p0a4, .bool p0a5, .int .i64 p0a6, .slice q0_7 p0x7.length c0_7, .slice q0_8 p0x8.length c0_8, .int .i64 p0a9] 24)) = W00 at TA0 BW ⊢
  have L0 : Hid (w.heap.size < W00.heap.size) := TA0.out.lt
  refine (szMchMach p0x0 p0a1 p0x2 p0a3 p0a4 p0a5 p0a6 p0x7 p0x8 p0a9 _ 1048576 _ (machR.rb RM0.out BW.out) (by omega) (by omega)).mono ?_
  rintro e u1 ⟨n0, rfl, nn0, hs0, hb⟩
  clear z0_0 z0_1 z0_2 z0_3 z0_4 z0_5 z0_6 z0_7 z0_8 z0_9
  replace TA0 := hide (TA0.out.below hb)
  replace BW := hide (BW.out.trans (hb.mono BW.out.size))
  have L1 : Hid (W00.heap.size ≤ u1.heap.size) := hb.size
  clear hb
  by_cases hn0 : n0 < 0
  · clear TA0
    go_wp2
    go_ret
    exact ⟨rfl, BW.out⟩
  have hsq := hs0 (by omega)
  have HS0 : Hid (machR.sz (p0x0, p0a1, p0x2, p0a3, p0a4, p0a5, p0a6, p0x7, p0x8, p0a9) ≤ 1048576) := show _ ≤ _ by omega
  have NL0 : Hid (0 ≤ n0 ∧ n0 ≤ 1048576) := show _ ∧ _ by omega
  clear hsq hs0 nn0
  replace NX0 := hide (NX0.out HS0.out)
  replace NXO := hide (NXO.out HS0.out)
  have z0_0 := TA0.out.cell 0 _ rfl
  have z0_1 := TA0.out.cell 1 _ rfl
  have z0_2 := TA0.out.cell 2 _ rfl
  have z0_3 := TA0.out.cell 3 _ rfl
  have z0_4 := TA0.out.cell 4 _ rfl
  have z0_5 := TA0.out.cell 5 _ rfl
  have z0_6 := TA0.out.cell 6 _ rfl
  have z0_7 := TA0.out.cell 7 _ rfl
  have z0_8 := TA0.out.cell 8 _ rfl
  have z0_9 := TA0.out.cell 9 _ rfl
  go_wp2_with fail
  refine (toMchMach p0x0 p0a1 p0x2 p0a3 p0a4 p0a5 p0a6 p0x7 p0x8 p0a9 _ _ (machR.rb RM0.out BW.out) HS0.out).mono ?_
  rintro e u2 ⟨g0_0, g0_2, g0_7, g0_8, rfl, M, hb⟩
  clear z0_0 z0_1 z0_2 z0_3 z0_4 z0_5 z0_6 z0_7 z0_8 z0_9
  have T1 := hide M
  clear M
  replace TA0 := hide (TA0.out.below hb)
  replace BW := hide (BW.out.trans (hb.mono BW.out.size))
  have L2 : Hid (u1.heap.size ≤ u2.heap.size) := hb.size
  clear hb
  go_wp2_with fail
  refine (specNew ⟨p0x0, p0a1, p0x2, p0a3, p0a4, p0a5, p0a6, p0x7, p0x8, p0a9⟩ _ _ (rd_mach (machR.od T1.out)) (small_mach (m := ⟨p0x0, p0a1, p0x2, p0a3, p0a4, p0a5, p0a6, p0x7, p0x8, p0a9⟩) HS0.out).mid).mono ?_
  rintro e u3 ⟨oc2, rfl, OW, hb⟩
  clear T1
  rw [EO.out] at OW
  have W0 := hide OW
  obtain ⟨oq1_0, oc1_0, oq1_2, oc1_2, oq1_7, oc1_7, oq1_8, oc1_8, oq1_10, oc1_10, oq1_11, oc1_11, _, _, _, _, _, _, rfl, -⟩ := engR_own OW
  clear OW
  replace TA0 := hide (TA0.out.below hb)
  replace BW := hide (BW.out.trans (hb.mono BW.out.size))
  have L3 : Hid (u2.heap.size ≤ u3.heap.size) := hb.size
  clear hb
  have hb : Below u3.heap.size u3 (u3.alloc (.cells #[.slice oq1_0 p9x0.length oc1_0, .int .i64 p9a1, .slice oq1_2 p9x2.length oc1_2, .int .i64 p9a3, .bool p9a4, .bool p9a5, .int .i64 p9a6, .slice oq1_7 p9x7.length oc1_7, .slice oq1_8 p9x8.length oc1_8, .int .i64 p9a9, .slice oq1_10 p9x10.length oc1_10, .slice oq1_11 p9x11.length oc1_11] 30)) := boxL _ _
  have BW0n := hide (Rec.new u3 [.slice oq1_0 p9x0.length oc1_0, .int .i64 p9a1, .slice oq1_2 p9x2.length oc1_2, .int .i64 p9a3, .bool p9a4, .bool p9a5, .int .i64 p9a6, .slice oq1_7 p9x7.length oc1_7, .slice oq1_8 p9x8.length oc1_8, .int .i64 p9a9, .slice oq1_10 p9x10.length oc1_10, .slice oq1_11 p9x11.length oc1_11] 30)
  have BW0s : Hid (u3.heap.size < (u3.alloc (.cells #[.slice oq1_0 p9x0.length oc1_0, .int .i64 p9a1, .slice oq1_2 p9x2.length oc1_2, .int .i64 p9a3, .bool p9a4, .bool p9a5, .int .i64 p9a6, .slice oq1_7 p9x7.length oc1_7, .slice oq1_8 p9x8.length oc1_8, .int .i64 p9a9, .slice oq1_10 p9x10.length oc1_10, .slice oq1_11 p9x11.length oc1_11] 30)).heap.size) := BW0n.out.lt
  replace TA0 := hide (TA0.out.below hb)
  replace W0 := hide (engR.ob W0.out hb)
  replace BW := hide (BW.out.trans (hb.mono BW.out.size))
  have L4 : Hid (u3.heap.size ≤ (u3.alloc (.cells #[.slice oq1_0 p9x0.length oc1_0, .int .i64 p9a1, .slice oq1_2 p9x2.length oc1_2, .int .i64 p9a3, .bool p9a4, .bool p9a5, .int .i64 p9a6, .slice oq1_7 p9x7.length oc1_7, .slice oq1_8 p9x8.length oc1_8, .int .i64 p9a9, .slice oq1_10 p9x10.length oc1_10, .slice oq1_11 p9x11.length oc1_11] 30)).heap.size) := hb.size
  clear hb
  have BW0 := BW0n
  clear BW0n
  have z0_0 := TA0.out.cell 0 _ rfl
  have z0_1 := TA0.out.cell 1 _ rfl
  have z0_2 := TA0.out.cell 2 _ rfl
  have z0_3 := TA0.out.cell 3 _ rfl
  have z0_4 := TA0.out.cell 4 _ rfl
  have z0_5 := TA0.out.cell 5 _ rfl
  have z0_6 := TA0.out.cell 6 _ rfl
  have z0_7 := TA0.out.cell 7 _ rfl
  have z0_8 := TA0.out.cell 8 _ rfl
  have z0_9 := TA0.out.cell 9 _ rfl
  go_wp2_with fail
  refine (toMchMach p0x0 p0a1 p0x2 p0a3 p0a4 p0a5 p0a6 p0x7 p0x8 p0a9 _ _ (machR.rb RM0.out BW.out) HS0.out).mono ?_
  rintro e u4 ⟨x0_0, x0_2, x0_7, x0_8, rfl, M, hb⟩
  clear z0_0 z0_1 z0_2 z0_3 z0_4 z0_5 z0_6 z0_7 z0_8 z0_9
  have X0 := hide M
  clear M
  replace TA0 := hide (TA0.out.below hb)
  replace BW0 := hide (BW0.out.below hb)
  replace W0 := hide (engR.ob W0.out hb)
  replace BW := hide (BW.out.trans (hb.mono BW.out.size))
  have L6 : Hid ((u3.alloc (.cells #[.slice oq1_0 p9x0.length oc1_0, .int .i64 p9a1, .slice oq1_2 p9x2.length oc1_2, .int .i64 p9a3, .bool p9a4, .bool p9a5, .int .i64 p9a6, .slice oq1_7 p9x7.length oc1_7, .slice oq1_8 p9x8.length oc1_8, .int .i64 p9a9, .slice oq1_10 p9x10.length oc1_10, .slice oq1_11 p9x11.length oc1_11] 30)).heap.size ≤ u4.heap.size) := hb.size
  clear hb
  have hb : Below u4.heap.size u4 (u4.alloc (.cells #[.slice (some ⟨x0_0, 0, none⟩) p0x0.length p0x0.length, .int .i64 p0a1, .slice (some ⟨x0_2, 0, none⟩) p0x2.length p0x2.length, .int .i64 p0a3, .bool p0a4, .bool p0a5, .int .i64 p0a6, .slice (some ⟨x0_7, 0, none⟩) p0x7.length p0x7.length, .slice (some ⟨x0_8, 0, none⟩) p0x8.length p0x8.length, .int .i64 p0a9] 26)) := boxL _ _
  have BX0n := hide (Rec.new u4 [.slice (some ⟨x0_0, 0, none⟩) p0x0.length p0x0.length, .int .i64 p0a1, .slice (some ⟨x0_2, 0, none⟩) p0x2.length p0x2.length, .int .i64 p0a3, .bool p0a4, .bool p0a5, .int .i64 p0a6, .slice (some ⟨x0_7, 0, none⟩) p0x7.length p0x7.length, .slice (some ⟨x0_8, 0, none⟩) p0x8.length p0x8.length, .int .i64 p0a9] 26)
  have BX0s : Hid (u4.heap.size < (u4.alloc (.cells #[.slice (some ⟨x0_0, 0, none⟩) p0x0.length p0x0.length, .int .i64 p0a1, .slice (some ⟨x0_2, 0, none⟩) p0x2.length p0x2.length, .int .i64 p0a3, .bool p0a4, .bool p0a5, .int .i64 p0a6, .slice (some ⟨x0_7, 0, none⟩) p0x7.length p0x7.length, .slice (some ⟨x0_8, 0, none⟩) p0x8.length p0x8.length, .int .i64 p0a9] 26)).heap.size) := BX0n.out.lt
  replace TA0 := hide (TA0.out.below hb)
  replace BW0 := hide (BW0.out.below hb)
  replace W0 := hide (engR.ob W0.out hb)
  replace X0 := hide (machR.ob X0.out hb)
  replace BW := hide (BW.out.trans (hb.mono BW.out.size))
  have L7 : Hid (u4.heap.size ≤ (u4.alloc (.cells #[.slice (some ⟨x0_0, 0, none⟩) p0x0.length p0x0.length, .int .i64 p0a1, .slice (some ⟨x0_2, 0, none⟩) p0x2.length p0x2.length, .int .i64 p0a3, .bool p0a4, .bool p0a5, .int .i64 p0a6, .slice (some ⟨x0_7, 0, none⟩) p0x7.length p0x7.length, .slice (some ⟨x0_8, 0, none⟩) p0x8.length p0x8.length, .int .i64 p0a9] 26)).heap.size) := hb.size
  clear hb
  have BX0 := BX0n
  clear BX0n
  have z0_0 := BX0.out.cell 0 _ rfl
  have z0_1 := BX0.out.cell 1 _ rfl
  have z0_2 := BX0.out.cell 2 _ rfl
  have z0_3 := BX0.out.cell 3 _ rfl
  have z0_4 := BX0.out.cell 4 _ rfl
  have z0_5 := BX0.out.cell 5 _ rfl
  have z0_6 := BX0.out.cell 6 _ rfl
  have z0_7 := BX0.out.cell 7 _ rfl
  have z0_8 := BX0.out.cell 8 _ rfl
  have z0_9 := BX0.out.cell 9 _ rfl
  go_wp2_with fail
  refine (implNew ⟨p0x0, p0a1, p0x2, p0a3, p0a4, p0a5, p0a6, p0x7, p0x8, p0a9⟩ _ _ (rd_mach (machR.od X0.out)) (small_mach (m := ⟨p0x0, p0a1, p0x2, p0a3, p0a4, p0a5, p0a6, p0x7, p0x8, p0a9⟩) HS0.out).mid).mono ?_
  rintro e u5 ⟨gc, rfl, OW, hb⟩
  clear z0_0 z0_1 z0_2 z0_3 z0_4 z0_5 z0_6 z0_7 z0_8 z0_9
  rw [EO.out] at OW
  have G0 := hide OW
  obtain ⟨oq2_0, oc2_0, oq2_2, oc2_2, oq2_7, oc2_7, oq2_8, oc2_8, oq2_10, oc2_10, oq2_11, oc2_11, _, _, _, _, _, _, rfl, -⟩ := engR_own OW
  clear OW
  replace TA0 := hide (TA0.out.below hb)
  replace BW0 := hide (BW0.out.below hb)
  replace BX0 := hide (BX0.out.below hb)
  replace W0 := hide (engR.ob W0.out hb)
  replace X0 := hide (machR.ob X0.out hb)
  replace BW := hide (BW.out.trans (hb.mono BW.out.size))
  have L9 : Hid ((u4.alloc (.cells #[.slice (some ⟨x0_0, 0, none⟩) p0x0.length p0x0.length, .int .i64 p0a1, .slice (some ⟨x0_2, 0, none⟩) p0x2.length p0x2.length, .int .i64 p0a3, .bool p0a4, .bool p0a5, .int .i64 p0a6, .slice (some ⟨x0_7, 0, none⟩) p0x7.length p0x7.length, .slice (some ⟨x0_8, 0, none⟩) p0x8.length p0x8.length, .int .i64 p0a9] 26)).heap.size ≤ u5.heap.size) := hb.size
  clear hb
  have hb : Below u5.heap.size u5 (u5.alloc (.cells #[.slice oq2_0 p9x0.length oc2_0, .int .i64 p9a1, .slice oq2_2 p9x2.length oc2_2, .int .i64 p9a3, .bool p9a4, .bool p9a5, .int .i64 p9a6, .slice oq2_7 p9x7.length oc2_7, .slice oq2_8 p9x8.length oc2_8, .int .i64 p9a9, .slice oq2_10 p9x10.length oc2_10, .slice oq2_11 p9x11.length oc2_11] 30)) := boxL _ _
  have BG0n := hide (Rec.new u5 [.slice oq2_0 p9x0.length oc2_0, .int .i64 p9a1, .slice oq2_2 p9x2.length oc2_2, .int .i64 p9a3, .bool p9a4, .bool p9a5, .int .i64 p9a6, .slice oq2_7 p9x7.length oc2_7, .slice oq2_8 p9x8.length oc2_8, .int .i64 p9a9, .slice oq2_10 p9x10.length oc2_10, .slice oq2_11 p9x11.length oc2_11] 30)
  have BG0s : Hid (u5.heap.size < (u5.alloc (.cells #[.slice oq2_0 p9x0.length oc2_0, .int .i64 p9a1, .slice oq2_2 p9x2.length oc2_2, .int .i64 p9a3, .bool p9a4, .bool p9a5, .int .i64 p9a6, .slice oq2_7 p9x7.length oc2_7, .slice oq2_8 p9x8.length oc2_8, .int .i64 p9a9, .slice oq2_10 p9x10.length oc2_10, .slice oq2_11 p9x11.length oc2_11] 30)).heap.size) := BG0n.out.lt
  replace TA0 := hide (TA0.out.below hb)
  replace BW0 := hide (BW0.out.below hb)
  replace BX0 := hide (BX0.out.below hb)
  replace W0 := hide (engR.ob W0.out hb)
  replace X0 := hide (machR.ob X0.out hb)
  replace G0 := hide (engR.ob G0.out hb)
  replace BW := hide (BW.out.trans (hb.mono BW.out.size))
  have L10 : Hid (u5.heap.size ≤ (u5.alloc (.cells #[.slice oq2_0 p9x0.length oc2_0, .int .i64 p9a1, .slice oq2_2 p9x2.length oc2_2, .int .i64 p9a3, .bool p9a4, .bool p9a5, .int .i64 p9a6, .slice oq2_7 p9x7.length oc2_7, .slice oq2_8 p9x8.length oc2_8, .int .i64 p9a9, .slice oq2_10 p9x10.length oc2_10, .slice oq2_11 p9x11.length oc2_11] 30)).heap.size) := hb.size
  clear hb
  have BG0 := BG0n
  clear BG0n
  have z0_0 := BG0.out.cell 0 _ rfl
  have z0_1 := BG0.out.cell 1 _ rfl
  have z0_2 := BG0.out.cell 2 _ rfl
  have z0_3 := BG0.out.cell 3 _ rfl
  have z0_4 := BG0.out.cell 4 _ rfl
  have z0_5 := BG0.out.cell 5 _ rfl
  have z0_6 := BG0.out.cell 6 _ rfl
  have z0_7 := BG0.out.cell 7 _ rfl
  have z0_8 := BG0.out.cell 8 _ rfl
  have z0_9 := BG0.out.cell 9 _ rfl
  have z0_10 := BG0.out.cell 10 _ rfl
  have z0_11 := BG0.out.cell 11 _ rfl
  have z1_0 := BW0.out.cell 0 _ rfl
  have z1_1 := BW0.out.cell 1 _ rfl
  have z1_2 := BW0.out.cell 2 _ rfl
  have z1_3 := BW0.out.cell 3 _ rfl
  have z1_4 := BW0.out.cell 4 _ rfl
  have z1_5 := BW0.out.cell 5 _ rfl
  have z1_6 := BW0.out.cell 6 _ rfl
  have z1_7 := BW0.out.cell 7 _ rfl
  have z1_8 := BW0.out.cell 8 _ rfl
  have z1_9 := BW0.out.cell 9 _ rfl
  have z1_10 := BW0.out.cell 10 _ rfl
  have z1_11 := BW0.out.cell 11 _ rfl
  go_wp2_with fail
  refine (eqEngEng p9x0 p9a1 p9x2 p9a3 p9a4 p9a5 p9a6 p9x7 p9x8 p9a9 p9x10 p9x11 _ _ _ (engR.od G0.out) (engR.od W0.out)).mono ?_
  rintro e u6 ⟨rfl, hb⟩
  clear z0_0 z0_1 z0_2 z0_3 z0_4 z0_5 z0_6 z0_7 z0_8 z0_9 z0_10 z0_11
  clear z1_0 z1_1 z1_2 z1_3 z1_4 z1_5 z1_6 z1_7 z1_8 z1_9 z1_10 z1_11
  replace TA0 := hide (TA0.out.below hb)
  replace BW0 := hide (BW0.out.below hb)
  replace BX0 := hide (BX0.out.below hb)
  replace BG0 := hide (BG0.out.below hb)
  replace W0 := hide (engR.ob W0.out hb)
  replace X0 := hide (machR.ob X0.out hb)
  replace G0 := hide (engR.ob G0.out hb)
  replace BW := hide (BW.out.trans (hb.mono BW.out.size))
  have L12 : Hid ((u5.alloc (.cells #[.slice oq2_0 p9x0.length oc2_0, .int .i64 p9a1, .slice oq2_2 p9x2.length oc2_2, .int .i64 p9a3, .bool p9a4, .bool p9a5, .int .i64 p9a6, .slice oq2_7 p9x7.length oc2_7, .slice oq2_8 p9x8.length oc2_8, .int .i64 p9a9, .slice oq2_10 p9x10.length oc2_10, .slice oq2_11 p9x11.length oc2_11] 30)).heap.size ≤ u6.heap.size) := hb.size
  clear hb
  have z0_0 := BX0.out.cell 0 _ rfl
  have z0_1 := BX0.out.cell 1 _ rfl
  have z0_2 := BX0.out.cell 2 _ rfl
  have z0_3 := BX0.out.cell 3 _ rfl
  have z0_4 := BX0.out.cell 4 _ rfl
  have z0_5 := BX0.out.cell 5 _ rfl
  have z0_6 := BX0.out.cell 6 _ rfl
  have z0_7 := BX0.out.cell 7 _ rfl
  have z0_8 := BX0.out.cell 8 _ rfl
  have z0_9 := BX0.out.cell 9 _ rfl
  have z1_0 := TA0.out.cell 0 _ rfl
  have z1_1 := TA0.out.cell 1 _ rfl
  have z1_2 := TA0.out.cell 2 _ rfl
  have z1_3 := TA0.out.cell 3 _ rfl
  have z1_4 := TA0.out.cell 4 _ rfl
  have z1_5 := TA0.out.cell 5 _ rfl
  have z1_6 := TA0.out.cell 6 _ rfl
  have z1_7 := TA0.out.cell 7 _ rfl
  have z1_8 := TA0.out.cell 8 _ rfl
  have z1_9 := TA0.out.cell 9 _ rfl
  go_wp2_with fail
  have hb : Below u6.heap.size u6 u6.drew := (Below.refl _ _).drew
  replace TA0 := hide (TA0.out.below hb)
  replace BW0 := hide (BW0.out.below hb)
  replace BX0 := hide (BX0.out.below hb)
  replace BG0 := hide (BG0.out.below hb)
  replace W0 := hide (engR.ob W0.out hb)
  replace X0 := hide (machR.ob X0.out hb)
  replace G0 := hide (engR.ob G0.out hb)
  replace BW := hide (BW.out.trans (hb.mono BW.out.size))
  have L13 : Hid (u6.heap.size ≤ u6.drew.heap.size) := hb.size
  clear hb
  clear z0_0 z0_1 z0_2 z0_3 z0_4 z0_5 z0_6 z0_7 z0_8 z0_9
  clear z1_0 z1_1 z1_2 z1_3 z1_4 z1_5 z1_6 z1_7 z1_8 z1_9
  have SS : Rec u4.heap.size [.slice (some ⟨x0_0, 0, none⟩) p0x0.length p0x0.length, .int .i64 p0a1, .slice (some ⟨x0_2, 0, none⟩) p0x2.length p0x2.length, .int .i64 p0a3, .bool p0a4, .bool p0a5, .int .i64 p0a6, .slice (some ⟨x0_7, 0, none⟩) p0x7.length p0x7.length, .slice (some ⟨x0_8, 0, none⟩) p0x8.length p0x8.length, .int .i64 p0a9] u6.drew ∧ Rec w.heap.size [.slice q0_0 p0x0.length c0_0, .int .i64 p0a1, .slice q0_2 p0x2.length c0_2, .int .i64 p0a3, .bool p0a4, .bool p0a5, .int .i64 p0a6, .slice q0_7 p0x7.length c0_7, .slice q0_8 p0x8.length c0_8, .int .i64 p0a9] u6.drew ∧ True := ⟨BX0.out, TA0.out, trivial⟩
  refine wp_region_held_drew (S := fun v => (Rec u4.heap.size [.slice (some ⟨x0_0, 0, none⟩) p0x0.length p0x0.length, .int .i64 p0a1, .slice (some ⟨x0_2, 0, none⟩) p0x2.length p0x2.length, .int .i64 p0a3, .bool p0a4, .bool p0a5, .int .i64 p0a6, .slice (some ⟨x0_7, 0, none⟩) p0x7.length p0x7.length, .slice (some ⟨x0_8, 0, none⟩) p0x8.length p0x8.length, .int .i64 p0a9] v ∧ Rec w.heap.size [.slice q0_0 p0x0.length c0_0, .int .i64 p0a1, .slice q0_2 p0x2.length c0_2, .int .i64 p0a3, .bool p0a4, .bool p0a5, .int .i64 p0a6, .slice q0_7 p0x7.length c0_7, .slice q0_8 p0x8.length c0_8, .int .i64 p0a9] v ∧ True)) (by kernel_rfl) SS (fun hHeld => ?_)
  refine wpAnyH_take (i := 0) (v := ?_) rfl (by kernel_rfl) (by kernel_rfl) (by kernel_rfl) (fun _ _ _ h => h) (Or.inl ⟨by kernel_rfl, ?_⟩) hHeld ?_
  rotate_left
  · intro w' hSw
    (try dsimp only at hSw)
    have y0_0 := hSw.1.cell 0 _ rfl
    have y0_1 := hSw.1.cell 1 _ rfl
    have y0_2 := hSw.1.cell 2 _ rfl
    have y0_3 := hSw.1.cell 3 _ rfl
    have y0_4 := hSw.1.cell 4 _ rfl
    have y0_5 := hSw.1.cell 5 _ rfl
    have y0_6 := hSw.1.cell 6 _ rfl
    have y0_7 := hSw.1.cell 7 _ rfl
    have y0_8 := hSw.1.cell 8 _ rfl
    have y0_9 := hSw.1.cell 9 _ rfl
    have y1_0 := hSw.2.1.cell 0 _ rfl
    have y1_1 := hSw.2.1.cell 1 _ rfl
    have y1_2 := hSw.2.1.cell 2 _ rfl
    have y1_3 := hSw.2.1.cell 3 _ rfl
    have y1_4 := hSw.2.1.cell 4 _ rfl
    have y1_5 := hSw.2.1.cell 5 _ rfl
    have y1_6 := hSw.2.1.cell 6 _ rfl
    have y1_7 := hSw.2.1.cell 7 _ rfl
    have y1_8 := hSw.2.1.cell 8 _ rfl
    have y1_9 := hSw.2.1.cell 9 _ rfl
    go_simp
    first | done | with_reducible rfl
  try simp only [Act.put, List.getElem_toArray, List.getElem_cons_succ, List.getElem_cons_zero, List.setIfInBounds_toArray, List.set]
  refine wpAnyH_take (i := 1) (v := ?_) rfl (by kernel_rfl) (by kernel_rfl) (by kernel_rfl) (fun _ _ _ h => h) (Or.inl ⟨by kernel_rfl, ?_⟩) hHeld ?_
  rotate_left
  · intro w' hSw
    (try dsimp only at hSw)
    have y0_0 := hSw.1.cell 0 _ rfl
    have y0_1 := hSw.1.cell 1 _ rfl
    have y0_2 := hSw.1.cell 2 _ rfl
    have y0_3 := hSw.1.cell 3 _ rfl
    have y0_4 := hSw.1.cell 4 _ rfl
    have y0_5 := hSw.1.cell 5 _ rfl
    have y0_6 := hSw.1.cell 6 _ rfl
    have y0_7 := hSw.1.cell 7 _ rfl
    have y0_8 := hSw.1.cell 8 _ rfl
    have y0_9 := hSw.1.cell 9 _ rfl
    have y1_0 := hSw.2.1.cell 0 _ rfl
    have y1_1 := hSw.2.1.cell 1 _ rfl
    have y1_2 := hSw.2.1.cell 2 _ rfl
    have y1_3 := hSw.2.1.cell 3 _ rfl
    have y1_4 := hSw.2.1.cell 4 _ rfl
    have y1_5 := hSw.2.1.cell 5 _ rfl
    have y1_6 := hSw.2.1.cell 6 _ rfl
    have y1_7 := hSw.2.1.cell 7 _ rfl
    have y1_8 := hSw.2.1.cell 8 _ rfl
    have y1_9 := hSw.2.1.cell 9 _ rfl
    go_simp
    first | done | with_reducible rfl
  try simp only [Act.put, List.getElem_toArray, List.getElem_cons_succ, List.getElem_cons_zero, List.setIfInBounds_toArray, List.set]
  clear SS hHeld
  refine wpAnyH_ready (rs := [2]) (by kernel_rfl) (by simp) ?_
  refine AllReadyH.cons rfl (fun K hK => ?_) AllReadyH.nil
  go_simp
  refine (toMchMach p0x0 p0a1 p0x2 p0a3 p0a4 p0a5 p0a6 p0x7 p0x8 p0a9 _ _ (machR.rb RM0.out BW.out) HS0.out).mono ?_
  rintro e u7 ⟨e0_0, e0_2, e0_7, e0_8, rfl, M, hb⟩
  have T3 := hide M
  clear M
  replace TA0 := hide (TA0.out.below hb)
  replace BW0 := hide (BW0.out.below hb)
  replace BX0 := hide (BX0.out.below hb)
  replace BG0 := hide (BG0.out.below hb)
  replace W0 := hide (engR.ob W0.out hb)
  replace X0 := hide (machR.ob X0.out hb)
  replace G0 := hide (engR.ob G0.out hb)
  replace BW := hide (BW.out.trans (hb.mono BW.out.size))
  have L14 : Hid (u6.drew.heap.size ≤ u7.heap.size) := hb.size
  clear hb
  have SU : Rec u4.heap.size [.slice (some ⟨x0_0, 0, none⟩) p0x0.length p0x0.length, .int .i64 p0a1, .slice (some ⟨x0_2, 0, none⟩) p0x2.length p0x2.length, .int .i64 p0a3, .bool p0a4, .bool p0a5, .int .i64 p0a6, .slice (some ⟨x0_7, 0, none⟩) p0x7.length p0x7.length, .slice (some ⟨x0_8, 0, none⟩) p0x8.length p0x8.length, .int .i64 p0a9] u7 ∧ Rec w.heap.size [.slice q0_0 p0x0.length c0_0, .int .i64 p0a1, .slice q0_2 p0x2.length c0_2, .int .i64 p0a3, .bool p0a4, .bool p0a5, .int .i64 p0a6, .slice q0_7 p0x7.length c0_7, .slice q0_8 p0x8.length c0_8, .int .i64 p0a9] u7 ∧ True := ⟨BX0.out, TA0.out, trivial⟩
  refine hK.out _ _ SU (fun hHeld => ?_)
  clear hK K SU
  try simp only [Act.put, List.getElem_toArray, List.getElem_cons_succ, List.getElem_cons_zero, List.setIfInBounds_toArray, List.set]
  clear hHeld
  refine wpAnyH_ready (rs := [3]) (by kernel_rfl) (by simp) ?_
  refine AllReadyH.cons rfl (fun K hK => ?_) AllReadyH.nil
  go_simp
  refine (eqMchMach p0x0 p0a1 p0x2 p0a3 p0a4 p0a5 p0a6 p0x7 p0x8 p0a9 _ _ _ (machR.od X0.out) (machR.od T3.out)).mono ?_
  rintro e u8 ⟨rfl, hb⟩
  clear T3
  replace TA0 := hide (TA0.out.below hb)
  replace BW0 := hide (BW0.out.below hb)
  replace BX0 := hide (BX0.out.below hb)
  replace BG0 := hide (BG0.out.below hb)
  replace W0 := hide (engR.ob W0.out hb)
  replace X0 := hide (machR.ob X0.out hb)
  replace G0 := hide (engR.ob G0.out hb)
  replace BW := hide (BW.out.trans (hb.mono BW.out.size))
  have L15 : Hid (u7.heap.size ≤ u8.heap.size) := hb.size
  clear hb
  have SU : Rec u4.heap.size [.slice (some ⟨x0_0, 0, none⟩) p0x0.length p0x0.length, .int .i64 p0a1, .slice (some ⟨x0_2, 0, none⟩) p0x2.length p0x2.length, .int .i64 p0a3, .bool p0a4, .bool p0a5, .int .i64 p0a6, .slice (some ⟨x0_7, 0, none⟩) p0x7.length p0x7.length, .slice (some ⟨x0_8, 0, none⟩) p0x8.length p0x8.length, .int .i64 p0a9] u8 ∧ Rec w.heap.size [.slice q0_0 p0x0.length c0_0, .int .i64 p0a1, .slice q0_2 p0x2.length c0_2, .int .i64 p0a3, .bool p0a4, .bool p0a5, .int .i64 p0a6, .slice q0_7 p0x7.length c0_7, .slice q0_8 p0x8.length c0_8, .int .i64 p0a9] u8 ∧ True := ⟨BX0.out, TA0.out, trivial⟩
  refine hK.out _ _ SU (fun hHeld => ?_)
  clear hK K SU
  try simp only [Act.put, List.getElem_toArray, List.getElem_cons_succ, List.getElem_cons_zero, List.setIfInBounds_toArray, List.set]
  refine wpAnyH_take (i := 4) (v := ?_) rfl (by kernel_rfl) (by kernel_rfl) (by kernel_rfl) (fun _ _ _ h => h) (Or.inl ⟨by kernel_rfl, ?_⟩) hHeld ?_
  rotate_left
  · intro w' hSw
    (try dsimp only at hSw)
    go_simp
    first | done | with_reducible rfl
  try simp only [Act.put, List.getElem_toArray, List.getElem_cons_succ, List.getElem_cons_zero, List.setIfInBounds_toArray, List.set]
  refine wpAnyH_done (by kernel_rfl) ?_ _
  clear hHeld
  have NXo := NXO.out
  have NXi0 := NX0.out
  have z0_0 := BX0.out.cell 0 _ rfl
  have z0_1 := BX0.out.cell 1 _ rfl
  have z0_2 := BX0.out.cell 2 _ rfl
  have z0_3 := BX0.out.cell 3 _ rfl
  have z0_4 := BX0.out.cell 4 _ rfl
  have z0_5 := BX0.out.cell 5 _ rfl
  have z0_6 := BX0.out.cell 6 _ rfl
  have z0_7 := BX0.out.cell 7 _ rfl
  have z0_8 := BX0.out.cell 8 _ rfl
  have z0_9 := BX0.out.cell 9 _ rfl
  go_wp2_with fail
  refine (markMchMach p0x0 p0a1 p0x2 p0a3 p0a4 p0a5 p0a6 p0x7 p0x8 p0a9 1 _ _ _ X0.out (fun b hb => by have := hb.2; have := L0.out; have := L1.out; have := L2.out; have := L3.out; have := L4.out; have := BW0s.out; have := L6.out; have := L7.out; have := BX0s.out; have := L9.out; have := L10.out; have := BG0s.out; have := L12.out; have := L13.out; have := L14.out; have := L15.out; omega) (by omega) (by skip; omega)).mono ?_
  rintro e u9 ⟨rfl, XM, KP⟩
  clear z0_0 z0_1 z0_2 z0_3 z0_4 z0_5 z0_6 z0_7 z0_8 z0_9
  obtain ⟨k0, ek0⟩ : ∃ z : Int, 1 + ((machR.nx (p0x0, p0a1, p0x2, p0a3, p0a4, p0a5, p0a6, p0x7, p0x8, p0a9) : Nat) : Int) = z := ⟨_, rfl⟩
  rw [ek0]
  have k00 : 0 ≤ k0 ∧ k0 ≤ 1 + 40000000 * 1 := by skip; omega
  have Ek0 := hide ek0
  clear ek0
  replace TA0 := hide (TA0.out.keep KP (fun hb => by have := hb.1; have := hb.2; have := L0.out; have := L1.out; have := L2.out; have := L3.out; have := L4.out; have := BW0s.out; have := L6.out; have := L7.out; have := BX0s.out; have := L9.out; have := L10.out; have := BG0s.out; have := L12.out; have := L13.out; have := L14.out; have := L15.out; omega))
  replace BW0 := hide (BW0.out.keep KP (fun hb => by have := hb.1; have := hb.2; have := L0.out; have := L1.out; have := L2.out; have := L3.out; have := L4.out; have := BW0s.out; have := L6.out; have := L7.out; have := BX0s.out; have := L9.out; have := L10.out; have := BG0s.out; have := L12.out; have := L13.out; have := L14.out; have := L15.out; omega))
  replace BX0 := hide (BX0.out.keep KP (fun hb => by have := hb.1; have := hb.2; have := L0.out; have := L1.out; have := L2.out; have := L3.out; have := L4.out; have := BW0s.out; have := L6.out; have := L7.out; have := BX0s.out; have := L9.out; have := L10.out; have := BG0s.out; have := L12.out; have := L13.out; have := L14.out; have := L15.out; omega))
  replace BG0 := hide (BG0.out.keep KP (fun hb => by have := hb.1; have := hb.2; have := L0.out; have := L1.out; have := L2.out; have := L3.out; have := L4.out; have := BW0s.out; have := L6.out; have := L7.out; have := BX0s.out; have := L9.out; have := L10.out; have := BG0s.out; have := L12.out; have := L13.out; have := L14.out; have := L15.out; omega))
  replace W0 := hide (engR.ok W0.out KP (fun b hx hb => by have := hb.1; have := hb.2; have := hx.1; have := hx.2; have := L0.out; have := L1.out; have := L2.out; have := L3.out; have := L4.out; have := BW0s.out; have := L6.out; have := L7.out; have := BX0s.out; have := L9.out; have := L10.out; have := BG0s.out; have := L12.out; have := L13.out; have := L14.out; have := L15.out; omega))
  replace G0 := hide (engR.ok G0.out KP (fun b hx hb => by have := hb.1; have := hb.2; have := hx.1; have := hx.2; have := L0.out; have := L1.out; have := L2.out; have := L3.out; have := L4.out; have := BW0s.out; have := L6.out; have := L7.out; have := BX0s.out; have := L9.out; have := L10.out; have := BG0s.out; have := L12.out; have := L13.out; have := L14.out; have := L15.out; omega))
  replace BW := hide (BW.out.trans (KP.below BW.out.size (fun k hk hb => by have := hb.1; have := L0.out; have := L1.out; have := L2.out; have := L3.out; have := L4.out; have := BW0s.out; have := L6.out; have := L7.out; have := BX0s.out; have := L9.out; have := L10.out; have := BG0s.out; have := L12.out; have := L13.out; have := L14.out; have := L15.out; omega)))
  have L16 : Hid (u8.heap.size ≤ u9.heap.size) := KP.size
  clear KP
  clear X0 XM
  clear BX0
  have kx0 : ¬ k0 < 0 := by omega
  have z0_0 := BG0.out.cell 0 _ rfl
  have z0_1 := BG0.out.cell 1 _ rfl
  have z0_2 := BG0.out.cell 2 _ rfl
  have z0_3 := BG0.out.cell 3 _ rfl
  have z0_4 := BG0.out.cell 4 _ rfl
  have z0_5 := BG0.out.cell 5 _ rfl
  have z0_6 := BG0.out.cell 6 _ rfl
  have z0_7 := BG0.out.cell 7 _ rfl
  have z0_8 := BG0.out.cell 8 _ rfl
  have z0_9 := BG0.out.cell 9 _ rfl
  have z0_10 := BG0.out.cell 10 _ rfl
  have z0_11 := BG0.out.cell 11 _ rfl
  have z1_0 := BW0.out.cell 0 _ rfl
  have z1_1 := BW0.out.cell 1 _ rfl
  have z1_2 := BW0.out.cell 2 _ rfl
  have z1_3 := BW0.out.cell 3 _ rfl
  have z1_4 := BW0.out.cell 4 _ rfl
  have z1_5 := BW0.out.cell 5 _ rfl
  have z1_6 := BW0.out.cell 6 _ rfl
  have z1_7 := BW0.out.cell 7 _ rfl
  have z1_8 := BW0.out.cell 8 _ rfl
  have z1_9 := BW0.out.cell 9 _ rfl
  have z1_10 := BW0.out.cell 10 _ rfl
  have z1_11 := BW0.out.cell 11 _ rfl
  go_wp2_with fail
  refine (eqEngEng p9x0 p9a1 p9x2 p9a3 p9a4 p9a5 p9a6 p9x7 p9x8 p9a9 p9x10 p9x11 _ _ _ (engR.od G0.out) (engR.od W0.out)).mono ?_
  rintro e u10 ⟨rfl, hb⟩
  clear z0_0 z0_1 z0_2 z0_3 z0_4 z0_5 z0_6 z0_7 z0_8 z0_9 z0_10 z0_11
  clear z1_0 z1_1 z1_2 z1_3 z1_4 z1_5 z1_6 z1_7 z1_8 z1_9 z1_10 z1_11
  replace TA0 := hide (TA0.out.below hb)
  replace BW0 := hide (BW0.out.below hb)
  replace BG0 := hide (BG0.out.below hb)
  replace W0 := hide (engR.ob W0.out hb)
  replace G0 := hide (engR.ob G0.out hb)
  replace BW := hide (BW.out.trans (hb.mono BW.out.size))
  have L17 : Hid (u9.heap.size ≤ u10.heap.size) := hb.size
  clear hb
  have z0_0 := BG0.out.cell 0 _ rfl
  have z0_1 := BG0.out.cell 1 _ rfl
  have z0_2 := BG0.out.cell 2 _ rfl
  have z0_3 := BG0.out.cell 3 _ rfl
  have z0_4 := BG0.out.cell 4 _ rfl
  have z0_5 := BG0.out.cell 5 _ rfl
  have z0_6 := BG0.out.cell 6 _ rfl
  have z0_7 := BG0.out.cell 7 _ rfl
  have z0_8 := BG0.out.cell 8 _ rfl
  have z0_9 := BG0.out.cell 9 _ rfl
  have z0_10 := BG0.out.cell 10 _ rfl
  have z0_11 := BG0.out.cell 11 _ rfl
  go_wp2_with fail
  refine (markEngEng p9x0 p9a1 p9x2 p9a3 p9a4 p9a5 p9a6 p9x7 p9x8 p9a9 p9x10 p9x11 1 _ _ _ G0.out (fun b hb => by have := hb.2; have := L0.out; have := L1.out; have := L2.out; have := L3.out; have := L4.out; have := BW0s.out; have := L6.out; have := L7.out; have := BX0s.out; have := L9.out; have := L10.out; have := BG0s.out; have := L12.out; have := L13.out; have := L14.out; have := L15.out; have := L16.out; have := L17.out; omega) (by omega) (by omega)).mono ?_
  rintro e u11 ⟨rfl, GM, KP⟩
  clear z0_0 z0_1 z0_2 z0_3 z0_4 z0_5 z0_6 z0_7 z0_8 z0_9 z0_10 z0_11
  obtain ⟨kg, ekg⟩ : ∃ z : Int, 1 + ((engR.nx (p9x0, p9a1, p9x2, p9a3, p9a4, p9a5, p9a6, p9x7, p9x8, p9a9, p9x10, p9x11) : Nat) : Int) = z := ⟨_, rfl⟩
  rw [ekg]
  have kg0 : ¬ kg < 0 := by omega
  have kg1 := same_int kg
  have EG := hide ekg
  clear ekg
  replace TA0 := hide (TA0.out.keep KP (fun hb => by have := hb.1; have := hb.2; have := L0.out; have := L1.out; have := L2.out; have := L3.out; have := L4.out; have := BW0s.out; have := L6.out; have := L7.out; have := BX0s.out; have := L9.out; have := L10.out; have := BG0s.out; have := L12.out; have := L13.out; have := L14.out; have := L15.out; have := L16.out; have := L17.out; omega))
  replace BW0 := hide (BW0.out.keep KP (fun hb => by have := hb.1; have := hb.2; have := L0.out; have := L1.out; have := L2.out; have := L3.out; have := L4.out; have := BW0s.out; have := L6.out; have := L7.out; have := BX0s.out; have := L9.out; have := L10.out; have := BG0s.out; have := L12.out; have := L13.out; have := L14.out; have := L15.out; have := L16.out; have := L17.out; omega))
  replace BG0 := hide (BG0.out.keep KP (fun hb => by have := hb.1; have := hb.2; have := L0.out; have := L1.out; have := L2.out; have := L3.out; have := L4.out; have := BW0s.out; have := L6.out; have := L7.out; have := BX0s.out; have := L9.out; have := L10.out; have := BG0s.out; have := L12.out; have := L13.out; have := L14.out; have := L15.out; have := L16.out; have := L17.out; omega))
  replace W0 := hide (engR.ok W0.out KP (fun b hx hb => by have := hb.1; have := hb.2; have := hx.1; have := hx.2; have := L0.out; have := L1.out; have := L2.out; have := L3.out; have := L4.out; have := BW0s.out; have := L6.out; have := L7.out; have := BX0s.out; have := L9.out; have := L10.out; have := BG0s.out; have := L12.out; have := L13.out; have := L14.out; have := L15.out; have := L16.out; have := L17.out; omega))
  replace BW := hide (BW.out.trans (KP.below BW.out.size (fun k hk hb => by have := hb.1; have := L0.out; have := L1.out; have := L2.out; have := L3.out; have := L4.out; have := BW0s.out; have := L6.out; have := L7.out; have := BX0s.out; have := L9.out; have := L10.out; have := BG0s.out; have := L12.out; have := L13.out; have := L14.out; have := L15.out; have := L16.out; have := L17.out; omega)))
  have L18 : Hid (u10.heap.size ≤ u11.heap.size) := KP.size
  clear KP
  have GM2 := hide GM
  clear GM G0
  have z0_0 := BG0.out.cell 0 _ rfl
  have z0_1 := BG0.out.cell 1 _ rfl
  have z0_2 := BG0.out.cell 2 _ rfl
  have z0_3 := BG0.out.cell 3 _ rfl
  have z0_4 := BG0.out.cell 4 _ rfl
  have z0_5 := BG0.out.cell 5 _ rfl
  have z0_6 := BG0.out.cell 6 _ rfl
  have z0_7 := BG0.out.cell 7 _ rfl
  have z0_8 := BG0.out.cell 8 _ rfl
  have z0_9 := BG0.out.cell 9 _ rfl
  have z0_10 := BG0.out.cell 10 _ rfl
  have z0_11 := BG0.out.cell 11 _ rfl
  go_wp2_with fail
  refine (heldEngEng p9x0 p9a1 p9x2 p9a3 p9a4 p9a5 p9a6 p9x7 p9x8 p9a9 p9x10 p9x11 1 _ _ (engR.od GM2.out) (by omega) (by omega)).mono ?_
  rintro e u12 ⟨rfl, hb⟩
  clear z0_0 z0_1 z0_2 z0_3 z0_4 z0_5 z0_6 z0_7 z0_8 z0_9 z0_10 z0_11
  rw [EG.out]
  replace TA0 := hide (TA0.out.below hb)
  replace BW0 := hide (BW0.out.below hb)
  replace BG0 := hide (BG0.out.below hb)
  replace W0 := hide (engR.ob W0.out hb)
  replace GM2 := hide (engR.ob GM2.out hb)
  replace BW := hide (BW.out.trans (hb.mono BW.out.size))
  have L19 : Hid (u11.heap.size ≤ u12.heap.size) := hb.size
  clear hb
  have z0_0 := TA0.out.cell 0 _ rfl
  have z0_1 := TA0.out.cell 1 _ rfl
  have z0_2 := TA0.out.cell 2 _ rfl
  have z0_3 := TA0.out.cell 3 _ rfl
  have z0_4 := TA0.out.cell 4 _ rfl
  have z0_5 := TA0.out.cell 5 _ rfl
  have z0_6 := TA0.out.cell 6 _ rfl
  have z0_7 := TA0.out.cell 7 _ rfl
  have z0_8 := TA0.out.cell 8 _ rfl
  have z0_9 := TA0.out.cell 9 _ rfl
  go_wp2_with fail
  refine (toMchMach p0x0 p0a1 p0x2 p0a3 p0a4 p0a5 p0a6 p0x7 p0x8 p0a9 _ _ (machR.rb RM0.out BW.out) HS0.out).mono ?_
  rintro e u13 ⟨g3_0, g3_2, g3_7, g3_8, rfl, M, hb⟩
  clear z0_0 z0_1 z0_2 z0_3 z0_4 z0_5 z0_6 z0_7 z0_8 z0_9
  have T4 := hide M
  clear M
  replace TA0 := hide (TA0.out.below hb)
  replace BW0 := hide (BW0.out.below hb)
  replace BG0 := hide (BG0.out.below hb)
  replace W0 := hide (engR.ob W0.out hb)
  replace GM2 := hide (engR.ob GM2.out hb)
  replace BW := hide (BW.out.trans (hb.mono BW.out.size))
  have L20 : Hid (u12.heap.size ≤ u13.heap.size) := hb.size
  clear hb
  go_wp2_with fail
  refine (implNew ⟨p0x0, p0a1, p0x2, p0a3, p0a4, p0a5, p0a6, p0x7, p0x8, p0a9⟩ _ _ (rd_mach (machR.od T4.out)) (small_mach (m := ⟨p0x0, p0a1, p0x2, p0a3, p0a4, p0a5, p0a6, p0x7, p0x8, p0a9⟩) HS0.out).mid).mono ?_
  rintro e u14 ⟨oc13, rfl, OW, hb⟩
  clear T4
  rw [EO.out] at OW
  have H0 := hide OW
  obtain ⟨oq3_0, oc3_0, oq3_2, oc3_2, oq3_7, oc3_7, oq3_8, oc3_8, oq3_10, oc3_10, oq3_11, oc3_11, _, _, _, _, _, _, rfl, -⟩ := engR_own OW
  clear OW
  replace TA0 := hide (TA0.out.below hb)
  replace BW0 := hide (BW0.out.below hb)
  replace BG0 := hide (BG0.out.below hb)
  replace W0 := hide (engR.ob W0.out hb)
  replace GM2 := hide (engR.ob GM2.out hb)
  replace BW := hide (BW.out.trans (hb.mono BW.out.size))
  have L21 : Hid (u13.heap.size ≤ u14.heap.size) := hb.size
  clear hb
  have hb : Below u14.heap.size u14 (u14.alloc (.cells #[.slice oq3_0 p9x0.length oc3_0, .int .i64 p9a1, .slice oq3_2 p9x2.length oc3_2, .int .i64 p9a3, .bool p9a4, .bool p9a5, .int .i64 p9a6, .slice oq3_7 p9x7.length oc3_7, .slice oq3_8 p9x8.length oc3_8, .int .i64 p9a9, .slice oq3_10 p9x10.length oc3_10, .slice oq3_11 p9x11.length oc3_11] 30)) := boxL _ _
  have BH0n := hide (Rec.new u14 [.slice oq3_0 p9x0.length oc3_0, .int .i64 p9a1, .slice oq3_2 p9x2.length oc3_2, .int .i64 p9a3, .bool p9a4, .bool p9a5, .int .i64 p9a6, .slice oq3_7 p9x7.length oc3_7, .slice oq3_8 p9x8.length oc3_8, .int .i64 p9a9, .slice oq3_10 p9x10.length oc3_10, .slice oq3_11 p9x11.length oc3_11] 30)
  have BH0s : Hid (u14.heap.size < (u14.alloc (.cells #[.slice oq3_0 p9x0.length oc3_0, .int .i64 p9a1, .slice oq3_2 p9x2.length oc3_2, .int .i64 p9a3, .bool p9a4, .bool p9a5, .int .i64 p9a6, .slice oq3_7 p9x7.length oc3_7, .slice oq3_8 p9x8.length oc3_8, .int .i64 p9a9, .slice oq3_10 p9x10.length oc3_10, .slice oq3_11 p9x11.length oc3_11] 30)).heap.size) := BH0n.out.lt
  replace TA0 := hide (TA0.out.below hb)
  replace BW0 := hide (BW0.out.below hb)
  replace BG0 := hide (BG0.out.below hb)
  replace W0 := hide (engR.ob W0.out hb)
  replace GM2 := hide (engR.ob GM2.out hb)
  replace H0 := hide (engR.ob H0.out hb)
  replace BW := hide (BW.out.trans (hb.mono BW.out.size))
  have L22 : Hid (u14.heap.size ≤ (u14.alloc (.cells #[.slice oq3_0 p9x0.length oc3_0, .int .i64 p9a1, .slice oq3_2 p9x2.length oc3_2, .int .i64 p9a3, .bool p9a4, .bool p9a5, .int .i64 p9a6, .slice oq3_7 p9x7.length oc3_7, .slice oq3_8 p9x8.length oc3_8, .int .i64 p9a9, .slice oq3_10 p9x10.length oc3_10, .slice oq3_11 p9x11.length oc3_11] 30)).heap.size) := hb.size
  clear hb
  have BH0 := BH0n
  clear BH0n
  have z0_0 := BH0.out.cell 0 _ rfl
  have z0_1 := BH0.out.cell 1 _ rfl
  have z0_2 := BH0.out.cell 2 _ rfl
  have z0_3 := BH0.out.cell 3 _ rfl
  have z0_4 := BH0.out.cell 4 _ rfl
  have z0_5 := BH0.out.cell 5 _ rfl
  have z0_6 := BH0.out.cell 6 _ rfl
  have z0_7 := BH0.out.cell 7 _ rfl
  have z0_8 := BH0.out.cell 8 _ rfl
  have z0_9 := BH0.out.cell 9 _ rfl
  have z0_10 := BH0.out.cell 10 _ rfl
  have z0_11 := BH0.out.cell 11 _ rfl
  have z1_0 := BW0.out.cell 0 _ rfl
  have z1_1 := BW0.out.cell 1 _ rfl
  have z1_2 := BW0.out.cell 2 _ rfl
  have z1_3 := BW0.out.cell 3 _ rfl
  have z1_4 := BW0.out.cell 4 _ rfl
  have z1_5 := BW0.out.cell 5 _ rfl
  have z1_6 := BW0.out.cell 6 _ rfl
  have z1_7 := BW0.out.cell 7 _ rfl
  have z1_8 := BW0.out.cell 8 _ rfl
  have z1_9 := BW0.out.cell 9 _ rfl
  have z1_10 := BW0.out.cell 10 _ rfl
  have z1_11 := BW0.out.cell 11 _ rfl
  go_wp2_with fail
  refine (eqEngEng p9x0 p9a1 p9x2 p9a3 p9a4 p9a5 p9a6 p9x7 p9x8 p9a9 p9x10 p9x11 _ _ _ (engR.od H0.out) (engR.od W0.out)).mono ?_
  rintro e u15 ⟨rfl, hb⟩
  clear z0_0 z0_1 z0_2 z0_3 z0_4 z0_5 z0_6 z0_7 z0_8 z0_9 z0_10 z0_11
  clear z1_0 z1_1 z1_2 z1_3 z1_4 z1_5 z1_6 z1_7 z1_8 z1_9 z1_10 z1_11
  replace TA0 := hide (TA0.out.below hb)
  replace BW0 := hide (BW0.out.below hb)
  replace BG0 := hide (BG0.out.below hb)
  replace BH0 := hide (BH0.out.below hb)
  replace W0 := hide (engR.ob W0.out hb)
  replace GM2 := hide (engR.ob GM2.out hb)
  replace H0 := hide (engR.ob H0.out hb)
  replace BW := hide (BW.out.trans (hb.mono BW.out.size))
  have L24 : Hid ((u14.alloc (.cells #[.slice oq3_0 p9x0.length oc3_0, .int .i64 p9a1, .slice oq3_2 p9x2.length oc3_2, .int .i64 p9a3, .bool p9a4, .bool p9a5, .int .i64 p9a6, .slice oq3_7 p9x7.length oc3_7, .slice oq3_8 p9x8.length oc3_8, .int .i64 p9a9, .slice oq3_10 p9x10.length oc3_10, .slice oq3_11 p9x11.length oc3_11] 30)).heap.size ≤ u15.heap.size) := hb.size
  clear hb
  have z0_0 := BG0.out.cell 0 _ rfl
  have z0_1 := BG0.out.cell 1 _ rfl
  have z0_2 := BG0.out.cell 2 _ rfl
  have z0_3 := BG0.out.cell 3 _ rfl
  have z0_4 := BG0.out.cell 4 _ rfl
  have z0_5 := BG0.out.cell 5 _ rfl
  have z0_6 := BG0.out.cell 6 _ rfl
  have z0_7 := BG0.out.cell 7 _ rfl
  have z0_8 := BG0.out.cell 8 _ rfl
  have z0_9 := BG0.out.cell 9 _ rfl
  have z0_10 := BG0.out.cell 10 _ rfl
  have z0_11 := BG0.out.cell 11 _ rfl
  go_wp2_with fail
  refine (heldEngEng p9x0 p9a1 p9x2 p9a3 p9a4 p9a5 p9a6 p9x7 p9x8 p9a9 p9x10 p9x11 1 _ _ (engR.od GM2.out) (by omega) (by omega)).mono ?_
  rintro e u16 ⟨rfl, hb⟩
  clear z0_0 z0_1 z0_2 z0_3 z0_4 z0_5 z0_6 z0_7 z0_8 z0_9 z0_10 z0_11
  rw [EG.out]
  replace TA0 := hide (TA0.out.below hb)
  replace BW0 := hide (BW0.out.below hb)
  replace BG0 := hide (BG0.out.below hb)
  replace BH0 := hide (BH0.out.below hb)
  replace W0 := hide (engR.ob W0.out hb)
  replace GM2 := hide (engR.ob GM2.out hb)
  replace H0 := hide (engR.ob H0.out hb)
  replace BW := hide (BW.out.trans (hb.mono BW.out.size))
  have L25 : Hid (u15.heap.size ≤ u16.heap.size) := hb.size
  clear hb
  clear TA0 BW0 BG0 BH0 W0 GM2 H0
  go_wp2
  go_ret
  exact ⟨rfl, BW.out⟩

set_option maxRecDepth 100000 in
theorem lifted (os : Os) (started : os.Started) (H : Type) (enc : TypeId × Value → H) :
    ReturnsInHanded {} Try.checked os 3 .any (Rows.fnExactEngNewSpec.pre6 enc Try.prog Try.f3 Rows.fnExactEngNewRow.domain false) (Rows.fnExactEngNewSpec.post enc Try.prog Try.f3 false true false false) := by
  refine returnsInHanded_of_change (C := Try.checked) own started (by kernel_rfl) Try.func3
    (ChangeSpec.witness6 (enc := enc) (C := Try.checked) false ⟨#[], #[.agg #[.slice none 0 0, .int .i64 0, .slice none 0 0, .int .i64 0, .bool false, .bool false, .int .i64 0, .slice none 0 0, .slice none 0 0, .int .i64 0]], []⟩ 8 (by kernel_rfl) (by kernel_rfl) (by kernel_rfl) (by kernel_rfl)) ?_
  intro W base args ds gs before hval0 hW hcnd hsz0
  have hval : ∀ (j : Nat) t v, Try.f3.params[j]? = some t → args[j]? = some v → Value.okWide Try.prog W .any base t v := hval0
  have hW' := hW
  obtain ⟨p, q, hA0, hV, rfl, hfz, hnd⟩ := hW
  have hA : DataW.TrodAll enc Try.prog W 0 (fun _ => true) true Try.f3.params.toList args.toList ds p := hA0
  rw [Try.params3] at hA hval
  obtain ⟨v0, vs0, d0, ds0, p0, q0, hargs, rfl, rfl, h0, r0⟩ := trodAll_cons hA
  obtain ⟨rfl, rfl, rfl⟩ := trodAll_nil r0
  obtain rfl : args = #[v0] := by cases args; simp_all
  obtain ⟨rfl, rfl⟩ := trodVars_none hV
  have k0 := h0
  have lt0 : ∀ x ∈ p0, x.block < W.heap.size := by obtain ⟨m, hm⟩ := k0; exact DataW.trod_lt m _ _ _ hm
  obtain ⟨a0, rfl, _⟩ := okWide_struct Try.underlying24 (hval 0 24 v0 rfl rfl)
  have w0 : Shape.Holds Try.prog W 10 24 a0.toList := Shape.opened 10 h0
  clear hA0 hval0
  refine (walk a0 W w0).mono fun e W' ⟨he, hnx⟩ => ?_
  subst he
  exact ⟨_, rfl, _, _, _, [], _, [], hW', trodAll_cons_mk (shut_bool Try.underlying4 _) trodAll_mk0, (trodAll_cons_mk (Below.trod laidOut (by kernel_rfl) (of_decide_eq_true (by kernel_rfl)) k0 hnx lt0) trodAll_mk0), rfl, hnx.frame _, fun h => by cases h⟩

theorem over : Rows.fnExactEngNewRow.holds Try.pinned (OpenSpec.ofChange Rows.fnExactEngNewSpec) :=
  OpenClaim.holds_of_wide 3 Try.f3 rfl rfl rfl rfl rfl rfl rfl ⟨rfl, rfl, rfl, rfl, rfl⟩ rfl rfl rfl rfl rfl (by kernel_rfl) Try.func3 (by kernel_rfl)
    (of_decide_eq_true (by kernel_rfl)) (by unfold Func.isWrapper; first | (rw [if_pos (by decide +kernel)]; kernel_rfl) | (rw [if_neg (by decide +kernel)]; exact ⟨rfl, rfl⟩))
    (fun os started H enc _ => lifted os started H enc)

theorem proved : Rows.FnExactEngNewSaid := over
#print axioms proved
end Go.Proofs.Ytlgpnogeoaoidaa.fnExactEngNew
