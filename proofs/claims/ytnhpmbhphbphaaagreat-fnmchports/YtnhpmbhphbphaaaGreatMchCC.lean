/-
  The program's copiedMachine: the same machine in new memory.
-/
import Derived.Test.YtnhpmbhphbphaaaGreatJnP
import Derived.Test.YtnhpmbhphbphaaaGreatPhase
namespace Go.Proofs.YtnhpmbhphbphaaaGreat.MchI
set_option linter.unusedSimpArgs false
set_option linter.unusedVariables false
open Go.ChangeShapes Go.WideShapes Go.ChangeAt Go.RowKit IntS Mch
set_option maxRecDepth 8000 in
set_option maxHeartbeats 8000000 in
theorem copiedMachine (m : M) (c : List Value) (w : World) (h : RMach w c m) (hs : Mid m) :
    Calls Tryz.prog 32 #[.agg c.toArray] w fun e w' => ∃ c', e = .returned (.agg c'.toArray) ∧ CMach w' w.heap.size c' m ∧ Below w.heap.size w w' := by
  obtain ⟨r, e, i, o, b1, b2, b3, b4, rfl, h1, h2, h3, h4⟩ := h
  obtain ⟨regs, pc, mem, save, lets, waits, halt, ins, outs, count⟩ := m
  have bV : Below w.heap.size w _ := (((Below.refl _ w).alloc (Nat.le_refl _) (.cells #[r, .int .i64 pc, e, .int .i64 save, .bool lets, .bool waits, .int .i64 halt, i, o, .int .i64 count] 25)).alloc (by simp) (.cells #[.slice none 0 0, .int .i64 0, .slice none 0 0, .int .i64 0, .bool false, .bool false, .int .i64 0, .slice none 0 0, .slice none 0 0, .int .i64 0] 25))
  have H1 := hide (h1.below bV)
  have H2 := hide (h2.below bV)
  have H3 := hide (h3.below bV)
  have H4 := hide (h4.below bV)
  obtain ⟨a1, j1, _, rfl, _⟩ := h1
  obtain ⟨a2, j2, _, rfl, _⟩ := h2
  obtain ⟨a3, j3, _, rfl, _⟩ := h3
  obtain ⟨a4, j4, _, rfl, _⟩ := h4
  simp only [mv] at *
  have N := hide ((Box.new w [.slice a1 regs.length j1, .int .i64 pc, .slice a2 mem.length j2, .int .i64 save, .bool lets, .bool waits, .int .i64 halt, .slice a3 ins.length j3, .slice a4 outs.length j4, .int .i64 count] 25).alloc (.cells #[.slice none 0 0, .int .i64 0, .slice none 0 0, .int .i64 0, .bool false, .bool false, .int .i64 0, .slice none 0 0, .slice none 0 0, .int .i64 0] 25))
  have R0 := Box.new (w.alloc (.cells #[.slice a1 regs.length j1, .int .i64 pc, .slice a2 mem.length j2, .int .i64 save, .bool lets, .bool waits, .int .i64 halt, .slice a3 ins.length j3, .slice a4 outs.length j4, .int .i64 count] 25)) [.slice none 0 0, .int .i64 0, .slice none 0 0, .int .i64 0, .bool false, .bool false, .int .i64 0, .slice none 0 0, .slice none 0 0, .int .i64 0] 25
  rw [show (w.alloc (.cells #[.slice a1 regs.length j1, .int .i64 pc, .slice a2 mem.length j2, .int .i64 save, .bool lets, .bool waits, .int .i64 halt, .slice a3 ins.length j3, .slice a4 outs.length j4, .int .i64 count] 25)).heap.size = w.heap.size + 1 by simp] at R0
  have R := hide R0
  have BW := hide bV
  have HS := hide hs
  clear bV R0 hs
  go_enter Tryz.func32, Tryz.ntmps32
  go_wp2_with fail
  generalize ((w.alloc (.cells #[.slice a1 regs.length j1, .int .i64 pc, .slice a2 mem.length j2, .int .i64 save, .bool lets, .bool waits, .int .i64 halt, .slice a3 ins.length j3, .slice a4 outs.length j4, .int .i64 count] 25)).alloc (.cells #[.slice none 0 0, .int .i64 0, .slice none 0 0, .int .i64 0, .bool false, .bool false, .int .i64 0, .slice none 0 0, .slice none 0 0, .int .i64 0] 25)) = V at *
  have DR : Below V.heap.size V V.drew := (Below.refl _ _).drew
  replace H1 := hide (H1.out.below DR)
  replace H2 := hide (H2.out.below DR)
  replace H3 := hide (H3.out.below DR)
  replace H4 := hide (H4.out.below DR)
  replace N := hide (N.out.below DR)
  replace R := hide (R.out.below DR)
  replace BW := hide (BW.out.trans (DR.mono BW.out.size))
  clear DR
  have lw : Hid (w.heap.size ≤ V.drew.heap.size) := BW.out.size
  refine Phase.region (S := fun v => (v.cell? ⟨w.heap.size, 0, none⟩ = some (.slice a1 regs.length j1) ∧ v.cell? ⟨w.heap.size, 2, none⟩ = some (.slice a2 mem.length j2) ∧ v.cell? ⟨w.heap.size, 7, none⟩ = some (.slice a3 ins.length j3) ∧ v.cell? ⟨w.heap.size, 8, none⟩ = some (.slice a4 outs.length j4))) 12 (by kernel_rfl) ?_
  have hHeld : V.drew.cell? ⟨w.heap.size, 0, none⟩ = some (.slice a1 regs.length j1) ∧ V.drew.cell? ⟨w.heap.size, 2, none⟩ = some (.slice a2 mem.length j2) ∧ V.drew.cell? ⟨w.heap.size, 7, none⟩ = some (.slice a3 ins.length j3) ∧ V.drew.cell? ⟨w.heap.size, 8, none⟩ = some (.slice a4 outs.length j4) := ⟨N.out.r.cell 0 _ rfl, N.out.r.cell 2 _ rfl, N.out.r.cell 7 _ rfl, N.out.r.cell 8 _ rfl⟩
  refine Phase.take (i := 0) (v := ?_) rfl (by kernel_rfl) (by omega) (by kernel_rfl) (by kernel_rfl) (by kernel_rfl) (fun _ _ _ h => h) (Or.inl ⟨by rfl, ?_⟩) hHeld ?_
  rotate_left
  · intro w' hSw
    (try dsimp only at hSw)
    go_simp
    first | done | with_reducible rfl
  try simp only [Act.put, List.setIfInBounds_toArray, List.set]
  refine Phase.take (i := 1) (v := ?_) rfl (by kernel_rfl) (by omega) (by kernel_rfl) (by kernel_rfl) (by kernel_rfl) (fun _ _ _ h => h) (Or.inl ⟨by rfl, ?_⟩) hHeld ?_
  rotate_left
  · intro w' hSw
    (try dsimp only at hSw)
    go_simp
    first | done | with_reducible rfl
  try simp only [Act.put, List.setIfInBounds_toArray, List.set]
  refine Phase.take (i := 3) (v := ?_) rfl (by kernel_rfl) (by omega) (by kernel_rfl) (by kernel_rfl) (by kernel_rfl) (fun _ _ _ h => h) (Or.inl ⟨by rfl, ?_⟩) hHeld ?_
  rotate_left
  · intro w' hSw
    (try dsimp only at hSw)
    go_simp
    first | done | with_reducible rfl
  try simp only [Act.put, List.setIfInBounds_toArray, List.set]
  refine Phase.take (i := 4) (v := ?_) rfl (by kernel_rfl) (by omega) (by kernel_rfl) (by kernel_rfl) (by kernel_rfl) (fun _ _ _ h => h) (Or.inl ⟨by rfl, ?_⟩) hHeld ?_
  rotate_left
  · intro w' hSw
    (try dsimp only at hSw)
    go_simp
    first | done | with_reducible rfl
  try simp only [Act.put, List.setIfInBounds_toArray, List.set]
  refine Phase.take (i := 6) (v := ?_) rfl (by kernel_rfl) (by omega) (by kernel_rfl) (by kernel_rfl) (by kernel_rfl) (fun _ _ _ h => h) (Or.inl ⟨by rfl, ?_⟩) hHeld ?_
  rotate_left
  · intro w' hSw
    (try dsimp only at hSw)
    go_simp
    first | done | with_reducible rfl
  try simp only [Act.put, List.setIfInBounds_toArray, List.set]
  refine Phase.take (i := 7) (v := ?_) rfl (by kernel_rfl) (by omega) (by kernel_rfl) (by kernel_rfl) (by kernel_rfl) (fun _ _ _ h => h) (Or.inl ⟨by rfl, ?_⟩) hHeld ?_
  rotate_left
  · intro w' hSw
    (try dsimp only at hSw)
    go_simp
    first | done | with_reducible rfl
  try simp only [Act.put, List.setIfInBounds_toArray, List.set]
  refine Phase.take (i := 9) (v := ?_) rfl (by kernel_rfl) (by omega) (by kernel_rfl) (by kernel_rfl) (by kernel_rfl) (fun _ _ _ h => h) (Or.inl ⟨by rfl, ?_⟩) hHeld ?_
  rotate_left
  · intro w' hSw
    (try dsimp only at hSw)
    go_simp
    first | done | with_reducible rfl
  try simp only [Act.put, List.setIfInBounds_toArray, List.set]
  refine Phase.take (i := 10) (v := ?_) rfl (by kernel_rfl) (by omega) (by kernel_rfl) (by kernel_rfl) (by kernel_rfl) (fun _ _ _ h => h) (Or.inl ⟨by rfl, ?_⟩) hHeld ?_
  rotate_left
  · intro w' hSw
    (try dsimp only at hSw)
    go_simp
    first | done | with_reducible rfl
  try simp only [Act.put, List.setIfInBounds_toArray, List.set]
  refine Phase.ready (rs := [2]) (by kernel_rfl) (by simp) ?_
  refine Phase.AllQ.cons rfl (fun K hK => ?_) Phase.AllQ.nil
  go_simp
  refine (copied regs _ _ _ H1.out HS.out.1).mono ?_
  rintro e u1 ⟨g1, rfl, O1, ge1, gl1, hb⟩
  replace H2 := hide (H2.out.below hb)
  replace H3 := hide (H3.out.below hb)
  replace H4 := hide (H4.out.below hb)
  replace N := hide (N.out.below hb)
  replace R := hide (R.out.below hb)
  replace O1 := hide O1
  have L1 : Hid (V.drew.heap.size ≤ g1) := ge1
  have G1 : Hid (g1 < u1.heap.size) := gl1
  replace BW := hide (BW.out.trans (hb.mono BW.out.size))
  clear hHeld hb ge1 gl1
  have hHeld : u1.cell? ⟨w.heap.size, 0, none⟩ = some (.slice a1 regs.length j1) ∧ u1.cell? ⟨w.heap.size, 2, none⟩ = some (.slice a2 mem.length j2) ∧ u1.cell? ⟨w.heap.size, 7, none⟩ = some (.slice a3 ins.length j3) ∧ u1.cell? ⟨w.heap.size, 8, none⟩ = some (.slice a4 outs.length j4) := ⟨N.out.r.cell 0 _ rfl, N.out.r.cell 2 _ rfl, N.out.r.cell 7 _ rfl, N.out.r.cell 8 _ rfl⟩
  refine hK.out _ _ (fun _ => hHeld) ?_
  clear hK K
  try simp only [Act.put, List.setIfInBounds_toArray, List.set]
  refine Phase.takeW (i := 12) (v := ?_) rfl (by omega) (by kernel_rfl) (by kernel_rfl) (by kernel_rfl) (fun _ _ _ h => h) (Or.inl ⟨by rfl, ?_⟩) ?_
  rotate_left
  · intro w' _
    go_simp
    first | done | with_reducible rfl
  try simp only [Act.put, List.setIfInBounds_toArray, List.set]
  refine Phase.ready (rs := [5]) (by kernel_rfl) (by simp) ?_
  refine Phase.AllQ.cons rfl (fun K hK => ?_) Phase.AllQ.nil
  go_simp
  refine (copied mem _ _ _ H2.out HS.out.2.1).mono ?_
  rintro e u2 ⟨g2, rfl, O2, ge2, gl2, hb⟩
  replace H3 := hide (H3.out.below hb)
  replace H4 := hide (H4.out.below hb)
  replace N := hide (N.out.below hb)
  replace R := hide (R.out.below hb)
  replace O1 := hide (O1.out.turn (B := u1.heap.size) (Turn.of_below hb) (by have := O1.out.isT.lt; omega) O1.out.isT.lt)
  replace O2 := hide O2
  have L2 : Hid (u1.heap.size ≤ g2) := ge2
  have G2 : Hid (g2 < u2.heap.size) := gl2
  replace BW := hide (BW.out.trans (hb.mono BW.out.size))
  clear hHeld hb ge2 gl2
  have hHeld : u2.cell? ⟨w.heap.size, 0, none⟩ = some (.slice a1 regs.length j1) ∧ u2.cell? ⟨w.heap.size, 2, none⟩ = some (.slice a2 mem.length j2) ∧ u2.cell? ⟨w.heap.size, 7, none⟩ = some (.slice a3 ins.length j3) ∧ u2.cell? ⟨w.heap.size, 8, none⟩ = some (.slice a4 outs.length j4) := ⟨N.out.r.cell 0 _ rfl, N.out.r.cell 2 _ rfl, N.out.r.cell 7 _ rfl, N.out.r.cell 8 _ rfl⟩
  refine hK.out _ _ (fun _ => hHeld) ?_
  clear hK K
  try simp only [Act.put, List.setIfInBounds_toArray, List.set]
  refine Phase.ready (rs := [8]) (by kernel_rfl) (by simp) ?_
  refine Phase.AllQ.cons rfl (fun K hK => ?_) Phase.AllQ.nil
  go_simp
  refine (copied ins _ _ _ H3.out HS.out.2.2.1).mono ?_
  rintro e u3 ⟨g3, rfl, O3, ge3, gl3, hb⟩
  replace H4 := hide (H4.out.below hb)
  replace N := hide (N.out.below hb)
  replace R := hide (R.out.below hb)
  replace O1 := hide (O1.out.turn (B := u2.heap.size) (Turn.of_below hb) (by have := O1.out.isT.lt; omega) O1.out.isT.lt)
  replace O2 := hide (O2.out.turn (B := u2.heap.size) (Turn.of_below hb) (by have := O2.out.isT.lt; omega) O2.out.isT.lt)
  replace O3 := hide O3
  have L3 : Hid (u2.heap.size ≤ g3) := ge3
  have G3 : Hid (g3 < u3.heap.size) := gl3
  replace BW := hide (BW.out.trans (hb.mono BW.out.size))
  clear hHeld hb ge3 gl3
  have hHeld : u3.cell? ⟨w.heap.size, 0, none⟩ = some (.slice a1 regs.length j1) ∧ u3.cell? ⟨w.heap.size, 2, none⟩ = some (.slice a2 mem.length j2) ∧ u3.cell? ⟨w.heap.size, 7, none⟩ = some (.slice a3 ins.length j3) ∧ u3.cell? ⟨w.heap.size, 8, none⟩ = some (.slice a4 outs.length j4) := ⟨N.out.r.cell 0 _ rfl, N.out.r.cell 2 _ rfl, N.out.r.cell 7 _ rfl, N.out.r.cell 8 _ rfl⟩
  refine hK.out _ _ (fun _ => hHeld) ?_
  clear hK K
  try simp only [Act.put, List.setIfInBounds_toArray, List.set]
  refine Phase.ready (rs := [11]) (by kernel_rfl) (by simp) ?_
  refine Phase.AllQ.cons rfl (fun K hK => ?_) Phase.AllQ.nil
  go_simp
  refine (copied outs _ _ _ H4.out HS.out.2.2.2).mono ?_
  rintro e u4 ⟨g4, rfl, O4, ge4, gl4, hb⟩
  replace N := hide (N.out.below hb)
  replace R := hide (R.out.below hb)
  replace O1 := hide (O1.out.turn (B := u3.heap.size) (Turn.of_below hb) (by have := O1.out.isT.lt; omega) O1.out.isT.lt)
  replace O2 := hide (O2.out.turn (B := u3.heap.size) (Turn.of_below hb) (by have := O2.out.isT.lt; omega) O2.out.isT.lt)
  replace O3 := hide (O3.out.turn (B := u3.heap.size) (Turn.of_below hb) (by have := O3.out.isT.lt; omega) O3.out.isT.lt)
  replace O4 := hide O4
  have L4 : Hid (u3.heap.size ≤ g4) := ge4
  have G4 : Hid (g4 < u4.heap.size) := gl4
  replace BW := hide (BW.out.trans (hb.mono BW.out.size))
  clear hHeld hb ge4 gl4
  have hHeld : u4.cell? ⟨w.heap.size, 0, none⟩ = some (.slice a1 regs.length j1) ∧ u4.cell? ⟨w.heap.size, 2, none⟩ = some (.slice a2 mem.length j2) ∧ u4.cell? ⟨w.heap.size, 7, none⟩ = some (.slice a3 ins.length j3) ∧ u4.cell? ⟨w.heap.size, 8, none⟩ = some (.slice a4 outs.length j4) := ⟨N.out.r.cell 0 _ rfl, N.out.r.cell 2 _ rfl, N.out.r.cell 7 _ rfl, N.out.r.cell 8 _ rfl⟩
  refine hK.out _ _ (fun _ => hHeld) ?_
  clear hK K
  try simp only [Act.put, List.setIfInBounds_toArray, List.set]
  clear hHeld
  have kn : Hid (w.heap.size ≠ w.heap.size + 1) := by show _ ≠ _; omega
  have q1 := hide (N.out.t.ne O1.out.isT mach_int)
  have q2 := hide (N.out.t.ne O2.out.isT mach_int)
  have q3 := hide (N.out.t.ne O3.out.isT mach_int)
  have q4 := hide (N.out.t.ne O4.out.isT mach_int)
  have n0 := N.out.r.cell 0 _ rfl
  have ns0 := N.out.r.soft 0
  refine Phase.ready (rs := [13]) (by kernel_rfl) (by simp) ?_
  refine Phase.AllQ.cons rfl (fun K hK => ?_) Phase.AllQ.nil
  go_simp
  refine hK.out _ _ (fun h => absurd h (by omega)) ?_
  clear hK K
  try simp only [Act.put, List.setIfInBounds_toArray, List.set]
  clear n0 ns0
  replace N := hide (N.out.set 0 (.slice (some ⟨g1, 0, none⟩) regs.length regs.length) (by simp) rfl)
  replace R := hide (R.out.other ⟨w.heap.size, 0, none⟩ (.slice (some ⟨g1, 0, none⟩) regs.length regs.length) kn.out)
  replace O1 := hide (O1.out.set ⟨w.heap.size, 0, none⟩ (.slice (some ⟨g1, 0, none⟩) regs.length regs.length) q1.out O1.out.isT.lt)
  replace O2 := hide (O2.out.set ⟨w.heap.size, 0, none⟩ (.slice (some ⟨g1, 0, none⟩) regs.length regs.length) q2.out O2.out.isT.lt)
  replace O3 := hide (O3.out.set ⟨w.heap.size, 0, none⟩ (.slice (some ⟨g1, 0, none⟩) regs.length regs.length) q3.out O3.out.isT.lt)
  replace O4 := hide (O4.out.set ⟨w.heap.size, 0, none⟩ (.slice (some ⟨g1, 0, none⟩) regs.length regs.length) q4.out O4.out.isT.lt)
  replace BW := hide (BW.out.setCell (p := ⟨w.heap.size, 0, none⟩) (Nat.le_refl _) (.slice (some ⟨g1, 0, none⟩) regs.length regs.length))
  have n2 := N.out.r.cell 2 _ rfl
  have ns2 := N.out.r.soft 2
  refine Phase.takeW (i := 14) (v := ?_) rfl (by omega) (by kernel_rfl) (by kernel_rfl) (by kernel_rfl) (fun _ _ _ h => h) (Or.inl ⟨by rfl, ?_⟩) ?_
  rotate_left
  · intro w' _
    go_simp
    first | done | with_reducible rfl
  try simp only [Act.put, List.setIfInBounds_toArray, List.set]
  refine Phase.ready (rs := [15]) (by kernel_rfl) (by simp) ?_
  refine Phase.AllQ.cons rfl (fun K hK => ?_) Phase.AllQ.nil
  go_simp
  refine hK.out _ _ (fun h => absurd h (by omega)) ?_
  clear hK K
  try simp only [Act.put, List.setIfInBounds_toArray, List.set]
  clear n2 ns2
  replace N := hide (N.out.set 2 (.slice (some ⟨g2, 0, none⟩) mem.length mem.length) (by simp) rfl)
  replace R := hide (R.out.other ⟨w.heap.size, 2, none⟩ (.slice (some ⟨g2, 0, none⟩) mem.length mem.length) kn.out)
  replace O1 := hide (O1.out.set ⟨w.heap.size, 2, none⟩ (.slice (some ⟨g2, 0, none⟩) mem.length mem.length) q1.out O1.out.isT.lt)
  replace O2 := hide (O2.out.set ⟨w.heap.size, 2, none⟩ (.slice (some ⟨g2, 0, none⟩) mem.length mem.length) q2.out O2.out.isT.lt)
  replace O3 := hide (O3.out.set ⟨w.heap.size, 2, none⟩ (.slice (some ⟨g2, 0, none⟩) mem.length mem.length) q3.out O3.out.isT.lt)
  replace O4 := hide (O4.out.set ⟨w.heap.size, 2, none⟩ (.slice (some ⟨g2, 0, none⟩) mem.length mem.length) q4.out O4.out.isT.lt)
  replace BW := hide (BW.out.setCell (p := ⟨w.heap.size, 2, none⟩) (Nat.le_refl _) (.slice (some ⟨g2, 0, none⟩) mem.length mem.length))
  have n7 := N.out.r.cell 7 _ rfl
  have ns7 := N.out.r.soft 7
  refine Phase.takeW (i := 16) (v := ?_) rfl (by omega) (by kernel_rfl) (by kernel_rfl) (by kernel_rfl) (fun _ _ _ h => h) (Or.inl ⟨by rfl, ?_⟩) ?_
  rotate_left
  · intro w' _
    go_simp
    first | done | with_reducible rfl
  try simp only [Act.put, List.setIfInBounds_toArray, List.set]
  refine Phase.ready (rs := [17]) (by kernel_rfl) (by simp) ?_
  refine Phase.AllQ.cons rfl (fun K hK => ?_) Phase.AllQ.nil
  go_simp
  refine hK.out _ _ (fun h => absurd h (by omega)) ?_
  clear hK K
  try simp only [Act.put, List.setIfInBounds_toArray, List.set]
  clear n7 ns7
  replace N := hide (N.out.set 7 (.slice (some ⟨g3, 0, none⟩) ins.length ins.length) (by simp) rfl)
  replace R := hide (R.out.other ⟨w.heap.size, 7, none⟩ (.slice (some ⟨g3, 0, none⟩) ins.length ins.length) kn.out)
  replace O1 := hide (O1.out.set ⟨w.heap.size, 7, none⟩ (.slice (some ⟨g3, 0, none⟩) ins.length ins.length) q1.out O1.out.isT.lt)
  replace O2 := hide (O2.out.set ⟨w.heap.size, 7, none⟩ (.slice (some ⟨g3, 0, none⟩) ins.length ins.length) q2.out O2.out.isT.lt)
  replace O3 := hide (O3.out.set ⟨w.heap.size, 7, none⟩ (.slice (some ⟨g3, 0, none⟩) ins.length ins.length) q3.out O3.out.isT.lt)
  replace O4 := hide (O4.out.set ⟨w.heap.size, 7, none⟩ (.slice (some ⟨g3, 0, none⟩) ins.length ins.length) q4.out O4.out.isT.lt)
  replace BW := hide (BW.out.setCell (p := ⟨w.heap.size, 7, none⟩) (Nat.le_refl _) (.slice (some ⟨g3, 0, none⟩) ins.length ins.length))
  have n8 := N.out.r.cell 8 _ rfl
  have ns8 := N.out.r.soft 8
  refine Phase.takeW (i := 18) (v := ?_) rfl (by omega) (by kernel_rfl) (by kernel_rfl) (by kernel_rfl) (fun _ _ _ h => h) (Or.inl ⟨by rfl, ?_⟩) ?_
  rotate_left
  · intro w' _
    go_simp
    first | done | with_reducible rfl
  try simp only [Act.put, List.setIfInBounds_toArray, List.set]
  refine Phase.ready (rs := [19]) (by kernel_rfl) (by simp) ?_
  refine Phase.AllQ.cons rfl (fun K hK => ?_) Phase.AllQ.nil
  go_simp
  refine hK.out _ _ (fun h => absurd h (by omega)) ?_
  clear hK K
  try simp only [Act.put, List.setIfInBounds_toArray, List.set]
  clear n8 ns8
  replace N := hide (N.out.set 8 (.slice (some ⟨g4, 0, none⟩) outs.length outs.length) (by simp) rfl)
  replace R := hide (R.out.other ⟨w.heap.size, 8, none⟩ (.slice (some ⟨g4, 0, none⟩) outs.length outs.length) kn.out)
  replace O1 := hide (O1.out.set ⟨w.heap.size, 8, none⟩ (.slice (some ⟨g4, 0, none⟩) outs.length outs.length) q1.out O1.out.isT.lt)
  replace O2 := hide (O2.out.set ⟨w.heap.size, 8, none⟩ (.slice (some ⟨g4, 0, none⟩) outs.length outs.length) q2.out O2.out.isT.lt)
  replace O3 := hide (O3.out.set ⟨w.heap.size, 8, none⟩ (.slice (some ⟨g4, 0, none⟩) outs.length outs.length) q3.out O3.out.isT.lt)
  replace O4 := hide (O4.out.set ⟨w.heap.size, 8, none⟩ (.slice (some ⟨g4, 0, none⟩) outs.length outs.length) q4.out O4.out.isT.lt)
  replace BW := hide (BW.out.setCell (p := ⟨w.heap.size, 8, none⟩) (Nat.le_refl _) (.slice (some ⟨g4, 0, none⟩) outs.length outs.length))
  generalize ((((u4.setCell ⟨w.heap.size, 0, none⟩ (.slice (some ⟨g1, 0, none⟩) regs.length regs.length)).setCell ⟨w.heap.size, 2, none⟩ (.slice (some ⟨g2, 0, none⟩) mem.length mem.length)).setCell ⟨w.heap.size, 7, none⟩ (.slice (some ⟨g3, 0, none⟩) ins.length ins.length)).setCell ⟨w.heap.size, 8, none⟩ (.slice (some ⟨g4, 0, none⟩) outs.length outs.length)) = U at N R O1 O2 O3 O4 BW ⊢
  refine Phase.done (by kernel_rfl) ?_ _
  have n0 := N.out.r.cell 0 _ rfl
  have n1 := N.out.r.cell 1 _ rfl
  have n2 := N.out.r.cell 2 _ rfl
  have n3 := N.out.r.cell 3 _ rfl
  have n4 := N.out.r.cell 4 _ rfl
  have n5 := N.out.r.cell 5 _ rfl
  have n6 := N.out.r.cell 6 _ rfl
  have n7 := N.out.r.cell 7 _ rfl
  have n8 := N.out.r.cell 8 _ rfl
  have n9 := N.out.r.cell 9 _ rfl
  have CC : Hid (CMach U w.heap.size [.slice (some ⟨g1, 0, none⟩) regs.length regs.length, .int .i64 pc, .slice (some ⟨g2, 0, none⟩) mem.length mem.length, .int .i64 save, .bool lets, .bool waits, .int .i64 halt, .slice (some ⟨g3, 0, none⟩) ins.length ins.length, .slice (some ⟨g4, 0, none⟩) outs.length outs.length, .int .i64 count] ⟨regs, pc, mem, save, lets, waits, halt, ins, outs, count⟩) := ⟨g1, g2, g3, g4, 0, 0, 0, _, _, _, _, rfl, own_row O1.out, own_row O2.out, own_row O3.out, O4.out.mono (by have := L1.out; have := L2.out; have := L3.out; have := L4.out; have := G1.out; have := G2.out; have := G3.out; have := lw.out; omega), by have := L1.out; have := L2.out; have := L3.out; have := L4.out; have := G1.out; have := G2.out; have := G3.out; have := lw.out; omega, by have := L1.out; have := L2.out; have := L3.out; have := L4.out; have := G1.out; have := G2.out; have := G3.out; omega, IsR.of_own O1.out, O2.out.isT, O3.out.isT, O4.out.isT⟩
  clear O1 O2 O3 O4 L1 L2 L3 L4 G1 G2 G3 G4 H1 HS N q1 q2 q3 q4
  go_wp2_with (refine wpList_lay rfl rfl _ _ rfl (w.heap.size + 1) _ _ _ _ _ _ _ _ _ _ R.out rfl _ _ _ _ _ _ _ _ _ _ _ _ _ _ _ _ _ _ rfl ?_; intro u9 RB TB)
  have FI := hide (CMach.turn CC.out R.out.t mach_int TB.out)
  have BT := hide (BW.out.trans (TB.out.below (by omega) BW.out.size))
  have z0 := RB.out.r.cell 0 _ rfl
  have z1 := RB.out.r.cell 1 _ rfl
  have z2 := RB.out.r.cell 2 _ rfl
  have z3 := RB.out.r.cell 3 _ rfl
  have z4 := RB.out.r.cell 4 _ rfl
  have z5 := RB.out.r.cell 5 _ rfl
  have z6 := RB.out.r.cell 6 _ rfl
  have z7 := RB.out.r.cell 7 _ rfl
  have z8 := RB.out.r.cell 8 _ rfl
  have z9 := RB.out.r.cell 9 _ rfl
  clear RB TB CC BW R
  exact bodyPost_ret (v := .agg #[.slice (some ⟨g1, 0, none⟩) regs.length regs.length, .int .i64 pc, .slice (some ⟨g2, 0, none⟩) mem.length mem.length, .int .i64 save, .bool lets, .bool waits, .int .i64 halt, .slice (some ⟨g3, 0, none⟩) ins.length ins.length, .slice (some ⟨g4, 0, none⟩) outs.length outs.length, .int .i64 count]) (by simp [results, Tryz.results32, go_sem, z0, z1, z2, z3, z4, z5, z6, z7, z8, z9]) rfl ⟨_, rfl, FI.out, BT.out⟩
end Go.Proofs.YtnhpmbhphbphaaaGreat.MchI
