/-
  The program's deeds that load, store, reckon, shift, and let words in and out.
-/
import Derived.Test.YtnhpmbhphbphaaaGreatJnO
namespace Go.Proofs.YtnhpmbhphbphaaaGreat.MchI
set_option linter.unusedSimpArgs false
open Go.ChangeShapes Go.WideShapes Go.ChangeAt Go.RowKit IntS Mch
theorem PM.setMem {A : Nat → Prop} {w : World} {Z b1 o1 k1 b2 o2 k2 b3 o3 k3 b4 k4 : Nat} {m : M} (hB : Box Z 25 (mv m (.slice (some ⟨b1, o1, none⟩) m.regs.length k1) (.slice (some ⟨b2, o2, none⟩) m.mem.length k2) (.slice (some ⟨b3, o3, none⟩) m.ins.length k3) (.slice (some ⟨b4, 0, none⟩) m.outs.length k4)) w)
    (hC : CMach w 0 (mv m (.slice (some ⟨b1, o1, none⟩) m.regs.length k1) (.slice (some ⟨b2, o2, none⟩) m.mem.length k2) (.slice (some ⟨b3, o3, none⟩) m.ins.length k3) (.slice (some ⟨b4, 0, none⟩) m.outs.length k4)) m) (hA : A b1 ∧ A b2 ∧ A b3 ∧ A b4) (d : Nat) (n : Int) (hd : d < m.mem.length) :
    PM A (w.setCell ⟨b2, o2 + d, none⟩ (.int .i64 n)) Z { m with mem := m.mem.set d n } ∧ Keep (Grip A Z) w (w.setCell ⟨b2, o2 + d, none⟩ (.int .i64 n)) := by
  have hne : b2 ≠ Z := fun e => (hB.t.ne hC.parts.2.2.2.2.2.2.2.1 mach_int) e.symm
  refine ⟨⟨b1, o1, k1, b2, o2, k2, b3, o3, k3, b4, k4, ?_, ?_, hA⟩, (Keep.refl _ w).turn ((Turn.refl b2 w).setCell rfl _) (fun j _ hn => grip_turn hA.2.1 j hn)⟩
  · have := hB.other ⟨b2, o2 + d, none⟩ (.int .i64 n) hne
    simpa only [mv, List.length_set] using this
  · have := hC.setMem d n hd
    simpa only [mv, List.length_set] using this
theorem far {w : World} {p : Addr} {v : Value} (h : w.cell? p = some v) {b o : Nat} {x : Value} (hb : b ≠ p.block) : (w.setCell ⟨b, o, none⟩ x).cell? p = some v := by
  rw [World.cell?_setCell_other _ _ _ _ (fun e => hb (congrArg Addr.block e))]
  exact h
set_option maxRecDepth 8000 in
set_option maxHeartbeats 4000000 in
theorem deed_9no (A : Nat → Prop) (Z : Nat) (m : M) (d a : Nat) (k : Int) (w : World) (h : PM A w Z m) (hf : Fit m) (hd : d < 4) (ha : a < 4) (k0 : 0 ≤ k) (k1' : k ≤ 255) (hn : 64 ≤ (m.regs.getD a 0 + k) % 65536) :
    Calls Tryz.prog 65 #[.pointer (some ⟨Z, 0, none⟩), .agg #[.int .i64 9, .int .i64 d, .int .i64 a, .int .i64 k]] w (Deed A Z w (doM m 9 d a k)) := by
  obtain ⟨b1, o1, k1, b2, o2, k2, b3, o3, k3, b4, k4, hB0, hC0, hA⟩ := h
  obtain ⟨regs, pc, mem, save, lets, waits, halt, ins, outs, count⟩ := m
  obtain ⟨r4, m64, rw_, mw_, p0, p1, c0, c1⟩ := hf
  have la : a < regs.length := by rw [show regs.length = 4 from r4]; exact ha
  have ld : d < regs.length := by rw [show regs.length = 4 from r4]; exact hd
  have la' : ((a : Nat) : Int) < (regs.length : Int) := by omega
  have ld' : ((d : Nat) : Int) < (regs.length : Int) := by omega
  have R4 := hide r4
  have M64 := hide m64
  have bV : Below w.heap.size w (w.alloc (.cells #[.int .i64 9, .int .i64 d, .int .i64 a, .int .i64 k] 38)) := (Below.refl _ _).alloc (Nat.le_refl _) _
  have hB := hB0.below bV
  have hC := hC0.below bV
  have I := hide (Box.new w [.int .i64 9, .int .i64 d, .int .i64 a, .int .i64 k] 38)
  have KV := hide (Keep.of_below (S := Grip A Z) bV)
  obtain ⟨x, ex⟩ : ∃ x, regs[a]? = some x := ⟨_, List.getElem?_eq_getElem la⟩
  obtain ⟨y, ey⟩ : ∃ y, regs[d]? = some y := ⟨_, List.getElem?_eq_getElem ld⟩
  have bx := rw_ a x ex
  have by_ := rw_ d y ey
  have GX := hide (getD_of ex)
  have GY := hide (getD_of ey)
  obtain ⟨cx, fx⟩ := row_at hC.parts.1 ex
  obtain ⟨cy, fy⟩ := row_at hC.parts.1 ey
  have hne : b1 ≠ Z := fun e => (hB.t.ne hC.parts.2.2.2.2.2.2.1.t mach_int) e.symm
  have HA := hide hA
  have nI : Hid (w.heap.size ≠ Z) := by have := hB0.r.lt; show _ ≠ _; omega
  have EY0 := hide ey
  clear hB0 hC0 r4 m64 hA
  simp only [mv] at *
  go_enter Tryz.func65, Tryz.ntmps65
  go_wp2_with fail
  generalize w.alloc (.cells #[.int .i64 9, .int .i64 d, .int .i64 a, .int .i64 k] 38) = V at *
  have PB := hide hB
  have PC := hide hC
  clear hB hC bV
  have z0 := PB.out.r.cell 0 _ rfl
  have z1 := PB.out.r.cell 1 _ rfl
  have z2 := PB.out.r.cell 2 _ rfl
  have i0 := I.out.r.cell 0 _ rfl
  have i1 := I.out.r.cell 1 _ rfl
  have i2 := I.out.r.cell 2 _ rfl
  have i3 := I.out.r.cell 3 _ rfl
  try simp only [] at hn
  rw [show regs.getD a 0 = x from GX.out] at hn
  have HD : Hid (haltM ⟨regs, pc, mem, save, lets, waits, halt, ins, outs, count⟩ 3 = doM ⟨regs, pc, mem, save, lets, waits, halt, ins, outs, count⟩ 9 d a k) := show _ = _ by
    unfold doM reachM
    simp only []
    rw [show regs.getD a 0 = x from GX.out]
    simp [hn]
  have SS : V.drew.cell? ⟨w.heap.size, 0, none⟩ = some (.int .i64 9) ∧ V.drew.cell? ⟨w.heap.size, 1, none⟩ = some (.int .i64 d) ∧ V.drew.cell? ⟨w.heap.size, 2, none⟩ = some (.int .i64 a) ∧ V.drew.cell? ⟨w.heap.size, 3, none⟩ = some (.int .i64 k) ∧ V.drew.cell? ⟨Z, 0, none⟩ = some (.slice (some ⟨b1, o1, none⟩) regs.length k1) ∧ V.drew.cell? ⟨Z, 1, none⟩ = some (.int .i64 pc) ∧ V.drew.cell? ⟨Z, 2, none⟩ = some (.slice (some ⟨b2, o2, none⟩) mem.length k2) := ⟨i0, i1, i2, i3, z0, z1, z2⟩
  have PN := hide (fun (u : World) (hb : Below V.drew.heap.size V.drew u) => show PM A u Z ⟨regs, pc, mem, save, lets, waits, halt, ins, outs, count⟩ from ⟨b1, o1, k1, b2, o2, k2, b3, o3, k3, b4, k4, (Box.drew PB.out).below hb, (CMach.drewN PC.out 1).below hb, HA.out⟩)
  have KN := hide (fun (u : World) (hb : Below V.drew.heap.size V.drew u) => (Keep.drew KV.out).trans (Keep.of_below hb))
  have AD := hide (address_no Z b1 o1 _ k1 9 d a k x V.drew z0 la' cx bx k0 k1' hn)
  clear rw_ mw_ PB PC KV I HA R4 M64 GX GY nI bx by_ cx fx fy hn hd ha la c0 c1 p0 p1 k0 k1' i0 i1 i2 i3 z0 z1 z2 cy
  refine wp_region_held_drew (S := fun v => (v.cell? ⟨w.heap.size, 0, none⟩ = some (.int .i64 9) ∧ v.cell? ⟨w.heap.size, 1, none⟩ = some (.int .i64 d) ∧ v.cell? ⟨w.heap.size, 2, none⟩ = some (.int .i64 a) ∧ v.cell? ⟨w.heap.size, 3, none⟩ = some (.int .i64 k) ∧ v.cell? ⟨Z, 0, none⟩ = some (.slice (some ⟨b1, o1, none⟩) regs.length k1) ∧ v.cell? ⟨Z, 1, none⟩ = some (.int .i64 pc) ∧ v.cell? ⟨Z, 2, none⟩ = some (.slice (some ⟨b2, o2, none⟩) mem.length k2))) (by kernel_rfl) SS (fun hHeld => ?_)
  refine wpAnyH_take (i := 0) (v := ?_) rfl (by kernel_rfl) (by kernel_rfl) (by kernel_rfl) (fun _ _ _ h => h) (Or.inl ⟨by rfl, ?_⟩) hHeld ?_
  rotate_left
  · intro w' hSw
    (try dsimp only at hSw)
    go_simp
    first | done | with_reducible rfl
  try simp only [Act.put, List.setIfInBounds_toArray, List.set]
  refine wpAnyH_take (i := 1) (v := ?_) rfl (by kernel_rfl) (by kernel_rfl) (by kernel_rfl) (fun _ _ _ h => h) (Or.inl ⟨by rfl, ?_⟩) hHeld ?_
  rotate_left
  · intro w' hSw
    (try dsimp only at hSw)
    go_simp
    first | done | with_reducible rfl
  try simp only [Act.put, List.setIfInBounds_toArray, List.set]
  refine wpAnyH_take (i := 2) (v := ?_) rfl (by kernel_rfl) (by kernel_rfl) (by kernel_rfl) (fun _ _ _ h => h) (Or.inl ⟨by rfl, ?_⟩) hHeld ?_
  rotate_left
  · intro w' hSw
    (try dsimp only at hSw)
    go_simp
    first | done | with_reducible rfl
  try simp only [Act.put, List.setIfInBounds_toArray, List.set]
  refine wpAnyH_take (i := 3) (v := ?_) rfl (by kernel_rfl) (by kernel_rfl) (by kernel_rfl) (fun _ _ _ h => h) (Or.inl ⟨by rfl, ?_⟩) hHeld ?_
  rotate_left
  · intro w' hSw
    (try dsimp only at hSw)
    go_simp
    first | done | with_reducible rfl
  try simp only [Act.put, List.setIfInBounds_toArray, List.set]
  refine wpAnyH_take (i := 4) (v := ?_) rfl (by kernel_rfl) (by kernel_rfl) (by kernel_rfl) (fun _ _ _ h => h) (Or.inl ⟨by rfl, ?_⟩) hHeld ?_
  rotate_left
  · intro w' hSw
    (try dsimp only at hSw)
    go_simp
    first | done | with_reducible rfl
  try simp only [Act.put, List.setIfInBounds_toArray, List.set]
  refine wpAnyH_take (i := 5) (v := ?_) rfl (by kernel_rfl) (by kernel_rfl) (by kernel_rfl) (fun _ _ _ h => h) (Or.inl ⟨by rfl, ?_⟩) hHeld ?_
  rotate_left
  · intro w' hSw
    (try dsimp only at hSw)
    go_simp
    first | done | with_reducible rfl
  try simp only [Act.put, List.setIfInBounds_toArray, List.set]
  refine wpAnyH_take (i := 6) (v := ?_) rfl (by kernel_rfl) (by kernel_rfl) (by kernel_rfl) (fun _ _ _ h => h) (Or.inl ⟨by rfl, ?_⟩) hHeld ?_
  rotate_left
  · intro w' hSw
    (try dsimp only at hSw)
    go_simp
    first | done | with_reducible rfl
  try simp only [Act.put, List.setIfInBounds_toArray, List.set]
  refine wpAnyH_take (i := 7) (v := ?_) rfl (by kernel_rfl) (by kernel_rfl) (by kernel_rfl) (fun _ _ _ h => h) (Or.inl ⟨by rfl, ?_⟩) hHeld ?_
  rotate_left
  · intro w' hSw
    (try dsimp only at hSw)
    go_simp
    first | done | with_reducible rfl
  try simp only [Act.put, List.setIfInBounds_toArray, List.set]
  refine wpAnyH_take (i := 8) (v := ?_) rfl (by kernel_rfl) (by kernel_rfl) (by kernel_rfl) (fun _ _ _ h => h) (Or.inl ⟨by rfl, ?_⟩) hHeld ?_
  rotate_left
  · intro w' hSw
    (try dsimp only at hSw)
    go_simp
    first | done | with_reducible rfl
  try simp only [Act.put, List.setIfInBounds_toArray, List.set]
  refine wpAnyH_ready (rs := [9]) (by kernel_rfl) (by simp) ?_
  refine AllReadyH.cons rfl (fun K hK => ?_) AllReadyH.nil
  go_simp
  refine AD.out.mono ?_
  rintro e u ⟨rfl, hb⟩
  exact ⟨rfl, Or.inr ⟨3, _, rfl, PN.out u hb, KN.out u hb, HD.out⟩⟩
set_option maxRecDepth 8000 in
set_option maxHeartbeats 4000000 in
theorem deed_10no (A : Nat → Prop) (Z : Nat) (m : M) (d a : Nat) (k : Int) (w : World) (h : PM A w Z m) (hf : Fit m) (hd : d < 4) (ha : a < 4) (k0 : 0 ≤ k) (k1' : k ≤ 255) (hn : 64 ≤ (m.regs.getD a 0 + k) % 65536) :
    Calls Tryz.prog 67 #[.pointer (some ⟨Z, 0, none⟩), .agg #[.int .i64 10, .int .i64 d, .int .i64 a, .int .i64 k]] w (Deed A Z w (doM m 10 d a k)) := by
  obtain ⟨b1, o1, k1, b2, o2, k2, b3, o3, k3, b4, k4, hB0, hC0, hA⟩ := h
  obtain ⟨regs, pc, mem, save, lets, waits, halt, ins, outs, count⟩ := m
  obtain ⟨r4, m64, rw_, mw_, p0, p1, c0, c1⟩ := hf
  have la : a < regs.length := by rw [show regs.length = 4 from r4]; exact ha
  have ld : d < regs.length := by rw [show regs.length = 4 from r4]; exact hd
  have la' : ((a : Nat) : Int) < (regs.length : Int) := by omega
  have ld' : ((d : Nat) : Int) < (regs.length : Int) := by omega
  have R4 := hide r4
  have M64 := hide m64
  have bV : Below w.heap.size w (w.alloc (.cells #[.int .i64 10, .int .i64 d, .int .i64 a, .int .i64 k] 38)) := (Below.refl _ _).alloc (Nat.le_refl _) _
  have hB := hB0.below bV
  have hC := hC0.below bV
  have I := hide (Box.new w [.int .i64 10, .int .i64 d, .int .i64 a, .int .i64 k] 38)
  have KV := hide (Keep.of_below (S := Grip A Z) bV)
  obtain ⟨x, ex⟩ : ∃ x, regs[a]? = some x := ⟨_, List.getElem?_eq_getElem la⟩
  obtain ⟨y, ey⟩ : ∃ y, regs[d]? = some y := ⟨_, List.getElem?_eq_getElem ld⟩
  have bx := rw_ a x ex
  have by_ := rw_ d y ey
  have GX := hide (getD_of ex)
  have GY := hide (getD_of ey)
  obtain ⟨cx, fx⟩ := row_at hC.parts.1 ex
  obtain ⟨cy, fy⟩ := row_at hC.parts.1 ey
  have hne : b1 ≠ Z := fun e => (hB.t.ne hC.parts.2.2.2.2.2.2.1.t mach_int) e.symm
  have HA := hide hA
  have nI : Hid (w.heap.size ≠ Z) := by have := hB0.r.lt; show _ ≠ _; omega
  have EY0 := hide ey
  clear hB0 hC0 r4 m64 hA
  simp only [mv] at *
  go_enter Tryz.func67, Tryz.ntmps67
  go_wp2_with fail
  generalize w.alloc (.cells #[.int .i64 10, .int .i64 d, .int .i64 a, .int .i64 k] 38) = V at *
  have PB := hide hB
  have PC := hide hC
  clear hB hC bV
  have z0 := PB.out.r.cell 0 _ rfl
  have z1 := PB.out.r.cell 1 _ rfl
  have z2 := PB.out.r.cell 2 _ rfl
  have i0 := I.out.r.cell 0 _ rfl
  have i1 := I.out.r.cell 1 _ rfl
  have i2 := I.out.r.cell 2 _ rfl
  have i3 := I.out.r.cell 3 _ rfl
  try simp only [] at hn
  rw [show regs.getD a 0 = x from GX.out] at hn
  have HD : Hid (haltM ⟨regs, pc, mem, save, lets, waits, halt, ins, outs, count⟩ 3 = doM ⟨regs, pc, mem, save, lets, waits, halt, ins, outs, count⟩ 10 d a k) := show _ = _ by
    unfold doM reachM
    simp only []
    rw [show regs.getD a 0 = x from GX.out]
    simp [hn]
  have SS : V.drew.cell? ⟨w.heap.size, 0, none⟩ = some (.int .i64 10) ∧ V.drew.cell? ⟨w.heap.size, 1, none⟩ = some (.int .i64 d) ∧ V.drew.cell? ⟨w.heap.size, 2, none⟩ = some (.int .i64 a) ∧ V.drew.cell? ⟨w.heap.size, 3, none⟩ = some (.int .i64 k) ∧ V.drew.cell? ⟨Z, 0, none⟩ = some (.slice (some ⟨b1, o1, none⟩) regs.length k1) ∧ V.drew.cell? ⟨Z, 1, none⟩ = some (.int .i64 pc) ∧ V.drew.cell? ⟨Z, 2, none⟩ = some (.slice (some ⟨b2, o2, none⟩) mem.length k2) ∧ V.drew.cell? ⟨b1, o1 + d, none⟩ = some (.int .i64 y) := ⟨i0, i1, i2, i3, z0, z1, z2, cy⟩
  have PN := hide (fun (u : World) (hb : Below V.drew.heap.size V.drew u) => show PM A u Z ⟨regs, pc, mem, save, lets, waits, halt, ins, outs, count⟩ from ⟨b1, o1, k1, b2, o2, k2, b3, o3, k3, b4, k4, (Box.drew PB.out).below hb, (CMach.drewN PC.out 1).below hb, HA.out⟩)
  have KN := hide (fun (u : World) (hb : Below V.drew.heap.size V.drew u) => (Keep.drew KV.out).trans (Keep.of_below hb))
  have AD := hide (address_no Z b1 o1 _ k1 10 d a k x V.drew z0 la' cx bx k0 k1' hn)
  clear rw_ mw_ PB PC KV I HA R4 M64 GX GY nI bx by_ cx fx fy hn hd ha la c0 c1 p0 p1 k0 k1' i0 i1 i2 i3 z0 z1 z2
  refine wp_region_held_drew (S := fun v => (v.cell? ⟨w.heap.size, 0, none⟩ = some (.int .i64 10) ∧ v.cell? ⟨w.heap.size, 1, none⟩ = some (.int .i64 d) ∧ v.cell? ⟨w.heap.size, 2, none⟩ = some (.int .i64 a) ∧ v.cell? ⟨w.heap.size, 3, none⟩ = some (.int .i64 k) ∧ v.cell? ⟨Z, 0, none⟩ = some (.slice (some ⟨b1, o1, none⟩) regs.length k1) ∧ v.cell? ⟨Z, 1, none⟩ = some (.int .i64 pc) ∧ v.cell? ⟨Z, 2, none⟩ = some (.slice (some ⟨b2, o2, none⟩) mem.length k2) ∧ v.cell? ⟨b1, o1 + d, none⟩ = some (.int .i64 y))) (by kernel_rfl) SS (fun hHeld => ?_)
  refine wpAnyH_take (i := 0) (v := ?_) rfl (by kernel_rfl) (by kernel_rfl) (by kernel_rfl) (fun _ _ _ h => h) (Or.inl ⟨by rfl, ?_⟩) hHeld ?_
  rotate_left
  · intro w' hSw
    (try dsimp only at hSw)
    go_simp
    first | done | with_reducible rfl
  try simp only [Act.put, List.setIfInBounds_toArray, List.set]
  refine wpAnyH_take (i := 1) (v := ?_) rfl (by kernel_rfl) (by kernel_rfl) (by kernel_rfl) (fun _ _ _ h => h) (Or.inl ⟨by rfl, ?_⟩) hHeld ?_
  rotate_left
  · intro w' hSw
    (try dsimp only at hSw)
    go_simp
    first | done | with_reducible rfl
  try simp only [Act.put, List.setIfInBounds_toArray, List.set]
  refine wpAnyH_take (i := 2) (v := ?_) rfl (by kernel_rfl) (by kernel_rfl) (by kernel_rfl) (fun _ _ _ h => h) (Or.inl ⟨by rfl, ?_⟩) hHeld ?_
  rotate_left
  · intro w' hSw
    (try dsimp only at hSw)
    go_simp
    first | done | with_reducible rfl
  try simp only [Act.put, List.setIfInBounds_toArray, List.set]
  refine wpAnyH_take (i := 3) (v := ?_) rfl (by kernel_rfl) (by kernel_rfl) (by kernel_rfl) (fun _ _ _ h => h) (Or.inl ⟨by rfl, ?_⟩) hHeld ?_
  rotate_left
  · intro w' hSw
    (try dsimp only at hSw)
    go_simp
    first | done | with_reducible rfl
  try simp only [Act.put, List.setIfInBounds_toArray, List.set]
  refine wpAnyH_take (i := 4) (v := ?_) rfl (by kernel_rfl) (by kernel_rfl) (by kernel_rfl) (fun _ _ _ h => h) (Or.inl ⟨by rfl, ?_⟩) hHeld ?_
  rotate_left
  · intro w' hSw
    (try dsimp only at hSw)
    go_simp
    first | done | with_reducible rfl
  try simp only [Act.put, List.setIfInBounds_toArray, List.set]
  refine wpAnyH_take (i := 5) (v := ?_) rfl (by kernel_rfl) (by kernel_rfl) (by kernel_rfl) (fun _ _ _ h => h) (Or.inl ⟨by rfl, ?_⟩) hHeld ?_
  rotate_left
  · intro w' hSw
    (try dsimp only at hSw)
    go_simp
    first | done | with_reducible rfl
  try simp only [Act.put, List.setIfInBounds_toArray, List.set]
  refine wpAnyH_take (i := 7) (v := ?_) rfl (by kernel_rfl) (by kernel_rfl) (by kernel_rfl) (fun _ _ _ h => h) (Or.inl ⟨by rfl, ?_⟩) hHeld ?_
  rotate_left
  · intro w' hSw
    (try dsimp only at hSw)
    go_simp
    first | done | with_reducible rfl
  try simp only [Act.put, List.setIfInBounds_toArray, List.set]
  refine wpAnyH_take (i := 8) (v := ?_) rfl (by kernel_rfl) (by kernel_rfl) (by kernel_rfl) (fun _ _ _ h => h) (Or.inl ⟨by rfl, ?_⟩) hHeld ?_
  rotate_left
  · intro w' hSw
    (try dsimp only at hSw)
    go_simp
    first | done | with_reducible rfl
  try simp only [Act.put, List.setIfInBounds_toArray, List.set]
  refine wpAnyH_take (i := 9) (v := ?_) rfl (by kernel_rfl) (by kernel_rfl) (by kernel_rfl) (fun _ _ _ h => h) (Or.inl ⟨by rfl, ?_⟩) hHeld ?_
  rotate_left
  · intro w' hSw
    (try dsimp only at hSw)
    go_simp
    first | done | with_reducible rfl
  try simp only [Act.put, List.setIfInBounds_toArray, List.set]
  refine wpAnyH_take (i := 10) (v := ?_) rfl (by kernel_rfl) (by kernel_rfl) (by kernel_rfl) (fun _ _ _ h => h) (Or.inl ⟨by rfl, ?_⟩) hHeld ?_
  rotate_left
  · intro w' hSw
    (try dsimp only at hSw)
    go_simp
    first | done | with_reducible rfl
  try simp only [Act.put, List.setIfInBounds_toArray, List.set]
  refine wpAnyH_take (i := 11) (v := ?_) rfl (by kernel_rfl) (by kernel_rfl) (by kernel_rfl) (fun _ _ _ h => h) (Or.inl ⟨by rfl, ?_⟩) hHeld ?_
  rotate_left
  · intro w' hSw
    (try dsimp only at hSw)
    go_simp
    first | done | with_reducible rfl
  try simp only [Act.put, List.setIfInBounds_toArray, List.set]
  refine wpAnyH_take (i := 12) (v := ?_) rfl (by kernel_rfl) (by kernel_rfl) (by kernel_rfl) (fun _ _ _ h => h) (Or.inl ⟨by rfl, ?_⟩) hHeld ?_
  rotate_left
  · intro w' hSw
    (try dsimp only at hSw)
    go_simp
    first | done | with_reducible rfl
  try simp only [Act.put, List.setIfInBounds_toArray, List.set]
  refine wpAnyH_take (i := 13) (v := ?_) rfl (by kernel_rfl) (by kernel_rfl) (by kernel_rfl) (fun _ _ _ h => h) (Or.inl ⟨by rfl, ?_⟩) hHeld ?_
  rotate_left
  · intro w' hSw
    (try dsimp only at hSw)
    go_simp
    first | done | with_reducible rfl
  try simp only [Act.put, List.setIfInBounds_toArray, List.set]
  refine wpAnyH_take (i := 14) (v := ?_) rfl (by kernel_rfl) (by kernel_rfl) (by kernel_rfl) (fun _ _ _ h => h) (Or.inl ⟨by rfl, ?_⟩) hHeld ?_
  rotate_left
  · intro w' hSw
    (try dsimp only at hSw)
    go_simp
    first | done | with_reducible rfl
  try simp only [Act.put, List.setIfInBounds_toArray, List.set]
  refine wpAnyH_ready (rs := [6]) (by kernel_rfl) (by simp) ?_
  refine AllReadyH.cons rfl (fun K hK => ?_) AllReadyH.nil
  go_simp
  refine AD.out.mono ?_
  rintro e u ⟨rfl, hb⟩
  exact ⟨rfl, Or.inr ⟨3, _, rfl, PN.out u hb, KN.out u hb, HD.out⟩⟩
set_option maxRecDepth 8000 in
set_option maxHeartbeats 4000000 in
theorem deed_9yes (A : Nat → Prop) (Z : Nat) (m : M) (d a : Nat) (k : Int) (w : World) (h : PM A w Z m) (hf : Fit m) (hd : d < 4) (ha : a < 4) (k0 : 0 ≤ k) (k1' : k ≤ 255) (hn : ¬ 64 ≤ (m.regs.getD a 0 + k) % 65536) :
    Calls Tryz.prog 65 #[.pointer (some ⟨Z, 0, none⟩), .agg #[.int .i64 9, .int .i64 d, .int .i64 a, .int .i64 k]] w (Deed A Z w (doM m 9 d a k)) := by
  obtain ⟨b1, o1, k1, b2, o2, k2, b3, o3, k3, b4, k4, hB0, hC0, hA⟩ := h
  obtain ⟨regs, pc, mem, save, lets, waits, halt, ins, outs, count⟩ := m
  obtain ⟨r4, m64, rw_, mw_, p0, p1, c0, c1⟩ := hf
  have la : a < regs.length := by rw [show regs.length = 4 from r4]; exact ha
  have ld : d < regs.length := by rw [show regs.length = 4 from r4]; exact hd
  have la' : ((a : Nat) : Int) < (regs.length : Int) := by omega
  have ld' : ((d : Nat) : Int) < (regs.length : Int) := by omega
  have R4 := hide r4
  have M64 := hide m64
  have bV : Below w.heap.size w (w.alloc (.cells #[.int .i64 9, .int .i64 d, .int .i64 a, .int .i64 k] 38)) := (Below.refl _ _).alloc (Nat.le_refl _) _
  have hB := hB0.below bV
  have hC := hC0.below bV
  have I := hide (Box.new w [.int .i64 9, .int .i64 d, .int .i64 a, .int .i64 k] 38)
  have KV := hide (Keep.of_below (S := Grip A Z) bV)
  obtain ⟨x, ex⟩ : ∃ x, regs[a]? = some x := ⟨_, List.getElem?_eq_getElem la⟩
  obtain ⟨y, ey⟩ : ∃ y, regs[d]? = some y := ⟨_, List.getElem?_eq_getElem ld⟩
  have bx := rw_ a x ex
  have by_ := rw_ d y ey
  have GX := hide (getD_of ex)
  have GY := hide (getD_of ey)
  obtain ⟨cx, fx⟩ := row_at hC.parts.1 ex
  obtain ⟨cy, fy⟩ := row_at hC.parts.1 ey
  have hne : b1 ≠ Z := fun e => (hB.t.ne hC.parts.2.2.2.2.2.2.1.t mach_int) e.symm
  have HA := hide hA
  have nI : Hid (w.heap.size ≠ Z) := by have := hB0.r.lt; show _ ≠ _; omega
  have EY0 := hide ey
  clear hB0 hC0 r4 m64 hA
  simp only [mv] at *
  go_enter Tryz.func65, Tryz.ntmps65
  go_wp2_with fail
  generalize w.alloc (.cells #[.int .i64 9, .int .i64 d, .int .i64 a, .int .i64 k] 38) = V at *
  have PB := hide hB
  have PC := hide hC
  clear hB hC bV
  have z0 := PB.out.r.cell 0 _ rfl
  have z1 := PB.out.r.cell 1 _ rfl
  have z2 := PB.out.r.cell 2 _ rfl
  have i0 := I.out.r.cell 0 _ rfl
  have i1 := I.out.r.cell 1 _ rfl
  have i2 := I.out.r.cell 2 _ rfl
  have i3 := I.out.r.cell 3 _ rfl
  try simp only [] at hn
  rw [show regs.getD a 0 = x from GX.out] at hn
  obtain ⟨t, et⟩ : ∃ t : Nat, (x + k) % 65536 = (t : Int) := ⟨((x + k) % 65536).toNat, by omega⟩
  have lt' : ((t : Nat) : Int) < (mem.length : Int) := by rw [show mem.length = 64 from M64.out]; omega
  have lt : t < mem.length := by omega
  obtain ⟨vv, ev⟩ : ∃ v, mem[t]? = some v := ⟨_, List.getElem?_eq_getElem lt⟩
  obtain ⟨cv, fv⟩ := row_at (CMach.parts (m := ⟨regs, pc, mem, save, lets, waits, halt, ins, outs, count⟩) PC.out).2.1 ev
  have nb := (CMach.parts (m := ⟨regs, pc, mem, save, lets, waits, halt, ins, outs, count⟩) PC.out).2.2.2.2.2.1
  have nI1 : w.heap.size ≠ b1 := I.out.t.ne (CMach.parts (m := ⟨regs, pc, mem, save, lets, waits, halt, ins, outs, count⟩) PC.out).2.2.2.2.2.2.1.t ins_int
  have nI2 : w.heap.size ≠ b2 := I.out.t.ne (CMach.parts (m := ⟨regs, pc, mem, save, lets, waits, halt, ins, outs, count⟩) PC.out).2.2.2.2.2.2.2.1 ins_int
  have nZ2 : b2 ≠ Z := fun e => (PB.out.t.ne (CMach.parts (m := ⟨regs, pc, mem, save, lets, waits, halt, ins, outs, count⟩) PC.out).2.2.2.2.2.2.2.1 mach_int) e.symm
  have AD := hide (address_yes Z b1 o1 _ k1 9 d a k x V.drew z0 la' cx bx k0 k1' (Int.not_le.2 hn))
  rw [et] at AD
  have HD : Hid (doM ⟨regs, pc, mem, save, lets, waits, halt, ins, outs, count⟩ 9 d a k = reachM ⟨regs, pc, mem, save, lets, waits, halt, ins, outs, count⟩ 9 d a k) := show _ = _ by unfold doM; simp
  have HE : Hid (reachM ⟨regs, pc, mem, save, lets, waits, halt, ins, outs, count⟩ 9 d a k = setM ⟨regs, pc, mem, save, lets, waits, halt, ins, outs, count⟩ d vv) := show _ = _ by
    unfold reachM
    simp only []
    rw [show regs.getD a 0 = x from GX.out, et, if_neg (by omega), Int.toNat_natCast, if_pos trivial, getD_of ev]
  have SS : V.drew.cell? ⟨w.heap.size, 0, none⟩ = some (.int .i64 9) ∧ V.drew.cell? ⟨w.heap.size, 1, none⟩ = some (.int .i64 d) ∧ V.drew.cell? ⟨w.heap.size, 2, none⟩ = some (.int .i64 a) ∧ V.drew.cell? ⟨w.heap.size, 3, none⟩ = some (.int .i64 k) ∧ V.drew.cell? ⟨Z, 0, none⟩ = some (.slice (some ⟨b1, o1, none⟩) regs.length k1) ∧ V.drew.cell? ⟨Z, 1, none⟩ = some (.int .i64 pc) ∧ V.drew.cell? ⟨Z, 2, none⟩ = some (.slice (some ⟨b2, o2, none⟩) mem.length k2) ∧ V.drew.cell? ⟨b2, o2 + t, none⟩ = some (.int .i64 vv) := ⟨i0, i1, i2, i3, z0, z1, z2, cv⟩
  have PBd := hide (Box.drew PB.out)
  have PCd := hide (CMach.drewN PC.out 1)
  have KVd := hide (Keep.drew KV.out)
  have EY := EY0
  have EV := hide ev
  have LT := hide lt
  clear rw_ mw_ PB PC KV I R4 M64 GX GY nI bx by_ cx fx fy hn hd ha la k0 k1' et ev lt fv EY0
  refine wp_region_held_drew (S := fun v => (v.cell? ⟨w.heap.size, 0, none⟩ = some (.int .i64 9) ∧ v.cell? ⟨w.heap.size, 1, none⟩ = some (.int .i64 d) ∧ v.cell? ⟨w.heap.size, 2, none⟩ = some (.int .i64 a) ∧ v.cell? ⟨w.heap.size, 3, none⟩ = some (.int .i64 k) ∧ v.cell? ⟨Z, 0, none⟩ = some (.slice (some ⟨b1, o1, none⟩) regs.length k1) ∧ v.cell? ⟨Z, 1, none⟩ = some (.int .i64 pc) ∧ v.cell? ⟨Z, 2, none⟩ = some (.slice (some ⟨b2, o2, none⟩) mem.length k2) ∧ v.cell? ⟨b2, o2 + t, none⟩ = some (.int .i64 vv))) (by kernel_rfl) SS (fun hHeld => ?_)
  refine wpAnyH_take (i := 0) (v := ?_) rfl (by kernel_rfl) (by kernel_rfl) (by kernel_rfl) (fun _ _ _ h => h) (Or.inl ⟨by rfl, ?_⟩) hHeld ?_
  rotate_left
  · intro w' hSw
    (try dsimp only at hSw)
    go_simp
    first | done | with_reducible rfl
  try simp only [Act.put, List.setIfInBounds_toArray, List.set]
  refine wpAnyH_take (i := 1) (v := ?_) rfl (by kernel_rfl) (by kernel_rfl) (by kernel_rfl) (fun _ _ _ h => h) (Or.inl ⟨by rfl, ?_⟩) hHeld ?_
  rotate_left
  · intro w' hSw
    (try dsimp only at hSw)
    go_simp
    first | done | with_reducible rfl
  try simp only [Act.put, List.setIfInBounds_toArray, List.set]
  refine wpAnyH_take (i := 2) (v := ?_) rfl (by kernel_rfl) (by kernel_rfl) (by kernel_rfl) (fun _ _ _ h => h) (Or.inl ⟨by rfl, ?_⟩) hHeld ?_
  rotate_left
  · intro w' hSw
    (try dsimp only at hSw)
    go_simp
    first | done | with_reducible rfl
  try simp only [Act.put, List.setIfInBounds_toArray, List.set]
  refine wpAnyH_take (i := 3) (v := ?_) rfl (by kernel_rfl) (by kernel_rfl) (by kernel_rfl) (fun _ _ _ h => h) (Or.inl ⟨by rfl, ?_⟩) hHeld ?_
  rotate_left
  · intro w' hSw
    (try dsimp only at hSw)
    go_simp
    first | done | with_reducible rfl
  try simp only [Act.put, List.setIfInBounds_toArray, List.set]
  refine wpAnyH_take (i := 4) (v := ?_) rfl (by kernel_rfl) (by kernel_rfl) (by kernel_rfl) (fun _ _ _ h => h) (Or.inl ⟨by rfl, ?_⟩) hHeld ?_
  rotate_left
  · intro w' hSw
    (try dsimp only at hSw)
    go_simp
    first | done | with_reducible rfl
  try simp only [Act.put, List.setIfInBounds_toArray, List.set]
  refine wpAnyH_take (i := 5) (v := ?_) rfl (by kernel_rfl) (by kernel_rfl) (by kernel_rfl) (fun _ _ _ h => h) (Or.inl ⟨by rfl, ?_⟩) hHeld ?_
  rotate_left
  · intro w' hSw
    (try dsimp only at hSw)
    go_simp
    first | done | with_reducible rfl
  try simp only [Act.put, List.setIfInBounds_toArray, List.set]
  refine wpAnyH_take (i := 6) (v := ?_) rfl (by kernel_rfl) (by kernel_rfl) (by kernel_rfl) (fun _ _ _ h => h) (Or.inl ⟨by rfl, ?_⟩) hHeld ?_
  rotate_left
  · intro w' hSw
    (try dsimp only at hSw)
    go_simp
    first | done | with_reducible rfl
  try simp only [Act.put, List.setIfInBounds_toArray, List.set]
  refine wpAnyH_take (i := 7) (v := ?_) rfl (by kernel_rfl) (by kernel_rfl) (by kernel_rfl) (fun _ _ _ h => h) (Or.inl ⟨by rfl, ?_⟩) hHeld ?_
  rotate_left
  · intro w' hSw
    (try dsimp only at hSw)
    go_simp
    first | done | with_reducible rfl
  try simp only [Act.put, List.setIfInBounds_toArray, List.set]
  refine wpAnyH_take (i := 8) (v := ?_) rfl (by kernel_rfl) (by kernel_rfl) (by kernel_rfl) (fun _ _ _ h => h) (Or.inl ⟨by rfl, ?_⟩) hHeld ?_
  rotate_left
  · intro w' hSw
    (try dsimp only at hSw)
    go_simp
    first | done | with_reducible rfl
  try simp only [Act.put, List.setIfInBounds_toArray, List.set]
  refine wpAnyH_ready (rs := [9]) (by kernel_rfl) (by simp) ?_
  refine AllReadyH.cons rfl (fun K hK => ?_) AllReadyH.nil
  go_simp
  refine AD.out.mono ?_
  rintro e u ⟨rfl, hb⟩
  have su0 := cell_below hb z0
  have su1 := cell_below hb z1
  have suy := cell_below hb cy
  have PU := hide (PBd.out.below hb)
  have CU := hide (PCd.out.below hb)
  have KU := hide (KVd.out.trans (Keep.of_below hb))
  have fu := (row_at (CMach.parts (m := ⟨regs, pc, mem, save, lets, waits, halt, ins, outs, count⟩) CU.out).1 EY.out).2
  have SU : u.cell? ⟨w.heap.size, 0, none⟩ = some (.int .i64 9) ∧ u.cell? ⟨w.heap.size, 1, none⟩ = some (.int .i64 d) ∧ u.cell? ⟨w.heap.size, 2, none⟩ = some (.int .i64 a) ∧ u.cell? ⟨w.heap.size, 3, none⟩ = some (.int .i64 k) ∧ u.cell? ⟨Z, 0, none⟩ = some (.slice (some ⟨b1, o1, none⟩) regs.length k1) ∧ u.cell? ⟨Z, 1, none⟩ = some (.int .i64 pc) ∧ u.cell? ⟨Z, 2, none⟩ = some (.slice (some ⟨b2, o2, none⟩) mem.length k2) ∧ u.cell? ⟨b2, o2 + t, none⟩ = some (.int .i64 vv) := ⟨cell_below hb i0, cell_below hb i1, cell_below hb i2, cell_below hb i3, cell_below hb z0, cell_below hb z1, cell_below hb z2, cell_below hb cv⟩
  clear hb
  refine hK.out _ _ SU (fun hHeld => ?_)
  clear hK K
  try simp only [Act.put, List.setIfInBounds_toArray, List.set]
  refine wpAnyH_take (i := 10) (v := ?_) rfl (by kernel_rfl) (by kernel_rfl) (by kernel_rfl) (fun _ _ _ h => h) (Or.inl ⟨by rfl, ?_⟩) hHeld ?_
  rotate_left
  · intro w' hSw
    (try dsimp only at hSw)
    go_simp
    first | done | with_reducible rfl
  try simp only [Act.put, List.setIfInBounds_toArray, List.set]
  refine wpAnyH_take (i := 11) (v := ?_) rfl (by kernel_rfl) (by kernel_rfl) (by kernel_rfl) (fun _ _ _ h => h) (Or.inl ⟨by rfl, ?_⟩) hHeld ?_
  rotate_left
  · intro w' hSw
    (try dsimp only at hSw)
    go_simp
    first | done | with_reducible rfl
  try simp only [Act.put, List.setIfInBounds_toArray, List.set]
  refine wpAnyH_ready (rs := [12]) (by kernel_rfl) (by simp) ?_
  refine AllReadyH.cons rfl (fun K hK => ?_) AllReadyH.nil
  go_simp
  refine (setRegister Z b1 o1 _ k1 d pc y vv u su0 su1 ld' suy fu hne p0 p1).mono ?_
  rintro e u2 ⟨rfl, rfl⟩
  have SV : (u.setCell ⟨b1, o1 + d, none⟩ (.int .i64 vv)).cell? ⟨w.heap.size, 0, none⟩ = some (.int .i64 9) ∧ (u.setCell ⟨b1, o1 + d, none⟩ (.int .i64 vv)).cell? ⟨w.heap.size, 1, none⟩ = some (.int .i64 d) ∧ (u.setCell ⟨b1, o1 + d, none⟩ (.int .i64 vv)).cell? ⟨w.heap.size, 2, none⟩ = some (.int .i64 a) ∧ (u.setCell ⟨b1, o1 + d, none⟩ (.int .i64 vv)).cell? ⟨w.heap.size, 3, none⟩ = some (.int .i64 k) ∧ (u.setCell ⟨b1, o1 + d, none⟩ (.int .i64 vv)).cell? ⟨Z, 0, none⟩ = some (.slice (some ⟨b1, o1, none⟩) regs.length k1) ∧ (u.setCell ⟨b1, o1 + d, none⟩ (.int .i64 vv)).cell? ⟨Z, 1, none⟩ = some (.int .i64 pc) ∧ (u.setCell ⟨b1, o1 + d, none⟩ (.int .i64 vv)).cell? ⟨Z, 2, none⟩ = some (.slice (some ⟨b2, o2, none⟩) mem.length k2) ∧ (u.setCell ⟨b1, o1 + d, none⟩ (.int .i64 vv)).cell? ⟨b2, o2 + t, none⟩ = some (.int .i64 vv) := ⟨far SU.1 (Ne.symm nI1), far SU.2.1 (Ne.symm nI1), far SU.2.2.1 (Ne.symm nI1), far SU.2.2.2.1 (Ne.symm nI1), far SU.2.2.2.2.1 hne, far SU.2.2.2.2.2.1 hne, far SU.2.2.2.2.2.2.1 hne, far SU.2.2.2.2.2.2.2 nb.1⟩
  refine hK.out _ _ SV (fun hHeld => ?_)
  clear hK K
  try simp only [Act.put, List.setIfInBounds_toArray, List.set]
  refine wpAnyH_take (i := 13) (v := ?_) rfl (by kernel_rfl) (by kernel_rfl) (by kernel_rfl) (fun _ _ _ h => h) (Or.inl ⟨by rfl, ?_⟩) hHeld ?_
  rotate_left
  · intro w' hSw
    (try dsimp only at hSw)
    go_simp
    first | done | with_reducible rfl
  try simp only [Act.put, List.setIfInBounds_toArray, List.set]
  refine wpAnyH_done (by kernel_rfl) ?_ _
  obtain ⟨PN, KN⟩ := PM.setReg (m := ⟨regs, pc, mem, save, lets, waits, halt, ins, outs, count⟩) PU.out CU.out HA.out d vv ld
  have PN' := hide PN
  have KN' := hide (KU.out.trans KN)
  have EN : Hid (nextM ⟨regs.set d vv, pc, mem, save, lets, waits, halt, ins, outs, count⟩ ((pc + 1) % 65536) = doM ⟨regs, pc, mem, save, lets, waits, halt, ins, outs, count⟩ 9 d a k) := show _ = _ by
    rw [HD.out, HE.out]
    exact set_of ⟨regs, pc, mem, save, lets, waits, halt, ins, outs, count⟩ d vv
  have q0 : Hid (0 ≤ (pc + 1) % 65536 ∧ (pc + 1) % 65536 < 65536) := by show _ ∧ _; omega
  clear PN KN PU CU KU PBd PCd KVd HD HE AD EY EV LT SS SU SV su0 su1 suy fu cv cy z0 z1 z2 i0 i1 i2 i3 hHeld
  go_wp2
  go_ret
  exact Or.inl ⟨_, _, rfl, PN'.out, KN'.out, q0.out.1, q0.out.2, ⟨c0, c1⟩, EN.out⟩
set_option maxRecDepth 8000 in
set_option maxHeartbeats 4000000 in
theorem deed_10yes (A : Nat → Prop) (Z : Nat) (m : M) (d a : Nat) (k : Int) (w : World) (h : PM A w Z m) (hf : Fit m) (hd : d < 4) (ha : a < 4) (k0 : 0 ≤ k) (k1' : k ≤ 255) (hn : ¬ 64 ≤ (m.regs.getD a 0 + k) % 65536) :
    Calls Tryz.prog 67 #[.pointer (some ⟨Z, 0, none⟩), .agg #[.int .i64 10, .int .i64 d, .int .i64 a, .int .i64 k]] w (Deed A Z w (doM m 10 d a k)) := by
  obtain ⟨b1, o1, k1, b2, o2, k2, b3, o3, k3, b4, k4, hB0, hC0, hA⟩ := h
  obtain ⟨regs, pc, mem, save, lets, waits, halt, ins, outs, count⟩ := m
  obtain ⟨r4, m64, rw_, mw_, p0, p1, c0, c1⟩ := hf
  have la : a < regs.length := by rw [show regs.length = 4 from r4]; exact ha
  have ld : d < regs.length := by rw [show regs.length = 4 from r4]; exact hd
  have la' : ((a : Nat) : Int) < (regs.length : Int) := by omega
  have ld' : ((d : Nat) : Int) < (regs.length : Int) := by omega
  have R4 := hide r4
  have M64 := hide m64
  have bV : Below w.heap.size w (w.alloc (.cells #[.int .i64 10, .int .i64 d, .int .i64 a, .int .i64 k] 38)) := (Below.refl _ _).alloc (Nat.le_refl _) _
  have hB := hB0.below bV
  have hC := hC0.below bV
  have I := hide (Box.new w [.int .i64 10, .int .i64 d, .int .i64 a, .int .i64 k] 38)
  have KV := hide (Keep.of_below (S := Grip A Z) bV)
  obtain ⟨x, ex⟩ : ∃ x, regs[a]? = some x := ⟨_, List.getElem?_eq_getElem la⟩
  obtain ⟨y, ey⟩ : ∃ y, regs[d]? = some y := ⟨_, List.getElem?_eq_getElem ld⟩
  have bx := rw_ a x ex
  have by_ := rw_ d y ey
  have GX := hide (getD_of ex)
  have GY := hide (getD_of ey)
  obtain ⟨cx, fx⟩ := row_at hC.parts.1 ex
  obtain ⟨cy, fy⟩ := row_at hC.parts.1 ey
  have hne : b1 ≠ Z := fun e => (hB.t.ne hC.parts.2.2.2.2.2.2.1.t mach_int) e.symm
  have HA := hide hA
  have nI : Hid (w.heap.size ≠ Z) := by have := hB0.r.lt; show _ ≠ _; omega
  have EY0 := hide ey
  clear hB0 hC0 r4 m64 hA
  simp only [mv] at *
  go_enter Tryz.func67, Tryz.ntmps67
  go_wp2_with fail
  generalize w.alloc (.cells #[.int .i64 10, .int .i64 d, .int .i64 a, .int .i64 k] 38) = V at *
  have PB := hide hB
  have PC := hide hC
  clear hB hC bV
  have z0 := PB.out.r.cell 0 _ rfl
  have z1 := PB.out.r.cell 1 _ rfl
  have z2 := PB.out.r.cell 2 _ rfl
  have i0 := I.out.r.cell 0 _ rfl
  have i1 := I.out.r.cell 1 _ rfl
  have i2 := I.out.r.cell 2 _ rfl
  have i3 := I.out.r.cell 3 _ rfl
  try simp only [] at hn
  rw [show regs.getD a 0 = x from GX.out] at hn
  obtain ⟨t, et⟩ : ∃ t : Nat, (x + k) % 65536 = (t : Int) := ⟨((x + k) % 65536).toNat, by omega⟩
  have lt' : ((t : Nat) : Int) < (mem.length : Int) := by rw [show mem.length = 64 from M64.out]; omega
  have lt : t < mem.length := by omega
  obtain ⟨vv, ev⟩ : ∃ v, mem[t]? = some v := ⟨_, List.getElem?_eq_getElem lt⟩
  obtain ⟨cv, fv⟩ := row_at (CMach.parts (m := ⟨regs, pc, mem, save, lets, waits, halt, ins, outs, count⟩) PC.out).2.1 ev
  have nb := (CMach.parts (m := ⟨regs, pc, mem, save, lets, waits, halt, ins, outs, count⟩) PC.out).2.2.2.2.2.1
  have nI1 : w.heap.size ≠ b1 := I.out.t.ne (CMach.parts (m := ⟨regs, pc, mem, save, lets, waits, halt, ins, outs, count⟩) PC.out).2.2.2.2.2.2.1.t ins_int
  have nI2 : w.heap.size ≠ b2 := I.out.t.ne (CMach.parts (m := ⟨regs, pc, mem, save, lets, waits, halt, ins, outs, count⟩) PC.out).2.2.2.2.2.2.2.1 ins_int
  have nZ2 : b2 ≠ Z := fun e => (PB.out.t.ne (CMach.parts (m := ⟨regs, pc, mem, save, lets, waits, halt, ins, outs, count⟩) PC.out).2.2.2.2.2.2.2.1 mach_int) e.symm
  have AD := hide (address_yes Z b1 o1 _ k1 10 d a k x V.drew z0 la' cx bx k0 k1' (Int.not_le.2 hn))
  rw [et] at AD
  have HD : Hid (doM ⟨regs, pc, mem, save, lets, waits, halt, ins, outs, count⟩ 10 d a k = reachM ⟨regs, pc, mem, save, lets, waits, halt, ins, outs, count⟩ 10 d a k) := show _ = _ by unfold doM; simp
  have HE : Hid (reachM ⟨regs, pc, mem, save, lets, waits, halt, ins, outs, count⟩ 10 d a k = nextM ⟨regs, pc, mem.set t y, save, lets, waits, halt, ins, outs, count⟩ (pc + 1)) := show _ = _ by
    unfold reachM
    simp only []
    rw [show regs.getD a 0 = x from GX.out, et, if_neg (by omega), Int.toNat_natCast, if_neg (by decide), show regs.getD d 0 = y from GY.out]
  have SS : V.drew.cell? ⟨w.heap.size, 0, none⟩ = some (.int .i64 10) ∧ V.drew.cell? ⟨w.heap.size, 1, none⟩ = some (.int .i64 d) ∧ V.drew.cell? ⟨w.heap.size, 2, none⟩ = some (.int .i64 a) ∧ V.drew.cell? ⟨w.heap.size, 3, none⟩ = some (.int .i64 k) ∧ V.drew.cell? ⟨Z, 0, none⟩ = some (.slice (some ⟨b1, o1, none⟩) regs.length k1) ∧ V.drew.cell? ⟨Z, 1, none⟩ = some (.int .i64 pc) ∧ V.drew.cell? ⟨Z, 2, none⟩ = some (.slice (some ⟨b2, o2, none⟩) mem.length k2) ∧ V.drew.cell? ⟨b1, o1 + d, none⟩ = some (.int .i64 y) := ⟨i0, i1, i2, i3, z0, z1, z2, cy⟩
  have PBd := hide (Box.drew PB.out)
  have PCd := hide (CMach.drewN PC.out 1)
  have KVd := hide (Keep.drew KV.out)
  have EY := EY0
  have EV := hide ev
  have LT := hide lt
  clear rw_ mw_ PB PC KV I R4 M64 GX GY nI bx by_ cx fx fy hn hd ha la k0 k1' et ev lt fv EY0
  refine wp_region_held_drew (S := fun v => (v.cell? ⟨w.heap.size, 0, none⟩ = some (.int .i64 10) ∧ v.cell? ⟨w.heap.size, 1, none⟩ = some (.int .i64 d) ∧ v.cell? ⟨w.heap.size, 2, none⟩ = some (.int .i64 a) ∧ v.cell? ⟨w.heap.size, 3, none⟩ = some (.int .i64 k) ∧ v.cell? ⟨Z, 0, none⟩ = some (.slice (some ⟨b1, o1, none⟩) regs.length k1) ∧ v.cell? ⟨Z, 1, none⟩ = some (.int .i64 pc) ∧ v.cell? ⟨Z, 2, none⟩ = some (.slice (some ⟨b2, o2, none⟩) mem.length k2) ∧ v.cell? ⟨b1, o1 + d, none⟩ = some (.int .i64 y))) (by kernel_rfl) SS (fun hHeld => ?_)
  refine wpAnyH_take (i := 0) (v := ?_) rfl (by kernel_rfl) (by kernel_rfl) (by kernel_rfl) (fun _ _ _ h => h) (Or.inl ⟨by rfl, ?_⟩) hHeld ?_
  rotate_left
  · intro w' hSw
    (try dsimp only at hSw)
    go_simp
    first | done | with_reducible rfl
  try simp only [Act.put, List.setIfInBounds_toArray, List.set]
  refine wpAnyH_take (i := 1) (v := ?_) rfl (by kernel_rfl) (by kernel_rfl) (by kernel_rfl) (fun _ _ _ h => h) (Or.inl ⟨by rfl, ?_⟩) hHeld ?_
  rotate_left
  · intro w' hSw
    (try dsimp only at hSw)
    go_simp
    first | done | with_reducible rfl
  try simp only [Act.put, List.setIfInBounds_toArray, List.set]
  refine wpAnyH_take (i := 2) (v := ?_) rfl (by kernel_rfl) (by kernel_rfl) (by kernel_rfl) (fun _ _ _ h => h) (Or.inl ⟨by rfl, ?_⟩) hHeld ?_
  rotate_left
  · intro w' hSw
    (try dsimp only at hSw)
    go_simp
    first | done | with_reducible rfl
  try simp only [Act.put, List.setIfInBounds_toArray, List.set]
  refine wpAnyH_take (i := 3) (v := ?_) rfl (by kernel_rfl) (by kernel_rfl) (by kernel_rfl) (fun _ _ _ h => h) (Or.inl ⟨by rfl, ?_⟩) hHeld ?_
  rotate_left
  · intro w' hSw
    (try dsimp only at hSw)
    go_simp
    first | done | with_reducible rfl
  try simp only [Act.put, List.setIfInBounds_toArray, List.set]
  refine wpAnyH_take (i := 4) (v := ?_) rfl (by kernel_rfl) (by kernel_rfl) (by kernel_rfl) (fun _ _ _ h => h) (Or.inl ⟨by rfl, ?_⟩) hHeld ?_
  rotate_left
  · intro w' hSw
    (try dsimp only at hSw)
    go_simp
    first | done | with_reducible rfl
  try simp only [Act.put, List.setIfInBounds_toArray, List.set]
  refine wpAnyH_take (i := 5) (v := ?_) rfl (by kernel_rfl) (by kernel_rfl) (by kernel_rfl) (fun _ _ _ h => h) (Or.inl ⟨by rfl, ?_⟩) hHeld ?_
  rotate_left
  · intro w' hSw
    (try dsimp only at hSw)
    go_simp
    first | done | with_reducible rfl
  try simp only [Act.put, List.setIfInBounds_toArray, List.set]
  refine wpAnyH_take (i := 7) (v := ?_) rfl (by kernel_rfl) (by kernel_rfl) (by kernel_rfl) (fun _ _ _ h => h) (Or.inl ⟨by rfl, ?_⟩) hHeld ?_
  rotate_left
  · intro w' hSw
    (try dsimp only at hSw)
    go_simp
    first | done | with_reducible rfl
  try simp only [Act.put, List.setIfInBounds_toArray, List.set]
  refine wpAnyH_take (i := 8) (v := ?_) rfl (by kernel_rfl) (by kernel_rfl) (by kernel_rfl) (fun _ _ _ h => h) (Or.inl ⟨by rfl, ?_⟩) hHeld ?_
  rotate_left
  · intro w' hSw
    (try dsimp only at hSw)
    go_simp
    first | done | with_reducible rfl
  try simp only [Act.put, List.setIfInBounds_toArray, List.set]
  refine wpAnyH_take (i := 9) (v := ?_) rfl (by kernel_rfl) (by kernel_rfl) (by kernel_rfl) (fun _ _ _ h => h) (Or.inl ⟨by rfl, ?_⟩) hHeld ?_
  rotate_left
  · intro w' hSw
    (try dsimp only at hSw)
    go_simp
    first | done | with_reducible rfl
  try simp only [Act.put, List.setIfInBounds_toArray, List.set]
  refine wpAnyH_take (i := 10) (v := ?_) rfl (by kernel_rfl) (by kernel_rfl) (by kernel_rfl) (fun _ _ _ h => h) (Or.inl ⟨by rfl, ?_⟩) hHeld ?_
  rotate_left
  · intro w' hSw
    (try dsimp only at hSw)
    go_simp
    first | done | with_reducible rfl
  try simp only [Act.put, List.setIfInBounds_toArray, List.set]
  refine wpAnyH_take (i := 11) (v := ?_) rfl (by kernel_rfl) (by kernel_rfl) (by kernel_rfl) (fun _ _ _ h => h) (Or.inl ⟨by rfl, ?_⟩) hHeld ?_
  rotate_left
  · intro w' hSw
    (try dsimp only at hSw)
    go_simp
    first | done | with_reducible rfl
  try simp only [Act.put, List.setIfInBounds_toArray, List.set]
  refine wpAnyH_take (i := 12) (v := ?_) rfl (by kernel_rfl) (by kernel_rfl) (by kernel_rfl) (fun _ _ _ h => h) (Or.inl ⟨by rfl, ?_⟩) hHeld ?_
  rotate_left
  · intro w' hSw
    (try dsimp only at hSw)
    go_simp
    first | done | with_reducible rfl
  try simp only [Act.put, List.setIfInBounds_toArray, List.set]
  refine wpAnyH_take (i := 13) (v := ?_) rfl (by kernel_rfl) (by kernel_rfl) (by kernel_rfl) (fun _ _ _ h => h) (Or.inl ⟨by rfl, ?_⟩) hHeld ?_
  rotate_left
  · intro w' hSw
    (try dsimp only at hSw)
    go_simp
    first | done | with_reducible rfl
  try simp only [Act.put, List.setIfInBounds_toArray, List.set]
  refine wpAnyH_take (i := 14) (v := ?_) rfl (by kernel_rfl) (by kernel_rfl) (by kernel_rfl) (fun _ _ _ h => h) (Or.inl ⟨by rfl, ?_⟩) hHeld ?_
  rotate_left
  · intro w' hSw
    (try dsimp only at hSw)
    go_simp
    first | done | with_reducible rfl
  try simp only [Act.put, List.setIfInBounds_toArray, List.set]
  refine wpAnyH_ready (rs := [6]) (by kernel_rfl) (by simp) ?_
  refine AllReadyH.cons rfl (fun K hK => ?_) AllReadyH.nil
  go_simp
  refine AD.out.mono ?_
  rintro e u ⟨rfl, hb⟩
  have su1 := cell_below hb z1
  have suv := cell_below hb cv
  have PU := hide (PBd.out.below hb)
  have CU := hide (PCd.out.below hb)
  have KU := hide (KVd.out.trans (Keep.of_below hb))
  have fu := (row_at (CMach.parts (m := ⟨regs, pc, mem, save, lets, waits, halt, ins, outs, count⟩) CU.out).2.1 EV.out).2
  have SU : u.cell? ⟨w.heap.size, 0, none⟩ = some (.int .i64 10) ∧ u.cell? ⟨w.heap.size, 1, none⟩ = some (.int .i64 d) ∧ u.cell? ⟨w.heap.size, 2, none⟩ = some (.int .i64 a) ∧ u.cell? ⟨w.heap.size, 3, none⟩ = some (.int .i64 k) ∧ u.cell? ⟨Z, 0, none⟩ = some (.slice (some ⟨b1, o1, none⟩) regs.length k1) ∧ u.cell? ⟨Z, 1, none⟩ = some (.int .i64 pc) ∧ u.cell? ⟨Z, 2, none⟩ = some (.slice (some ⟨b2, o2, none⟩) mem.length k2) ∧ u.cell? ⟨b1, o1 + d, none⟩ = some (.int .i64 y) := ⟨cell_below hb i0, cell_below hb i1, cell_below hb i2, cell_below hb i3, cell_below hb z0, cell_below hb z1, cell_below hb z2, cell_below hb cy⟩
  clear hb
  refine hK.out _ _ SU (fun hHeld => ?_)
  clear hK K
  try simp only [Act.put, List.setIfInBounds_toArray, List.set]
  refine wpAnyH_take (i := 15) (v := ?_) rfl (by kernel_rfl) (by kernel_rfl) (by kernel_rfl) (fun _ _ _ h => h) (Or.inl ⟨by rfl, ?_⟩) hHeld ?_
  rotate_left
  · intro w' hSw
    (try dsimp only at hSw)
    go_simp
    first | done | with_reducible rfl
  try simp only [Act.put, List.setIfInBounds_toArray, List.set]
  refine wpAnyH_ready (rs := [16]) (by kernel_rfl) (by simp) ?_
  refine AllReadyH.cons rfl (fun K hK => ?_) AllReadyH.nil
  go_simp
  have SV : (u.setCell ⟨b2, o2 + t, none⟩ (.int .i64 y)).cell? ⟨w.heap.size, 0, none⟩ = some (.int .i64 10) ∧ (u.setCell ⟨b2, o2 + t, none⟩ (.int .i64 y)).cell? ⟨w.heap.size, 1, none⟩ = some (.int .i64 d) ∧ (u.setCell ⟨b2, o2 + t, none⟩ (.int .i64 y)).cell? ⟨w.heap.size, 2, none⟩ = some (.int .i64 a) ∧ (u.setCell ⟨b2, o2 + t, none⟩ (.int .i64 y)).cell? ⟨w.heap.size, 3, none⟩ = some (.int .i64 k) ∧ (u.setCell ⟨b2, o2 + t, none⟩ (.int .i64 y)).cell? ⟨Z, 0, none⟩ = some (.slice (some ⟨b1, o1, none⟩) regs.length k1) ∧ (u.setCell ⟨b2, o2 + t, none⟩ (.int .i64 y)).cell? ⟨Z, 1, none⟩ = some (.int .i64 pc) ∧ (u.setCell ⟨b2, o2 + t, none⟩ (.int .i64 y)).cell? ⟨Z, 2, none⟩ = some (.slice (some ⟨b2, o2, none⟩) mem.length k2) ∧ (u.setCell ⟨b2, o2 + t, none⟩ (.int .i64 y)).cell? ⟨b1, o1 + d, none⟩ = some (.int .i64 y) := ⟨far SU.1 (Ne.symm nI2), far SU.2.1 (Ne.symm nI2), far SU.2.2.1 (Ne.symm nI2), far SU.2.2.2.1 (Ne.symm nI2), far SU.2.2.2.2.1 nZ2, far SU.2.2.2.2.2.1 nZ2, far SU.2.2.2.2.2.2.1 nZ2, far SU.2.2.2.2.2.2.2 (Ne.symm nb.1)⟩
  refine hK.out _ _ SV (fun hHeld => ?_)
  clear hK K
  try simp only [Act.put, List.setIfInBounds_toArray, List.set]
  refine wpAnyH_done (by kernel_rfl) ?_ _
  obtain ⟨PN, KN⟩ := PM.setMem (m := ⟨regs, pc, mem, save, lets, waits, halt, ins, outs, count⟩) PU.out CU.out HA.out t y LT.out
  have PN' := hide PN
  have KN' := hide (KU.out.trans KN)
  have EN : Hid (nextM ⟨regs, pc, mem.set t y, save, lets, waits, halt, ins, outs, count⟩ ((pc + 1) % 65536) = doM ⟨regs, pc, mem, save, lets, waits, halt, ins, outs, count⟩ 10 d a k) := show _ = _ by
    rw [HD.out, HE.out]
    unfold nextM
    simp
  have q0 : Hid (0 ≤ (pc + 1) % 65536 ∧ (pc + 1) % 65536 < 65536) := by show _ ∧ _; omega
  have zz1 := SV.2.2.2.2.2.1
  clear PN KN PU CU KU PBd PCd KVd HD HE AD EY EV LT SS SU SV su1 suv fu cv cy z0 z1 z2 i0 i1 i2 i3 hHeld
  go_wp2_with fail
  refine (behind Z pc _ zz1 p0 p1).mono ?_
  rintro e u3 ⟨rfl, rfl⟩
  go_wp2
  go_ret
  exact Or.inl ⟨_, _, rfl, PN'.out, KN'.out, q0.out.1, q0.out.2, ⟨c0, c1⟩, EN.out⟩
set_option maxRecDepth 8000 in
set_option maxHeartbeats 4000000 in
theorem deed_reck (A : Nat → Prop) (Z : Nat) (m : M) (d a : Nat) (k : Nat) (w : World) (h : PM A w Z m) (hf : Fit m) (hd : d < 4) (ha : a < 4) (hk : k < 4) (q : Int) (hq : 1 ≤ q ∧ q ≤ 5) (cb : Nat) (hcb : ¬ A cb) (hcq : w.cell? ⟨cb, 0, none⟩ = some (.int .i64 q)) :
    Calls Tryz.prog 86 #[.pointer (some ⟨Z, 0, none⟩), .agg #[.int .i64 (q + 2), .int .i64 d, .int .i64 a, .int .i64 k], .pointer (some ⟨cb, 0, none⟩)] w (Deed A Z w (doM m (q + 2) d a k)) := by
  obtain ⟨b1, o1, k1, b2, o2, k2, b3, o3, k3, b4, k4, hB0, hC0, hA⟩ := h
  obtain ⟨regs, pc, mem, save, lets, waits, halt, ins, outs, count⟩ := m
  obtain ⟨r4, m64, rw_, mw_, p0, p1, c0, c1⟩ := hf
  have la : a < regs.length := by rw [show regs.length = 4 from r4]; exact ha
  have ld : d < regs.length := by rw [show regs.length = 4 from r4]; exact hd
  have la' : ((a : Nat) : Int) < (regs.length : Int) := by omega
  have ld' : ((d : Nat) : Int) < (regs.length : Int) := by omega
  have R4 := hide r4
  have M64 := hide m64
  have bV : Below w.heap.size w (w.alloc (.cells #[.int .i64 (q + 2), .int .i64 d, .int .i64 a, .int .i64 k] 38)) := (Below.refl _ _).alloc (Nat.le_refl _) _
  have hB := hB0.below bV
  have hC := hC0.below bV
  have I := hide (Box.new w [.int .i64 (q + 2), .int .i64 d, .int .i64 a, .int .i64 k] 38)
  have KV := hide (Keep.of_below (S := Grip A Z) bV)
  obtain ⟨x, ex⟩ : ∃ x, regs[a]? = some x := ⟨_, List.getElem?_eq_getElem la⟩
  obtain ⟨y, ey⟩ : ∃ y, regs[d]? = some y := ⟨_, List.getElem?_eq_getElem ld⟩
  have bx := rw_ a x ex
  have by_ := rw_ d y ey
  have GX := hide (getD_of ex)
  have GY := hide (getD_of ey)
  obtain ⟨cx, fx⟩ := row_at hC.parts.1 ex
  obtain ⟨cy, fy⟩ := row_at hC.parts.1 ey
  have hne : b1 ≠ Z := fun e => (hB.t.ne hC.parts.2.2.2.2.2.2.1.t mach_int) e.symm
  have HA := hide hA
  have nI : Hid (w.heap.size ≠ Z) := by have := hB0.r.lt; show _ ≠ _; omega
  have cq := cell_below bV hcq
  have ncb : b1 ≠ cb := fun e => hcb (e ▸ hA.1)
  have EY0 := hide ey
  clear hB0 hC0 r4 m64 hA
  simp only [mv] at *
  go_enter Tryz.func86, Tryz.ntmps86
  go_wp2_with fail
  generalize w.alloc (.cells #[.int .i64 (q + 2), .int .i64 d, .int .i64 a, .int .i64 k] 38) = V at *
  have PB := hide hB
  have PC := hide hC
  clear hB hC bV
  have z0 := PB.out.r.cell 0 _ rfl
  have z1 := PB.out.r.cell 1 _ rfl
  have i0 := I.out.r.cell 0 _ rfl
  have i1 := I.out.r.cell 1 _ rfl
  have i2 := I.out.r.cell 2 _ rfl
  have i3 := I.out.r.cell 3 _ rfl
  have lk : k < regs.length := by rw [show regs.length = 4 from R4.out]; exact hk
  have lk' : ((k : Nat) : Int) < (regs.length : Int) := by omega
  obtain ⟨zz, ez⟩ : ∃ z, regs[k]? = some z := ⟨_, List.getElem?_eq_getElem lk⟩
  have cz := (row_at (CMach.parts (m := ⟨regs, pc, mem, save, lets, waits, halt, ins, outs, count⟩) PC.out).1 ez).1
  have GZ := hide (getD_of ez)
  clear ez hcb hcq
  have nI1 : w.heap.size ≠ b1 := I.out.t.ne (CMach.parts (m := ⟨regs, pc, mem, save, lets, waits, halt, ins, outs, count⟩) PC.out).2.2.2.2.2.2.1.t ins_int
  have DO := hide (Wrd.implDo q x zz V.drew)
  have HD : Hid (doM ⟨regs, pc, mem, save, lets, waits, halt, ins, outs, count⟩ (q + 2) d a k = setM ⟨regs, pc, mem, save, lets, waits, halt, ins, outs, count⟩ d (Wrd.wdo q x zz)) := show _ = _ by rw [doM_reck _ _ _ _ _ (by omega) (by omega), Int.toNat_natCast, show regs.getD a 0 = x from GX.out, show regs.getD k 0 = zz from GZ.out, show q + 2 - 2 = q by omega]
  have SS : V.drew.cell? ⟨w.heap.size, 0, none⟩ = some (.int .i64 (q + 2)) ∧ V.drew.cell? ⟨w.heap.size, 1, none⟩ = some (.int .i64 d) ∧ V.drew.cell? ⟨w.heap.size, 2, none⟩ = some (.int .i64 a) ∧ V.drew.cell? ⟨w.heap.size, 3, none⟩ = some (.int .i64 k) ∧ V.drew.cell? ⟨Z, 0, none⟩ = some (.slice (some ⟨b1, o1, none⟩) regs.length k1) ∧ V.drew.cell? ⟨Z, 1, none⟩ = some (.int .i64 pc) ∧ V.drew.cell? ⟨cb, 0, none⟩ = some (.int .i64 q) := ⟨i0, i1, i2, i3, z0, z1, cq⟩
  have PBd := hide (Box.drew PB.out)
  have PCd := hide (CMach.drewN PC.out 1)
  have KVd := hide (Keep.drew KV.out)
  clear rw_ mw_ PB PC KV I R4 M64 GX GY nI by_ fx fy hd ha
  refine wp_region_held_drew (S := fun v => (v.cell? ⟨w.heap.size, 0, none⟩ = some (.int .i64 (q + 2)) ∧ v.cell? ⟨w.heap.size, 1, none⟩ = some (.int .i64 d) ∧ v.cell? ⟨w.heap.size, 2, none⟩ = some (.int .i64 a) ∧ v.cell? ⟨w.heap.size, 3, none⟩ = some (.int .i64 k) ∧ v.cell? ⟨Z, 0, none⟩ = some (.slice (some ⟨b1, o1, none⟩) regs.length k1) ∧ v.cell? ⟨Z, 1, none⟩ = some (.int .i64 pc) ∧ v.cell? ⟨cb, 0, none⟩ = some (.int .i64 q))) (by kernel_rfl) SS (fun hHeld => ?_)
  refine wpAnyH_take (i := 0) (v := ?_) rfl (by kernel_rfl) (by kernel_rfl) (by kernel_rfl) (fun _ _ _ h => h) (Or.inl ⟨by rfl, ?_⟩) hHeld ?_
  rotate_left
  · intro w' hSw
    (try dsimp only at hSw)
    go_simp
    first | done | with_reducible rfl
  try simp only [Act.put, List.setIfInBounds_toArray, List.set]
  refine wpAnyH_take (i := 1) (v := ?_) rfl (by kernel_rfl) (by kernel_rfl) (by kernel_rfl) (fun _ _ _ h => h) (Or.inl ⟨by rfl, ?_⟩) hHeld ?_
  rotate_left
  · intro w' hSw
    (try dsimp only at hSw)
    go_simp
    first | done | with_reducible rfl
  try simp only [Act.put, List.setIfInBounds_toArray, List.set]
  refine wpAnyH_take (i := 2) (v := ?_) rfl (by kernel_rfl) (by kernel_rfl) (by kernel_rfl) (fun _ _ _ h => h) (Or.inl ⟨by rfl, ?_⟩) hHeld ?_
  rotate_left
  · intro w' hSw
    (try dsimp only at hSw)
    go_simp
    first | done | with_reducible rfl
  try simp only [Act.put, List.setIfInBounds_toArray, List.set]
  refine wpAnyH_take (i := 3) (v := ?_) rfl (by kernel_rfl) (by kernel_rfl) (by kernel_rfl) (fun _ _ _ h => h) (Or.inl ⟨by rfl, ?_⟩) hHeld ?_
  rotate_left
  · intro w' hSw
    (try dsimp only at hSw)
    go_simp
    first | done | with_reducible rfl
  try simp only [Act.put, List.setIfInBounds_toArray, List.set]
  refine wpAnyH_take (i := 4) (v := ?_) rfl (by kernel_rfl) (by kernel_rfl) (by kernel_rfl) (fun _ _ _ h => h) (Or.inl ⟨by rfl, ?_⟩) hHeld ?_
  rotate_left
  · intro w' hSw
    (try dsimp only at hSw)
    go_simp
    first | done | with_reducible rfl
  try simp only [Act.put, List.setIfInBounds_toArray, List.set]
  refine wpAnyH_take (i := 5) (v := ?_) rfl (by kernel_rfl) (by kernel_rfl) (by kernel_rfl) (fun _ _ _ h => h) (Or.inl ⟨by rfl, ?_⟩) hHeld ?_
  rotate_left
  · intro w' hSw
    (try dsimp only at hSw)
    go_simp
    first | done | with_reducible rfl
  try simp only [Act.put, List.setIfInBounds_toArray, List.set]
  refine wpAnyH_take (i := 6) (v := ?_) rfl (by kernel_rfl) (by kernel_rfl) (by kernel_rfl) (fun _ _ _ h => h) (Or.inl ⟨by rfl, ?_⟩) hHeld ?_
  rotate_left
  · intro w' hSw
    (try dsimp only at hSw)
    go_simp
    first | done | with_reducible rfl
  try simp only [Act.put, List.setIfInBounds_toArray, List.set]
  refine wpAnyH_take (i := 7) (v := ?_) rfl (by kernel_rfl) (by kernel_rfl) (by kernel_rfl) (fun _ _ _ h => h) (Or.inl ⟨by rfl, ?_⟩) hHeld ?_
  rotate_left
  · intro w' hSw
    (try dsimp only at hSw)
    go_simp
    first | done | with_reducible rfl
  try simp only [Act.put, List.setIfInBounds_toArray, List.set]
  refine wpAnyH_take (i := 8) (v := ?_) rfl (by kernel_rfl) (by kernel_rfl) (by kernel_rfl) (fun _ _ _ h => h) (Or.inl ⟨by rfl, ?_⟩) hHeld ?_
  rotate_left
  · intro w' hSw
    (try dsimp only at hSw)
    go_simp
    first | done | with_reducible rfl
  try simp only [Act.put, List.setIfInBounds_toArray, List.set]
  refine wpAnyH_take (i := 9) (v := ?_) rfl (by kernel_rfl) (by kernel_rfl) (by kernel_rfl) (fun _ _ _ h => h) (Or.inl ⟨by rfl, ?_⟩) hHeld ?_
  rotate_left
  · intro w' hSw
    (try dsimp only at hSw)
    go_simp
    first | done | with_reducible rfl
  try simp only [Act.put, List.setIfInBounds_toArray, List.set]
  refine wpAnyH_take (i := 10) (v := ?_) rfl (by kernel_rfl) (by kernel_rfl) (by kernel_rfl) (fun _ _ _ h => h) (Or.inl ⟨by rfl, ?_⟩) hHeld ?_
  rotate_left
  · intro w' hSw
    (try dsimp only at hSw)
    go_simp
    first | done | with_reducible rfl
  try simp only [Act.put, List.setIfInBounds_toArray, List.set]
  refine wpAnyH_take (i := 12) (v := ?_) rfl (by kernel_rfl) (by kernel_rfl) (by kernel_rfl) (fun _ _ _ h => h) (Or.inl ⟨by rfl, ?_⟩) hHeld ?_
  rotate_left
  · intro w' hSw
    (try dsimp only at hSw)
    go_simp
    first | done | with_reducible rfl
  try simp only [Act.put, List.setIfInBounds_toArray, List.set]
  refine wpAnyH_take (i := 13) (v := ?_) rfl (by kernel_rfl) (by kernel_rfl) (by kernel_rfl) (fun _ _ _ h => h) (Or.inl ⟨by rfl, ?_⟩) hHeld ?_
  rotate_left
  · intro w' hSw
    (try dsimp only at hSw)
    go_simp
    first | done | with_reducible rfl
  try simp only [Act.put, List.setIfInBounds_toArray, List.set]
  refine wpAnyH_take (i := 14) (v := ?_) rfl (by kernel_rfl) (by kernel_rfl) (by kernel_rfl) (fun _ _ _ h => h) (Or.inl ⟨by rfl, ?_⟩) hHeld ?_
  rotate_left
  · intro w' hSw
    (try dsimp only at hSw)
    go_simp
    first | done | with_reducible rfl
  try simp only [Act.put, List.setIfInBounds_toArray, List.set]
  refine wpAnyH_take (i := 15) (v := ?_) rfl (by kernel_rfl) (by kernel_rfl) (by kernel_rfl) (fun _ _ _ h => h) (Or.inl ⟨by rfl, ?_⟩) hHeld ?_
  rotate_left
  · intro w' hSw
    (try dsimp only at hSw)
    go_simp
    first | done | with_reducible rfl
  try simp only [Act.put, List.setIfInBounds_toArray, List.set]
  refine wpAnyH_take (i := 16) (v := ?_) rfl (by kernel_rfl) (by kernel_rfl) (by kernel_rfl) (fun _ _ _ h => h) (Or.inl ⟨by rfl, ?_⟩) hHeld ?_
  rotate_left
  · intro w' hSw
    (try dsimp only at hSw)
    go_simp
    first | done | with_reducible rfl
  try simp only [Act.put, List.setIfInBounds_toArray, List.set]
  refine wpAnyH_take (i := 17) (v := ?_) rfl (by kernel_rfl) (by kernel_rfl) (by kernel_rfl) (fun _ _ _ h => h) (Or.inl ⟨by rfl, ?_⟩) hHeld ?_
  rotate_left
  · intro w' hSw
    (try dsimp only at hSw)
    go_simp
    first | done | with_reducible rfl
  try simp only [Act.put, List.setIfInBounds_toArray, List.set]
  refine wpAnyH_take (i := 18) (v := ?_) rfl (by kernel_rfl) (by kernel_rfl) (by kernel_rfl) (fun _ _ _ h => h) (Or.inl ⟨by rfl, ?_⟩) hHeld ?_
  rotate_left
  · intro w' hSw
    (try dsimp only at hSw)
    go_simp
    first | done | with_reducible rfl
  try simp only [Act.put, List.setIfInBounds_toArray, List.set]
  refine wpAnyH_ready (rs := [11, 19]) (by kernel_rfl) (by simp) ?_
  refine AllReadyH.cons rfl (fun K hK => ?_) (AllReadyH.cons rfl (fun K hK => ?_) AllReadyH.nil)
  all_goals
    go_simp
    refine hK.out _ _ hHeld (fun hHeld => ?_)
    clear hK K
    try simp only [Act.put, List.setIfInBounds_toArray, List.set]
  · refine wpAnyH_ready (rs := [19]) (by kernel_rfl) (by simp) ?_
    refine AllReadyH.cons rfl (fun K hK => ?_) AllReadyH.nil
    go_simp
    refine hK.out _ _ hHeld (fun hHeld => ?_)
    clear hK K
    try simp only [Act.put, List.setIfInBounds_toArray, List.set]
    refine wpAnyH_ready (rs := [20]) (by kernel_rfl) (by simp) ?_
    refine AllReadyH.cons rfl (fun K hK => ?_) AllReadyH.nil
    go_simp
    refine DO.out.mono ?_
    rintro e u ⟨rfl, hb⟩
    have su0 := cell_below hb z0
    have su1 := cell_below hb z1
    have suy := cell_below hb cy
    have PU := hide (PBd.out.below hb)
    have CU := hide (PCd.out.below hb)
    have KU := hide (KVd.out.trans (Keep.of_below hb))
    have fu := (row_at (CMach.parts (m := ⟨regs, pc, mem, save, lets, waits, halt, ins, outs, count⟩) CU.out).1 EY0.out).2
    have SU : u.cell? ⟨w.heap.size, 0, none⟩ = some (.int .i64 (q + 2)) ∧ u.cell? ⟨w.heap.size, 1, none⟩ = some (.int .i64 d) ∧ u.cell? ⟨w.heap.size, 2, none⟩ = some (.int .i64 a) ∧ u.cell? ⟨w.heap.size, 3, none⟩ = some (.int .i64 k) ∧ u.cell? ⟨Z, 0, none⟩ = some (.slice (some ⟨b1, o1, none⟩) regs.length k1) ∧ u.cell? ⟨Z, 1, none⟩ = some (.int .i64 pc) ∧ u.cell? ⟨cb, 0, none⟩ = some (.int .i64 q) := ⟨cell_below hb i0, cell_below hb i1, cell_below hb i2, cell_below hb i3, cell_below hb z0, cell_below hb z1, cell_below hb cq⟩
    clear hb
    refine hK.out _ _ SU (fun hHeld => ?_)
    clear hK K
    try simp only [Act.put, List.setIfInBounds_toArray, List.set]
    refine wpAnyH_ready (rs := [21]) (by kernel_rfl) (by simp) ?_
    refine AllReadyH.cons rfl (fun K hK => ?_) AllReadyH.nil
    go_simp
    refine (setRegister Z b1 o1 _ k1 d pc y (Wrd.wdo q x zz) u su0 su1 ld' suy fu hne p0 p1).mono ?_
    rintro e u2 ⟨rfl, rfl⟩
    have SV : (u.setCell ⟨b1, o1 + d, none⟩ (.int .i64 (Wrd.wdo q x zz))).cell? ⟨w.heap.size, 0, none⟩ = some (.int .i64 (q + 2)) ∧ (u.setCell ⟨b1, o1 + d, none⟩ (.int .i64 (Wrd.wdo q x zz))).cell? ⟨w.heap.size, 1, none⟩ = some (.int .i64 d) ∧ (u.setCell ⟨b1, o1 + d, none⟩ (.int .i64 (Wrd.wdo q x zz))).cell? ⟨w.heap.size, 2, none⟩ = some (.int .i64 a) ∧ (u.setCell ⟨b1, o1 + d, none⟩ (.int .i64 (Wrd.wdo q x zz))).cell? ⟨w.heap.size, 3, none⟩ = some (.int .i64 k) ∧ (u.setCell ⟨b1, o1 + d, none⟩ (.int .i64 (Wrd.wdo q x zz))).cell? ⟨Z, 0, none⟩ = some (.slice (some ⟨b1, o1, none⟩) regs.length k1) ∧ (u.setCell ⟨b1, o1 + d, none⟩ (.int .i64 (Wrd.wdo q x zz))).cell? ⟨Z, 1, none⟩ = some (.int .i64 pc) ∧ (u.setCell ⟨b1, o1 + d, none⟩ (.int .i64 (Wrd.wdo q x zz))).cell? ⟨cb, 0, none⟩ = some (.int .i64 q) := ⟨far SU.1 (Ne.symm nI1), far SU.2.1 (Ne.symm nI1), far SU.2.2.1 (Ne.symm nI1), far SU.2.2.2.1 (Ne.symm nI1), far SU.2.2.2.2.1 hne, far SU.2.2.2.2.2.1 hne, far SU.2.2.2.2.2.2 ncb⟩
    refine hK.out _ _ SV (fun hHeld => ?_)
    clear hK K
    try simp only [Act.put, List.setIfInBounds_toArray, List.set]
    refine wpAnyH_take (i := 22) (v := ?_) rfl (by kernel_rfl) (by kernel_rfl) (by kernel_rfl) (fun _ _ _ h => h) (Or.inl ⟨by rfl, ?_⟩) hHeld ?_
    rotate_left
    · intro w' hSw
      (try dsimp only at hSw)
      go_simp
      first | done | with_reducible rfl
    try simp only [Act.put, List.setIfInBounds_toArray, List.set]
    refine wpAnyH_done (by kernel_rfl) ?_ _
    obtain ⟨PN, KN⟩ := PM.setReg (m := ⟨regs, pc, mem, save, lets, waits, halt, ins, outs, count⟩) PU.out CU.out HA.out d (Wrd.wdo q x zz) ld
    have PN' := hide PN
    have KN' := hide (KU.out.trans KN)
    have EN : Hid (nextM ⟨regs.set d (Wrd.wdo q x zz), pc, mem, save, lets, waits, halt, ins, outs, count⟩ ((pc + 1) % 65536) = doM ⟨regs, pc, mem, save, lets, waits, halt, ins, outs, count⟩ (q + 2) d a k) := show _ = _ by
      rw [HD.out]
      exact set_of ⟨regs, pc, mem, save, lets, waits, halt, ins, outs, count⟩ d (Wrd.wdo q x zz)
    have q0 : Hid (0 ≤ (pc + 1) % 65536 ∧ (pc + 1) % 65536 < 65536) := by show _ ∧ _; omega
    clear PN KN PU CU KU PBd PCd KVd HD DO EY0 SS SU SV cq cz su0 su1 suy fu cy z0 z1 i0 i1 i2 i3 hHeld
    go_wp2
    go_ret
    exact Or.inl ⟨_, _, rfl, PN'.out, KN'.out, q0.out.1, q0.out.2, ⟨c0, c1⟩, EN.out⟩
  · refine wpAnyH_ready (rs := [11]) (by kernel_rfl) (by simp) ?_
    refine AllReadyH.cons rfl (fun K hK => ?_) AllReadyH.nil
    go_simp
    refine hK.out _ _ hHeld (fun hHeld => ?_)
    clear hK K
    try simp only [Act.put, List.setIfInBounds_toArray, List.set]
    refine wpAnyH_ready (rs := [20]) (by kernel_rfl) (by simp) ?_
    refine AllReadyH.cons rfl (fun K hK => ?_) AllReadyH.nil
    go_simp
    refine DO.out.mono ?_
    rintro e u ⟨rfl, hb⟩
    have su0 := cell_below hb z0
    have su1 := cell_below hb z1
    have suy := cell_below hb cy
    have PU := hide (PBd.out.below hb)
    have CU := hide (PCd.out.below hb)
    have KU := hide (KVd.out.trans (Keep.of_below hb))
    have fu := (row_at (CMach.parts (m := ⟨regs, pc, mem, save, lets, waits, halt, ins, outs, count⟩) CU.out).1 EY0.out).2
    have SU : u.cell? ⟨w.heap.size, 0, none⟩ = some (.int .i64 (q + 2)) ∧ u.cell? ⟨w.heap.size, 1, none⟩ = some (.int .i64 d) ∧ u.cell? ⟨w.heap.size, 2, none⟩ = some (.int .i64 a) ∧ u.cell? ⟨w.heap.size, 3, none⟩ = some (.int .i64 k) ∧ u.cell? ⟨Z, 0, none⟩ = some (.slice (some ⟨b1, o1, none⟩) regs.length k1) ∧ u.cell? ⟨Z, 1, none⟩ = some (.int .i64 pc) ∧ u.cell? ⟨cb, 0, none⟩ = some (.int .i64 q) := ⟨cell_below hb i0, cell_below hb i1, cell_below hb i2, cell_below hb i3, cell_below hb z0, cell_below hb z1, cell_below hb cq⟩
    clear hb
    refine hK.out _ _ SU (fun hHeld => ?_)
    clear hK K
    try simp only [Act.put, List.setIfInBounds_toArray, List.set]
    refine wpAnyH_ready (rs := [21]) (by kernel_rfl) (by simp) ?_
    refine AllReadyH.cons rfl (fun K hK => ?_) AllReadyH.nil
    go_simp
    refine (setRegister Z b1 o1 _ k1 d pc y (Wrd.wdo q x zz) u su0 su1 ld' suy fu hne p0 p1).mono ?_
    rintro e u2 ⟨rfl, rfl⟩
    have SV : (u.setCell ⟨b1, o1 + d, none⟩ (.int .i64 (Wrd.wdo q x zz))).cell? ⟨w.heap.size, 0, none⟩ = some (.int .i64 (q + 2)) ∧ (u.setCell ⟨b1, o1 + d, none⟩ (.int .i64 (Wrd.wdo q x zz))).cell? ⟨w.heap.size, 1, none⟩ = some (.int .i64 d) ∧ (u.setCell ⟨b1, o1 + d, none⟩ (.int .i64 (Wrd.wdo q x zz))).cell? ⟨w.heap.size, 2, none⟩ = some (.int .i64 a) ∧ (u.setCell ⟨b1, o1 + d, none⟩ (.int .i64 (Wrd.wdo q x zz))).cell? ⟨w.heap.size, 3, none⟩ = some (.int .i64 k) ∧ (u.setCell ⟨b1, o1 + d, none⟩ (.int .i64 (Wrd.wdo q x zz))).cell? ⟨Z, 0, none⟩ = some (.slice (some ⟨b1, o1, none⟩) regs.length k1) ∧ (u.setCell ⟨b1, o1 + d, none⟩ (.int .i64 (Wrd.wdo q x zz))).cell? ⟨Z, 1, none⟩ = some (.int .i64 pc) ∧ (u.setCell ⟨b1, o1 + d, none⟩ (.int .i64 (Wrd.wdo q x zz))).cell? ⟨cb, 0, none⟩ = some (.int .i64 q) := ⟨far SU.1 (Ne.symm nI1), far SU.2.1 (Ne.symm nI1), far SU.2.2.1 (Ne.symm nI1), far SU.2.2.2.1 (Ne.symm nI1), far SU.2.2.2.2.1 hne, far SU.2.2.2.2.2.1 hne, far SU.2.2.2.2.2.2 ncb⟩
    refine hK.out _ _ SV (fun hHeld => ?_)
    clear hK K
    try simp only [Act.put, List.setIfInBounds_toArray, List.set]
    refine wpAnyH_take (i := 22) (v := ?_) rfl (by kernel_rfl) (by kernel_rfl) (by kernel_rfl) (fun _ _ _ h => h) (Or.inl ⟨by rfl, ?_⟩) hHeld ?_
    rotate_left
    · intro w' hSw
      (try dsimp only at hSw)
      go_simp
      first | done | with_reducible rfl
    try simp only [Act.put, List.setIfInBounds_toArray, List.set]
    refine wpAnyH_done (by kernel_rfl) ?_ _
    obtain ⟨PN, KN⟩ := PM.setReg (m := ⟨regs, pc, mem, save, lets, waits, halt, ins, outs, count⟩) PU.out CU.out HA.out d (Wrd.wdo q x zz) ld
    have PN' := hide PN
    have KN' := hide (KU.out.trans KN)
    have EN : Hid (nextM ⟨regs.set d (Wrd.wdo q x zz), pc, mem, save, lets, waits, halt, ins, outs, count⟩ ((pc + 1) % 65536) = doM ⟨regs, pc, mem, save, lets, waits, halt, ins, outs, count⟩ (q + 2) d a k) := show _ = _ by
      rw [HD.out]
      exact set_of ⟨regs, pc, mem, save, lets, waits, halt, ins, outs, count⟩ d (Wrd.wdo q x zz)
    have q0 : Hid (0 ≤ (pc + 1) % 65536 ∧ (pc + 1) % 65536 < 65536) := by show _ ∧ _; omega
    clear PN KN PU CU KU PBd PCd KVd HD DO EY0 SS SU SV cq cz su0 su1 suy fu cy z0 z1 i0 i1 i2 i3 hHeld
    go_wp2
    go_ret
    exact Or.inl ⟨_, _, rfl, PN'.out, KN'.out, q0.out.1, q0.out.2, ⟨c0, c1⟩, EN.out⟩
theorem pow_small {k : Nat} (h : k ≤ 15) : (2 ^ k : Nat) < 65536 := Nat.lt_of_le_of_lt (Nat.pow_le_pow_right (by omega) h) (by omega)
theorem wrap_pow {k : Nat} (h : k ≤ 15) : IntKind.i64.wrap (2 ^ k) = ((2 ^ k : Nat) : Int) := by
  have e : (2 : Int) ^ k = ((2 ^ k : Nat) : Int) := by simp
  rw [e]
  have hp := pow_small h
  generalize (2 ^ k : Nat) = p at *
  simp [IntKind.wrap, IntKind.bits, IntKind.signed]
  omega
theorem shift_mul (x : Int) (h0 : 0 ≤ x) (h1 : x < 65536) : ∀ k : Nat, shiftN x k = x * ((2 ^ k : Nat) : Int) % 65536
  | 0 => by
    show x = x * 1 % 65536
    omega
  | k + 1 => by
    have ih := shift_mul x h0 h1 k
    unfold shiftN
    rw [ih, Nat.pow_succ]
    generalize (2 ^ k : Nat) = p
    have e : x * ((p * 2 : Nat) : Int) = x * (p : Int) + x * (p : Int) := by
      rw [Int.natCast_mul, ← Int.mul_assoc]
      generalize x * (p : Int) = y
      omega
    rw [e]
    generalize x * (p : Int) = y
    omega
theorem shift_do {x : Int} {k : Nat} (h0 : 0 ≤ x) (h1 : x < 65536) (hk : k ≤ 15) : Wrd.wdo 3 x ((2 ^ k : Nat) : Int) = shiftN x k := by
  have hp := pow_small hk
  rw [shift_mul x h0 h1 k]
  generalize (2 ^ k : Nat) = p at *
  exact Wrd.wdo3 ⟨h0, h1⟩ ⟨by omega, by omega⟩
set_option maxRecDepth 8000 in
set_option maxHeartbeats 4000000 in
theorem deed_8 (A : Nat → Prop) (Z : Nat) (m : M) (d a : Nat) (k : Nat) (w : World) (h : PM A w Z m) (hf : Fit m) (hd : d < 4) (ha : a < 4) (hk : k ≤ 15) :
    Calls Tryz.prog 63 #[.pointer (some ⟨Z, 0, none⟩), .agg #[.int .i64 8, .int .i64 d, .int .i64 a, .int .i64 k]] w (Deed A Z w (doM m 8 d a k)) := by
  obtain ⟨b1, o1, k1, b2, o2, k2, b3, o3, k3, b4, k4, hB0, hC0, hA⟩ := h
  obtain ⟨regs, pc, mem, save, lets, waits, halt, ins, outs, count⟩ := m
  obtain ⟨r4, m64, rw_, mw_, p0, p1, c0, c1⟩ := hf
  have la : a < regs.length := by rw [show regs.length = 4 from r4]; exact ha
  have ld : d < regs.length := by rw [show regs.length = 4 from r4]; exact hd
  have la' : ((a : Nat) : Int) < (regs.length : Int) := by omega
  have ld' : ((d : Nat) : Int) < (regs.length : Int) := by omega
  have R4 := hide r4
  have M64 := hide m64
  have bV : Below w.heap.size w (w.alloc (.cells #[.int .i64 8, .int .i64 d, .int .i64 a, .int .i64 k] 38)) := (Below.refl _ _).alloc (Nat.le_refl _) _
  have hB := hB0.below bV
  have hC := hC0.below bV
  have I := hide (Box.new w [.int .i64 8, .int .i64 d, .int .i64 a, .int .i64 k] 38)
  have KV := hide (Keep.of_below (S := Grip A Z) bV)
  obtain ⟨x, ex⟩ : ∃ x, regs[a]? = some x := ⟨_, List.getElem?_eq_getElem la⟩
  obtain ⟨y, ey⟩ : ∃ y, regs[d]? = some y := ⟨_, List.getElem?_eq_getElem ld⟩
  have bx := rw_ a x ex
  have by_ := rw_ d y ey
  have GX := hide (getD_of ex)
  have GY := hide (getD_of ey)
  obtain ⟨cx, fx⟩ := row_at hC.parts.1 ex
  obtain ⟨cy, fy⟩ := row_at hC.parts.1 ey
  have hne : b1 ≠ Z := fun e => (hB.t.ne hC.parts.2.2.2.2.2.2.1.t mach_int) e.symm
  have HA := hide hA
  have nI : Hid (w.heap.size ≠ Z) := by have := hB0.r.lt; show _ ≠ _; omega
  have EY0 := hide ey
  clear hB0 hC0 r4 m64 hA
  simp only [mv] at *
  go_enter Tryz.func63, Tryz.ntmps63
  go_wp2_with fail
  generalize w.alloc (.cells #[.int .i64 8, .int .i64 d, .int .i64 a, .int .i64 k] 38) = V at *
  have PB := hide hB
  have PC := hide hC
  clear hB hC bV
  have z0 := PB.out.r.cell 0 _ rfl
  have z1 := PB.out.r.cell 1 _ rfl
  have i0 := I.out.r.cell 0 _ rfl
  have i1 := I.out.r.cell 1 _ rfl
  have i2 := I.out.r.cell 2 _ rfl
  have i3 := I.out.r.cell 3 _ rfl
  obtain ⟨p, sx, WP, WS, ES⟩ : ∃ (p : Nat) (sx : Int), IntKind.i64.wrap (2 ^ k) = (p : Int) ∧ Wrd.wdo 3 x (p : Int) = sx ∧ shiftN x k = sx := ⟨2 ^ k, shiftN x k, wrap_pow hk, shift_do bx.1 bx.2 hk, rfl⟩
  have WPH := hide WP
  have WSH := hide WS
  have ESH := hide ES
  clear WP WS ES
  have nI1 : w.heap.size ≠ b1 := I.out.t.ne (CMach.parts (m := ⟨regs, pc, mem, save, lets, waits, halt, ins, outs, count⟩) PC.out).2.2.2.2.2.2.1.t ins_int
  have DO := hide (Wrd.implDo 3 x (p : Int) V.drew)
  have HD : Hid (doM ⟨regs, pc, mem, save, lets, waits, halt, ins, outs, count⟩ 8 d a k = setM ⟨regs, pc, mem, save, lets, waits, halt, ins, outs, count⟩ d sx) := show _ = _ by unfold doM; simp; rw [← List.getD_eq_getElem?_getD, GX.out, ESH.out]
  have SS : V.drew.cell? ⟨w.heap.size, 0, none⟩ = some (.int .i64 8) ∧ V.drew.cell? ⟨w.heap.size, 1, none⟩ = some (.int .i64 d) ∧ V.drew.cell? ⟨w.heap.size, 2, none⟩ = some (.int .i64 a) ∧ V.drew.cell? ⟨w.heap.size, 3, none⟩ = some (.int .i64 k) ∧ V.drew.cell? ⟨Z, 0, none⟩ = some (.slice (some ⟨b1, o1, none⟩) regs.length k1) ∧ V.drew.cell? ⟨Z, 1, none⟩ = some (.int .i64 pc) := ⟨i0, i1, i2, i3, z0, z1⟩
  have PBd := hide (Box.drew PB.out)
  have PCd := hide (CMach.drewN PC.out 1)
  have KVd := hide (Keep.drew KV.out)
  clear rw_ mw_ PB PC KV I R4 M64 GX GY nI by_ fx fy hd ha
  refine wp_region_held_drew (S := fun v => (v.cell? ⟨w.heap.size, 0, none⟩ = some (.int .i64 8) ∧ v.cell? ⟨w.heap.size, 1, none⟩ = some (.int .i64 d) ∧ v.cell? ⟨w.heap.size, 2, none⟩ = some (.int .i64 a) ∧ v.cell? ⟨w.heap.size, 3, none⟩ = some (.int .i64 k) ∧ v.cell? ⟨Z, 0, none⟩ = some (.slice (some ⟨b1, o1, none⟩) regs.length k1) ∧ v.cell? ⟨Z, 1, none⟩ = some (.int .i64 pc))) (by kernel_rfl) SS (fun hHeld => ?_)
  refine wpAnyH_take (i := 0) (v := ?_) rfl (by kernel_rfl) (by kernel_rfl) (by kernel_rfl) (fun _ _ _ h => h) (Or.inl ⟨by rfl, ?_⟩) hHeld ?_
  rotate_left
  · intro w' hSw
    (try dsimp only at hSw)
    go_simp
    first | done | with_reducible rfl
  try simp only [Act.put, List.setIfInBounds_toArray, List.set]
  refine wpAnyH_take (i := 1) (v := ?_) rfl (by kernel_rfl) (by kernel_rfl) (by kernel_rfl) (fun _ _ _ h => h) (Or.inl ⟨by rfl, ?_⟩) hHeld ?_
  rotate_left
  · intro w' hSw
    (try dsimp only at hSw)
    go_simp
    first | done | with_reducible rfl
  try simp only [Act.put, List.setIfInBounds_toArray, List.set]
  refine wpAnyH_take (i := 2) (v := ?_) rfl (by kernel_rfl) (by kernel_rfl) (by kernel_rfl) (fun _ _ _ h => h) (Or.inl ⟨by rfl, ?_⟩) hHeld ?_
  rotate_left
  · intro w' hSw
    (try dsimp only at hSw)
    go_simp
    first | done | with_reducible rfl
  try simp only [Act.put, List.setIfInBounds_toArray, List.set]
  refine wpAnyH_take (i := 3) (v := ?_) rfl (by kernel_rfl) (by kernel_rfl) (by kernel_rfl) (fun _ _ _ h => h) (Or.inl ⟨by rfl, ?_⟩) hHeld ?_
  rotate_left
  · intro w' hSw
    (try dsimp only at hSw)
    go_simp
    first | done | with_reducible rfl
  try simp only [Act.put, List.setIfInBounds_toArray, List.set]
  refine wpAnyH_take (i := 4) (v := ?_) rfl (by kernel_rfl) (by kernel_rfl) (by kernel_rfl) (fun _ _ _ h => h) (Or.inl ⟨by rfl, ?_⟩) hHeld ?_
  rotate_left
  · intro w' hSw
    (try dsimp only at hSw)
    go_simp
    first | done | with_reducible rfl
  try simp only [Act.put, List.setIfInBounds_toArray, List.set]
  refine wpAnyH_take (i := 5) (v := ?_) rfl (by kernel_rfl) (by kernel_rfl) (by kernel_rfl) (fun _ _ _ h => h) (Or.inl ⟨by rfl, ?_⟩) hHeld ?_
  rotate_left
  · intro w' hSw
    (try dsimp only at hSw)
    go_simp
    first | done | with_reducible rfl
  try simp only [Act.put, List.setIfInBounds_toArray, List.set]
  refine wpAnyH_take (i := 6) (v := ?_) rfl (by kernel_rfl) (by kernel_rfl) (by kernel_rfl) (fun _ _ _ h => h) (Or.inl ⟨by rfl, ?_⟩) hHeld ?_
  rotate_left
  · intro w' hSw
    (try dsimp only at hSw)
    go_simp
    first | done | with_reducible rfl
  try simp only [Act.put, List.setIfInBounds_toArray, List.set]
  refine wpAnyH_take (i := 7) (v := ?_) rfl (by kernel_rfl) (by kernel_rfl) (by kernel_rfl) (fun _ _ _ h => h) (Or.inl ⟨by rfl, ?_⟩) hHeld ?_
  rotate_left
  · intro w' hSw
    (try dsimp only at hSw)
    go_simp
    first | done | with_reducible rfl
  try simp only [Act.put, List.setIfInBounds_toArray, List.set]
  refine wpAnyH_take (i := 8) (v := ?_) rfl (by kernel_rfl) (by kernel_rfl) (by kernel_rfl) (fun _ _ _ h => h) (Or.inl ⟨by rfl, ?_⟩) hHeld ?_
  rotate_left
  · intro w' hSw
    (try dsimp only at hSw)
    go_simp
    first | done | with_reducible rfl
  try simp only [Act.put, List.setIfInBounds_toArray, List.set]
  refine wpAnyH_take (i := 9) (v := ?_) rfl (by kernel_rfl) (by kernel_rfl) (by kernel_rfl) (fun _ _ _ h => h) (Or.inl ⟨by rfl, ?_⟩) hHeld ?_
  rotate_left
  · intro w' hSw
    (try dsimp only at hSw)
    go_simp
    first | done | with_reducible rfl
  try simp only [Act.put, List.setIfInBounds_toArray, List.set]
  refine wpAnyH_take (i := 11) (v := ?_) rfl (by kernel_rfl) (by kernel_rfl) (by kernel_rfl) (fun _ _ _ h => h) (Or.inl ⟨by rfl, ?_⟩) hHeld ?_
  rotate_left
  · intro w' hSw
    (try dsimp only at hSw)
    go_simp
    first | done | with_reducible rfl
  try simp only [Act.put, List.setIfInBounds_toArray, List.set]
  refine wpAnyH_take (i := 12) (v := ?_) rfl (by kernel_rfl) (by kernel_rfl) (by kernel_rfl) (fun _ _ _ h => h) (Or.inl ⟨by rfl, ?_⟩) hHeld ?_
  rotate_left
  · intro w' hSw
    (try dsimp only at hSw)
    go_simp
    first | done | with_reducible rfl
  try simp only [Act.put, List.setIfInBounds_toArray, List.set]
  refine wpAnyH_take (i := 13) (v := .int .i64 (p : Int)) rfl (by kernel_rfl) (by kernel_rfl) (by kernel_rfl) (fun _ _ _ h => h) (Or.inl ⟨by rfl, ?_⟩) hHeld ?_
  · intro w' hSw
    clear hSw hHeld SS
    go_simp
    first | done | exact WPH.out
  try simp only [Act.put, List.setIfInBounds_toArray, List.set]
  rw [WSH.out] at DO
  clear WPH WSH ESH
  refine wpAnyH_ready (rs := [10]) (by kernel_rfl) (by simp) ?_
  refine AllReadyH.cons rfl (fun K hK => ?_) AllReadyH.nil
  go_simp

  refine hK.out _ _ hHeld (fun hHeld => ?_)
  clear hK K
  try simp only [Act.put, List.setIfInBounds_toArray, List.set]
  refine wpAnyH_ready (rs := [14]) (by kernel_rfl) (by simp) ?_
  refine AllReadyH.cons rfl (fun K hK => ?_) AllReadyH.nil
  go_simp
  refine DO.out.mono ?_
  rintro e u ⟨rfl, hb⟩
  have su0 := cell_below hb z0
  have su1 := cell_below hb z1
  have suy := cell_below hb cy
  have PU := hide (PBd.out.below hb)
  have CU := hide (PCd.out.below hb)
  have KU := hide (KVd.out.trans (Keep.of_below hb))
  have fu := (row_at (CMach.parts (m := ⟨regs, pc, mem, save, lets, waits, halt, ins, outs, count⟩) CU.out).1 EY0.out).2
  have SU : u.cell? ⟨w.heap.size, 0, none⟩ = some (.int .i64 8) ∧ u.cell? ⟨w.heap.size, 1, none⟩ = some (.int .i64 d) ∧ u.cell? ⟨w.heap.size, 2, none⟩ = some (.int .i64 a) ∧ u.cell? ⟨w.heap.size, 3, none⟩ = some (.int .i64 k) ∧ u.cell? ⟨Z, 0, none⟩ = some (.slice (some ⟨b1, o1, none⟩) regs.length k1) ∧ u.cell? ⟨Z, 1, none⟩ = some (.int .i64 pc) := ⟨cell_below hb i0, cell_below hb i1, cell_below hb i2, cell_below hb i3, cell_below hb z0, cell_below hb z1⟩
  clear hb
  refine hK.out _ _ SU (fun hHeld => ?_)
  clear hK K
  try simp only [Act.put, List.setIfInBounds_toArray, List.set]
  refine wpAnyH_ready (rs := [15]) (by kernel_rfl) (by simp) ?_
  refine AllReadyH.cons rfl (fun K hK => ?_) AllReadyH.nil
  go_simp
  refine (setRegister Z b1 o1 _ k1 d pc y sx u su0 su1 ld' suy fu hne p0 p1).mono ?_
  rintro e u2 ⟨rfl, rfl⟩
  have SV : (u.setCell ⟨b1, o1 + d, none⟩ (.int .i64 sx)).cell? ⟨w.heap.size, 0, none⟩ = some (.int .i64 8) ∧ (u.setCell ⟨b1, o1 + d, none⟩ (.int .i64 sx)).cell? ⟨w.heap.size, 1, none⟩ = some (.int .i64 d) ∧ (u.setCell ⟨b1, o1 + d, none⟩ (.int .i64 sx)).cell? ⟨w.heap.size, 2, none⟩ = some (.int .i64 a) ∧ (u.setCell ⟨b1, o1 + d, none⟩ (.int .i64 sx)).cell? ⟨w.heap.size, 3, none⟩ = some (.int .i64 k) ∧ (u.setCell ⟨b1, o1 + d, none⟩ (.int .i64 sx)).cell? ⟨Z, 0, none⟩ = some (.slice (some ⟨b1, o1, none⟩) regs.length k1) ∧ (u.setCell ⟨b1, o1 + d, none⟩ (.int .i64 sx)).cell? ⟨Z, 1, none⟩ = some (.int .i64 pc) := ⟨far SU.1 (Ne.symm nI1), far SU.2.1 (Ne.symm nI1), far SU.2.2.1 (Ne.symm nI1), far SU.2.2.2.1 (Ne.symm nI1), far SU.2.2.2.2.1 hne, far SU.2.2.2.2.2 hne⟩
  refine hK.out _ _ SV (fun hHeld => ?_)
  clear hK K
  try simp only [Act.put, List.setIfInBounds_toArray, List.set]
  refine wpAnyH_take (i := 16) (v := ?_) rfl (by kernel_rfl) (by kernel_rfl) (by kernel_rfl) (fun _ _ _ h => h) (Or.inl ⟨by rfl, ?_⟩) hHeld ?_
  rotate_left
  · intro w' hSw
    (try dsimp only at hSw)
    go_simp
    first | done | with_reducible rfl
  try simp only [Act.put, List.setIfInBounds_toArray, List.set]
  refine wpAnyH_done (by kernel_rfl) ?_ _
  obtain ⟨PN, KN⟩ := PM.setReg (m := ⟨regs, pc, mem, save, lets, waits, halt, ins, outs, count⟩) PU.out CU.out HA.out d sx ld
  have PN' := hide PN
  have KN' := hide (KU.out.trans KN)
  have EN : Hid (nextM ⟨regs.set d sx, pc, mem, save, lets, waits, halt, ins, outs, count⟩ ((pc + 1) % 65536) = doM ⟨regs, pc, mem, save, lets, waits, halt, ins, outs, count⟩ 8 d a k) := show _ = _ by
    rw [HD.out]
    exact set_of ⟨regs, pc, mem, save, lets, waits, halt, ins, outs, count⟩ d sx
  have q0 : Hid (0 ≤ (pc + 1) % 65536 ∧ (pc + 1) % 65536 < 65536) := by show _ ∧ _; omega
  clear PN KN PU CU KU PBd PCd KVd HD DO EY0 SS SU SV su0 su1 suy fu cy z0 z1 i0 i1 i2 i3 hHeld
  go_wp2
  go_ret
  exact Or.inl ⟨_, _, rfl, PN'.out, KN'.out, q0.out.1, q0.out.2, ⟨c0, c1⟩, EN.out⟩
end Go.Proofs.YtnhpmbhphbphaaaGreat.MchI
