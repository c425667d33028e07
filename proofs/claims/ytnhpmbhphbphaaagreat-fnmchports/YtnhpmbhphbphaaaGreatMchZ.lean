/-
  The program's deeds that let a word in, and that stop.
-/
import Derived.Test.YtnhpmbhphbphaaaGreatMchY
namespace Go.Proofs.YtnhpmbhphbphaaaGreat.MchI
set_option linter.unusedSimpArgs false
set_option linter.unusedVariables false
open Go.ChangeShapes Go.WideShapes Go.ChangeAt Go.RowKit IntS Mch
theorem letIn_none (Z k3 : Nat) (q : Option Addr) (w : World) (z7 : w.cell? ⟨Z, 7, none⟩ = some (.slice q 0 k3)) :
    Calls Tryz.prog 72 #[.pointer (some ⟨Z, 0, none⟩)] w fun e w' => e = .returned (.int .i64 0) ∧ w' = w := by
  go_enter Tryz.func72, Tryz.ntmps72
  go_wp2
  go_ret
  exact ⟨rfl, rfl⟩
theorem letIn_one (Z b3 o3 : Nat) (x : Int) (w : World) (z7 : w.cell? ⟨Z, 7, none⟩ = some (.slice (some ⟨b3, o3, none⟩) 1 1)) (y7 : w.frozen? ⟨Z, 7, none⟩ = false) (cx : w.cell? ⟨b3, o3, none⟩ = some (.int .i64 x)) :
    Calls Tryz.prog 72 #[.pointer (some ⟨Z, 0, none⟩)] w fun e w' => e = .returned (.int .i64 x) ∧ w' = w.setCell ⟨Z, 7, none⟩ (.slice (some ⟨b3, o3, none⟩) 0 0) := by
  go_enter Tryz.func72, Tryz.ntmps72
  go_wp2
  go_ret
  exact ⟨rfl, rfl⟩
theorem letIn_more (Z b3 o3 n k3 : Nat) (x : Int) (w : World) (z7 : w.cell? ⟨Z, 7, none⟩ = some (.slice (some ⟨b3, o3, none⟩) (n + 1) k3)) (y7 : w.frozen? ⟨Z, 7, none⟩ = false) (cx : w.cell? ⟨b3, o3, none⟩ = some (.int .i64 x)) (h1 : n + 1 ≤ k3) (h2 : k3 ≤ 9223372036854775807) (h3 : k3 ≠ 1) :
    Calls Tryz.prog 72 #[.pointer (some ⟨Z, 0, none⟩)] w fun e w' => e = .returned (.int .i64 x) ∧ w' = w.setCell ⟨Z, 7, none⟩ (.slice (some ⟨b3, o3 + 1, none⟩) n (k3 - 1)) := by
  go_enter Tryz.func72, Tryz.ntmps72
  go_wp2
  go_ret
  exact ⟨rfl, rfl⟩
set_option maxRecDepth 8000 in
set_option maxHeartbeats 4000000 in
theorem deed_15none (A : Nat → Prop) (Z : Nat) (m : M) (d a : Nat) (k : Int) (w : World) (h : PM A w Z m) (hf : Fit m) (hd : d < 4) (ha : a < 4) (he : m.ins = []) :
    Calls Tryz.prog 71 #[.pointer (some ⟨Z, 0, none⟩), .agg #[.int .i64 15, .int .i64 d, .int .i64 a, .int .i64 k]] w (Deed A Z w (doM m 15 d a k)) := by
  obtain ⟨b1, o1, k1, b2, o2, k2, b3, o3, k3, b4, k4, hB0, hC0, hA⟩ := h
  obtain ⟨regs, pc, mem, save, lets, waits, halt, ins, outs, count⟩ := m
  simp only [] at he
  subst he
  obtain ⟨r4, m64, rw_, mw_, p0, p1, c0, c1⟩ := hf
  have la : a < regs.length := by rw [show regs.length = 4 from r4]; exact ha
  have ld : d < regs.length := by rw [show regs.length = 4 from r4]; exact hd
  have la' : ((a : Nat) : Int) < (regs.length : Int) := by omega
  have ld' : ((d : Nat) : Int) < (regs.length : Int) := by omega
  have R4 := hide r4
  have M64 := hide m64
  have bV : Below w.heap.size w (w.alloc (.cells #[.int .i64 15, .int .i64 d, .int .i64 a, .int .i64 k] 38)) := (Below.refl _ _).alloc (Nat.le_refl _) _
  have hB := hB0.below bV
  have hC := hC0.below bV
  have I := hide (Box.new w [.int .i64 15, .int .i64 d, .int .i64 a, .int .i64 k] 38)
  have KV := hide (Keep.of_below (S := Grip A Z) bV)
  obtain ⟨x, ex⟩ : ∃ x, regs[a]? = some x := ⟨_, List.getElem?_eq_getElem la⟩
  obtain ⟨y, ey⟩ : ∃ y, regs[d]? = some y := ⟨_, List.getElem?_eq_getElem ld⟩
  have bx := rw_ a x ex
  have by_ := rw_ d y ey
  have GX := hide (getD_of ex)
  have GY := hide (getD_of ey)
  obtain ⟨cx, fx⟩ := row_at hC.parts.1 ex
  obtain ⟨cy, fy⟩ := row_at hC.parts.1 ey
  have hne : b1 ≠ Z := fun e => (hB.t.ne hC.parts.2.2.2.2.2.2.1.t mach_int) e.symm
  have HA := hide hA
  have nI : Hid (w.heap.size ≠ Z) := by have := hB0.r.lt; show _ ≠ _; omega
  have EY0 := hide ey
  clear hB0 hC0 r4 m64 hA
  simp only [mv, List.length_cons, List.length_nil, Nat.zero_add] at *
  go_enter Tryz.func71, Tryz.ntmps71
  go_wp2_with fail
  generalize w.alloc (.cells #[.int .i64 15, .int .i64 d, .int .i64 a, .int .i64 k] 38) = V at *
  have PB := hide hB
  have PC := hide hC
  clear hB hC bV
  have i0 := I.out.r.cell 0 _ rfl
  have i1 := I.out.r.cell 1 _ rfl
  have i2 := I.out.r.cell 2 _ rfl
  have i3 := I.out.r.cell 3 _ rfl
  have z7 := PB.out.r.cell 7 _ rfl
  have y7 := PB.out.r.soft 7
  have tI := I.out.t
  have PB1 := hide (Box.drew PB.out)
  have PC1 := hide (CMach.drewN PC.out 1)
  have KV1 := hide (Keep.drew KV.out)
  have LI := hide (letIn_none Z _ _ V.drew z7)
  have nI1 : w.heap.size ≠ b1 := I.out.t.ne (CMach.parts (m := ⟨regs, pc, mem, save, lets, waits, halt, [], outs, count⟩) PC.out).2.2.2.2.2.2.1.t ins_int
  have HD : Hid (doM ⟨regs, pc, mem, save, lets, waits, halt, [], outs, count⟩ 15 d a k = setM ⟨regs, pc, mem, save, lets, waits, halt, ([] : List Int), outs, count⟩ d 0) := show _ = _ by unfold doM inM; simp
  have SS : V.drew.cell? ⟨w.heap.size, 0, none⟩ = some (.int .i64 15) ∧ V.drew.cell? ⟨w.heap.size, 1, none⟩ = some (.int .i64 d) ∧ V.drew.cell? ⟨w.heap.size, 2, none⟩ = some (.int .i64 a) ∧ V.drew.cell? ⟨w.heap.size, 3, none⟩ = some (.int .i64 k) := ⟨i0, i1, i2, i3⟩
  have S2 : V.drew.cell? ⟨w.heap.size, 0, none⟩ = some (.int .i64 15) ∧ V.drew.cell? ⟨w.heap.size, 1, none⟩ = some (.int .i64 d) ∧ V.drew.cell? ⟨w.heap.size, 2, none⟩ = some (.int .i64 a) ∧ V.drew.cell? ⟨w.heap.size, 3, none⟩ = some (.int .i64 k) := SS
  have b0 := PB1.out.r.cell 0 _ rfl
  have b1' := PB1.out.r.cell 1 _ rfl
  obtain ⟨cyy, fyy⟩ := row_at (CMach.parts (m := ⟨regs, pc, mem, save, lets, waits, halt, ([] : List Int), outs, count⟩) PC1.out).1 EY0.out
  have SR := hide (setRegister Z b1 o1 _ k1 d pc y 0 _ b0 b1' ld' cyy fyy hne p0 p1)
  clear rw_ mw_ PB PC KV I R4 M64 GX GY nI by_ bx fx fy cx cy hd ha la z7 y7 b0 b1' cyy fyy hne tI
  refine wp_region_held_drew (S := fun v => (v.cell? ⟨w.heap.size, 0, none⟩ = some (.int .i64 15) ∧ v.cell? ⟨w.heap.size, 1, none⟩ = some (.int .i64 d) ∧ v.cell? ⟨w.heap.size, 2, none⟩ = some (.int .i64 a) ∧ v.cell? ⟨w.heap.size, 3, none⟩ = some (.int .i64 k))) (by kernel_rfl) SS (fun hHeld => ?_)
  refine wpAnyH_take (i := 0) (v := ?_) rfl (by kernel_rfl) (by kernel_rfl) (by kernel_rfl) (fun _ _ _ h => h) (Or.inl ⟨by rfl, ?_⟩) hHeld ?_
  rotate_left
  · intro w' hSw
    (try dsimp only at hSw)
    go_simp
    first | done | with_reducible rfl
  try simp only [Act.put, List.setIfInBounds_toArray, List.set]
  refine wpAnyH_take (i := 1) (v := ?_) rfl (by kernel_rfl) (by kernel_rfl) (by kernel_rfl) (fun _ _ _ h => h) (Or.inl ⟨by rfl, ?_⟩) hHeld ?_
  rotate_left
  · intro w' hSw
    (try dsimp only at hSw)
    go_simp
    first | done | with_reducible rfl
  try simp only [Act.put, List.setIfInBounds_toArray, List.set]
  refine wpAnyH_take (i := 2) (v := ?_) rfl (by kernel_rfl) (by kernel_rfl) (by kernel_rfl) (fun _ _ _ h => h) (Or.inl ⟨by rfl, ?_⟩) hHeld ?_
  rotate_left
  · intro w' hSw
    (try dsimp only at hSw)
    go_simp
    first | done | with_reducible rfl
  try simp only [Act.put, List.setIfInBounds_toArray, List.set]
  refine wpAnyH_take (i := 3) (v := ?_) rfl (by kernel_rfl) (by kernel_rfl) (by kernel_rfl) (fun _ _ _ h => h) (Or.inl ⟨by rfl, ?_⟩) hHeld ?_
  rotate_left
  · intro w' hSw
    (try dsimp only at hSw)
    go_simp
    first | done | with_reducible rfl
  try simp only [Act.put, List.setIfInBounds_toArray, List.set]
  refine wpAnyH_ready (rs := [4]) (by kernel_rfl) (by simp) ?_
  refine AllReadyH.cons rfl (fun K hK => ?_) AllReadyH.nil
  go_simp
  refine LI.out.mono ?_
  rintro e u ⟨rfl, rfl⟩
  refine hK.out _ _ S2 (fun hHeld => ?_)
  clear hK K
  try simp only [Act.put, List.setIfInBounds_toArray, List.set]
  refine wpAnyH_ready (rs := [5]) (by kernel_rfl) (by simp) ?_
  refine AllReadyH.cons rfl (fun K hK => ?_) AllReadyH.nil
  go_simp
  refine SR.out.mono ?_
  rintro e u2 ⟨rfl, rfl⟩
  have SV : (V.drew.setCell ⟨b1, o1 + d, none⟩ (.int .i64 0)).cell? ⟨w.heap.size, 0, none⟩ = some (.int .i64 15) ∧ (V.drew.setCell ⟨b1, o1 + d, none⟩ (.int .i64 0)).cell? ⟨w.heap.size, 1, none⟩ = some (.int .i64 d) ∧ (V.drew.setCell ⟨b1, o1 + d, none⟩ (.int .i64 0)).cell? ⟨w.heap.size, 2, none⟩ = some (.int .i64 a) ∧ (V.drew.setCell ⟨b1, o1 + d, none⟩ (.int .i64 0)).cell? ⟨w.heap.size, 3, none⟩ = some (.int .i64 k) := ⟨far S2.1 (Ne.symm nI1), far S2.2.1 (Ne.symm nI1), far S2.2.2.1 (Ne.symm nI1), far S2.2.2.2 (Ne.symm nI1)⟩
  refine hK.out _ _ SV (fun hHeld => ?_)
  clear hK K
  try simp only [Act.put, List.setIfInBounds_toArray, List.set]
  refine wpAnyH_take (i := 6) (v := ?_) rfl (by kernel_rfl) (by kernel_rfl) (by kernel_rfl) (fun _ _ _ h => h) (Or.inl ⟨by rfl, ?_⟩) hHeld ?_
  rotate_left
  · intro w' hSw
    (try dsimp only at hSw)
    go_simp
    first | done | with_reducible rfl
  try simp only [Act.put, List.setIfInBounds_toArray, List.set]
  refine wpAnyH_done (by kernel_rfl) ?_ _
  obtain ⟨PN, KN⟩ := PM.setReg (m := ⟨regs, pc, mem, save, lets, waits, halt, ([] : List Int), outs, count⟩) PB1.out PC1.out HA.out d 0 ld
  have PN' := hide PN
  have KN' := hide (KV1.out.trans KN)
  have EN : Hid (nextM ⟨regs.set d 0, pc, mem, save, lets, waits, halt, ([] : List Int), outs, count⟩ ((pc + 1) % 65536) = doM ⟨regs, pc, mem, save, lets, waits, halt, [], outs, count⟩ 15 d a k) := show _ = _ by
    rw [HD.out]
    exact set_of ⟨regs, pc, mem, save, lets, waits, halt, ([] : List Int), outs, count⟩ d 0
  have q0 : Hid (0 ≤ (pc + 1) % 65536 ∧ (pc + 1) % 65536 < 65536) := by show _ ∧ _; omega
  clear PN KN PB1 PC1 KV1 HD LI SR EY0 SS S2 SV i0 i1 i2 i3 hHeld
  go_wp2
  go_ret
  exact Or.inl ⟨_, _, rfl, PN'.out, KN'.out, q0.out.1, q0.out.2, ⟨c0, c1⟩, EN.out⟩
set_option maxRecDepth 8000 in
set_option maxHeartbeats 4000000 in
theorem deed_15one (A : Nat → Prop) (Z : Nat) (m : M) (d a : Nat) (k : Int) (w : World) (h : PM A w Z m) (hf : Fit m) (hd : d < 4) (ha : a < 4) (x0 : Int) (he : m.ins = [x0]) (hk3 : ∀ b1 o1 k1 b2 o2 k2 b3 o3 k3 b4 k4, Box Z 25 (mv m (.slice (some ⟨b1, o1, none⟩) m.regs.length k1) (.slice (some ⟨b2, o2, none⟩) m.mem.length k2) (.slice (some ⟨b3, o3, none⟩) m.ins.length k3) (.slice (some ⟨b4, 0, none⟩) m.outs.length k4)) w → k3 = 1) :
    Calls Tryz.prog 71 #[.pointer (some ⟨Z, 0, none⟩), .agg #[.int .i64 15, .int .i64 d, .int .i64 a, .int .i64 k]] w (Deed A Z w (doM m 15 d a k)) := by
  obtain ⟨b1, o1, k1, b2, o2, k2, b3, o3, k3, b4, k4, hB0, hC0, hA⟩ := h
  obtain ⟨regs, pc, mem, save, lets, waits, halt, ins, outs, count⟩ := m
  simp only [] at he
  subst he
  have K3 := hk3 _ _ _ _ _ _ _ _ _ _ _ hB0
  subst K3
  obtain ⟨q31, q32⟩ := ins_cap hC0
  simp only [List.length_cons] at q31
  unfold maxLen at q32
  obtain ⟨r4, m64, rw_, mw_, p0, p1, c0, c1⟩ := hf
  have la : a < regs.length := by rw [show regs.length = 4 from r4]; exact ha
  have ld : d < regs.length := by rw [show regs.length = 4 from r4]; exact hd
  have la' : ((a : Nat) : Int) < (regs.length : Int) := by omega
  have ld' : ((d : Nat) : Int) < (regs.length : Int) := by omega
  have R4 := hide r4
  have M64 := hide m64
  have bV : Below w.heap.size w (w.alloc (.cells #[.int .i64 15, .int .i64 d, .int .i64 a, .int .i64 k] 38)) := (Below.refl _ _).alloc (Nat.le_refl _) _
  have hB := hB0.below bV
  have hC := hC0.below bV
  have I := hide (Box.new w [.int .i64 15, .int .i64 d, .int .i64 a, .int .i64 k] 38)
  have KV := hide (Keep.of_below (S := Grip A Z) bV)
  obtain ⟨x, ex⟩ : ∃ x, regs[a]? = some x := ⟨_, List.getElem?_eq_getElem la⟩
  obtain ⟨y, ey⟩ : ∃ y, regs[d]? = some y := ⟨_, List.getElem?_eq_getElem ld⟩
  have bx := rw_ a x ex
  have by_ := rw_ d y ey
  have GX := hide (getD_of ex)
  have GY := hide (getD_of ey)
  obtain ⟨cx, fx⟩ := row_at hC.parts.1 ex
  obtain ⟨cy, fy⟩ := row_at hC.parts.1 ey
  have hne : b1 ≠ Z := fun e => (hB.t.ne hC.parts.2.2.2.2.2.2.1.t mach_int) e.symm
  have HA := hide hA
  have nI : Hid (w.heap.size ≠ Z) := by have := hB0.r.lt; show _ ≠ _; omega
  have EY0 := hide ey
  clear hB0 hC0 r4 m64 hA
  simp only [mv, List.length_cons, List.length_nil, Nat.zero_add] at *
  go_enter Tryz.func71, Tryz.ntmps71
  go_wp2_with fail
  generalize w.alloc (.cells #[.int .i64 15, .int .i64 d, .int .i64 a, .int .i64 k] 38) = V at *
  have PB := hide hB
  have PC := hide hC
  clear hB hC bV
  have i0 := I.out.r.cell 0 _ rfl
  have i1 := I.out.r.cell 1 _ rfl
  have i2 := I.out.r.cell 2 _ rfl
  have i3 := I.out.r.cell 3 _ rfl
  have z7 := PB.out.r.cell 7 _ rfl
  have y7 := PB.out.r.soft 7
  have tI := I.out.t
  obtain ⟨ci, _⟩ := row_at (CMach.parts (m := ⟨regs, pc, mem, save, lets, waits, halt, [x0], outs, count⟩) PC.out).2.2.1 (show ([x0] : List Int)[0]? = some x0 from rfl)
  rw [Nat.add_zero o3] at ci
  have PB1 := hide ((Box.drew PB.out).set 7 (.slice (some ⟨b3, o3, none⟩) 0 0) (by simp) rfl)
  have PC1 := hide (CMach.other (CMach.pop (o3' := o3) (k3' := 0) (CMach.drewN PC.out 1) (Or.inl rfl) (Nat.le_refl _) (by unfold maxLen; omega)) (Box.drew PB.out).t mach_int 7 (.slice (some ⟨b3, o3, none⟩) 0 0))
  have KV1 := hide ((Keep.drew KV.out).turn ((Turn.refl Z V.drew).setCell (p := ⟨Z, 7, none⟩) rfl (.slice (some ⟨b3, o3, none⟩) 0 0)) (fun j _ hn e => hn (Or.inl e)))
  have LI := hide (letIn_one Z b3 o3 x0 V.drew z7 y7 ci)
  have nI1 : w.heap.size ≠ b1 := I.out.t.ne (CMach.parts (m := ⟨regs, pc, mem, save, lets, waits, halt, [x0], outs, count⟩) PC.out).2.2.2.2.2.2.1.t ins_int
  have HD : Hid (doM ⟨regs, pc, mem, save, lets, waits, halt, [x0], outs, count⟩ 15 d a k = setM ⟨regs, pc, mem, save, lets, waits, halt, ([] : List Int), outs, count⟩ d x0) := show _ = _ by unfold doM inM; simp
  have SS : V.drew.cell? ⟨w.heap.size, 0, none⟩ = some (.int .i64 15) ∧ V.drew.cell? ⟨w.heap.size, 1, none⟩ = some (.int .i64 d) ∧ V.drew.cell? ⟨w.heap.size, 2, none⟩ = some (.int .i64 a) ∧ V.drew.cell? ⟨w.heap.size, 3, none⟩ = some (.int .i64 k) := ⟨i0, i1, i2, i3⟩
  have S2 : (V.drew.setCell ⟨Z, 7, none⟩ (.slice (some ⟨b3, o3, none⟩) 0 0)).cell? ⟨w.heap.size, 0, none⟩ = some (.int .i64 15) ∧ (V.drew.setCell ⟨Z, 7, none⟩ (.slice (some ⟨b3, o3, none⟩) 0 0)).cell? ⟨w.heap.size, 1, none⟩ = some (.int .i64 d) ∧ (V.drew.setCell ⟨Z, 7, none⟩ (.slice (some ⟨b3, o3, none⟩) 0 0)).cell? ⟨w.heap.size, 2, none⟩ = some (.int .i64 a) ∧ (V.drew.setCell ⟨Z, 7, none⟩ (.slice (some ⟨b3, o3, none⟩) 0 0)).cell? ⟨w.heap.size, 3, none⟩ = some (.int .i64 k) := ⟨far i0 (Ne.symm nI.out), far i1 (Ne.symm nI.out), far i2 (Ne.symm nI.out), far i3 (Ne.symm nI.out)⟩
  have b0 := PB1.out.r.cell 0 _ rfl
  have b1' := PB1.out.r.cell 1 _ rfl
  obtain ⟨cyy, fyy⟩ := row_at (CMach.parts (m := ⟨regs, pc, mem, save, lets, waits, halt, ([] : List Int), outs, count⟩) PC1.out).1 EY0.out
  have SR := hide (setRegister Z b1 o1 _ k1 d pc y x0 _ b0 b1' ld' cyy fyy hne p0 p1)
  clear rw_ mw_ PB PC KV I R4 M64 GX GY nI by_ bx fx fy cx cy hd ha la z7 y7 b0 b1' cyy fyy hne tI ci q31 q32 hk3
  refine wp_region_held_drew (S := fun v => (v.cell? ⟨w.heap.size, 0, none⟩ = some (.int .i64 15) ∧ v.cell? ⟨w.heap.size, 1, none⟩ = some (.int .i64 d) ∧ v.cell? ⟨w.heap.size, 2, none⟩ = some (.int .i64 a) ∧ v.cell? ⟨w.heap.size, 3, none⟩ = some (.int .i64 k))) (by kernel_rfl) SS (fun hHeld => ?_)
  refine wpAnyH_take (i := 0) (v := ?_) rfl (by kernel_rfl) (by kernel_rfl) (by kernel_rfl) (fun _ _ _ h => h) (Or.inl ⟨by rfl, ?_⟩) hHeld ?_
  rotate_left
  · intro w' hSw
    (try dsimp only at hSw)
    go_simp
    first | done | with_reducible rfl
  try simp only [Act.put, List.setIfInBounds_toArray, List.set]
  refine wpAnyH_take (i := 1) (v := ?_) rfl (by kernel_rfl) (by kernel_rfl) (by kernel_rfl) (fun _ _ _ h => h) (Or.inl ⟨by rfl, ?_⟩) hHeld ?_
  rotate_left
  · intro w' hSw
    (try dsimp only at hSw)
    go_simp
    first | done | with_reducible rfl
  try simp only [Act.put, List.setIfInBounds_toArray, List.set]
  refine wpAnyH_take (i := 2) (v := ?_) rfl (by kernel_rfl) (by kernel_rfl) (by kernel_rfl) (fun _ _ _ h => h) (Or.inl ⟨by rfl, ?_⟩) hHeld ?_
  rotate_left
  · intro w' hSw
    (try dsimp only at hSw)
    go_simp
    first | done | with_reducible rfl
  try simp only [Act.put, List.setIfInBounds_toArray, List.set]
  refine wpAnyH_take (i := 3) (v := ?_) rfl (by kernel_rfl) (by kernel_rfl) (by kernel_rfl) (fun _ _ _ h => h) (Or.inl ⟨by rfl, ?_⟩) hHeld ?_
  rotate_left
  · intro w' hSw
    (try dsimp only at hSw)
    go_simp
    first | done | with_reducible rfl
  try simp only [Act.put, List.setIfInBounds_toArray, List.set]
  refine wpAnyH_ready (rs := [4]) (by kernel_rfl) (by simp) ?_
  refine AllReadyH.cons rfl (fun K hK => ?_) AllReadyH.nil
  go_simp
  refine LI.out.mono ?_
  rintro e u ⟨rfl, rfl⟩
  refine hK.out _ _ S2 (fun hHeld => ?_)
  clear hK K
  try simp only [Act.put, List.setIfInBounds_toArray, List.set]
  refine wpAnyH_ready (rs := [5]) (by kernel_rfl) (by simp) ?_
  refine AllReadyH.cons rfl (fun K hK => ?_) AllReadyH.nil
  go_simp
  refine SR.out.mono ?_
  rintro e u2 ⟨rfl, rfl⟩
  have SV : ((V.drew.setCell ⟨Z, 7, none⟩ (.slice (some ⟨b3, o3, none⟩) 0 0)).setCell ⟨b1, o1 + d, none⟩ (.int .i64 x0)).cell? ⟨w.heap.size, 0, none⟩ = some (.int .i64 15) ∧ ((V.drew.setCell ⟨Z, 7, none⟩ (.slice (some ⟨b3, o3, none⟩) 0 0)).setCell ⟨b1, o1 + d, none⟩ (.int .i64 x0)).cell? ⟨w.heap.size, 1, none⟩ = some (.int .i64 d) ∧ ((V.drew.setCell ⟨Z, 7, none⟩ (.slice (some ⟨b3, o3, none⟩) 0 0)).setCell ⟨b1, o1 + d, none⟩ (.int .i64 x0)).cell? ⟨w.heap.size, 2, none⟩ = some (.int .i64 a) ∧ ((V.drew.setCell ⟨Z, 7, none⟩ (.slice (some ⟨b3, o3, none⟩) 0 0)).setCell ⟨b1, o1 + d, none⟩ (.int .i64 x0)).cell? ⟨w.heap.size, 3, none⟩ = some (.int .i64 k) := ⟨far S2.1 (Ne.symm nI1), far S2.2.1 (Ne.symm nI1), far S2.2.2.1 (Ne.symm nI1), far S2.2.2.2 (Ne.symm nI1)⟩
  refine hK.out _ _ SV (fun hHeld => ?_)
  clear hK K
  try simp only [Act.put, List.setIfInBounds_toArray, List.set]
  refine wpAnyH_take (i := 6) (v := ?_) rfl (by kernel_rfl) (by kernel_rfl) (by kernel_rfl) (fun _ _ _ h => h) (Or.inl ⟨by rfl, ?_⟩) hHeld ?_
  rotate_left
  · intro w' hSw
    (try dsimp only at hSw)
    go_simp
    first | done | with_reducible rfl
  try simp only [Act.put, List.setIfInBounds_toArray, List.set]
  refine wpAnyH_done (by kernel_rfl) ?_ _
  obtain ⟨PN, KN⟩ := PM.setReg (m := ⟨regs, pc, mem, save, lets, waits, halt, ([] : List Int), outs, count⟩) PB1.out PC1.out HA.out d x0 ld
  have PN' := hide PN
  have KN' := hide (KV1.out.trans KN)
  have EN : Hid (nextM ⟨regs.set d x0, pc, mem, save, lets, waits, halt, ([] : List Int), outs, count⟩ ((pc + 1) % 65536) = doM ⟨regs, pc, mem, save, lets, waits, halt, [x0], outs, count⟩ 15 d a k) := show _ = _ by
    rw [HD.out]
    exact set_of ⟨regs, pc, mem, save, lets, waits, halt, ([] : List Int), outs, count⟩ d x0
  have q0 : Hid (0 ≤ (pc + 1) % 65536 ∧ (pc + 1) % 65536 < 65536) := by show _ ∧ _; omega
  clear PN KN PB1 PC1 KV1 HD LI SR EY0 SS S2 SV i0 i1 i2 i3 hHeld
  go_wp2
  go_ret
  exact Or.inl ⟨_, _, rfl, PN'.out, KN'.out, q0.out.1, q0.out.2, ⟨c0, c1⟩, EN.out⟩
set_option maxRecDepth 8000 in
set_option maxHeartbeats 4000000 in
theorem deed_15more (A : Nat → Prop) (Z : Nat) (m : M) (d a : Nat) (k : Int) (w : World) (h : PM A w Z m) (hf : Fit m) (hd : d < 4) (ha : a < 4) (x0 : Int) (r : List Int) (he : m.ins = x0 :: r) (hk3 : ∀ b1 o1 k1 b2 o2 k2 b3 o3 k3 b4 k4, Box Z 25 (mv m (.slice (some ⟨b1, o1, none⟩) m.regs.length k1) (.slice (some ⟨b2, o2, none⟩) m.mem.length k2) (.slice (some ⟨b3, o3, none⟩) m.ins.length k3) (.slice (some ⟨b4, 0, none⟩) m.outs.length k4)) w → k3 ≠ 1) :
    Calls Tryz.prog 71 #[.pointer (some ⟨Z, 0, none⟩), .agg #[.int .i64 15, .int .i64 d, .int .i64 a, .int .i64 k]] w (Deed A Z w (doM m 15 d a k)) := by
  obtain ⟨b1, o1, k1, b2, o2, k2, b3, o3, k3, b4, k4, hB0, hC0, hA⟩ := h
  obtain ⟨regs, pc, mem, save, lets, waits, halt, ins, outs, count⟩ := m
  simp only [] at he
  subst he
  have K3 := hk3 _ _ _ _ _ _ _ _ _ _ _ hB0
  obtain ⟨q31, q32⟩ := ins_cap hC0
  simp only [List.length_cons] at q31
  unfold maxLen at q32
  obtain ⟨r4, m64, rw_, mw_, p0, p1, c0, c1⟩ := hf
  have la : a < regs.length := by rw [show regs.length = 4 from r4]; exact ha
  have ld : d < regs.length := by rw [show regs.length = 4 from r4]; exact hd
  have la' : ((a : Nat) : Int) < (regs.length : Int) := by omega
  have ld' : ((d : Nat) : Int) < (regs.length : Int) := by omega
  have R4 := hide r4
  have M64 := hide m64
  have bV : Below w.heap.size w (w.alloc (.cells #[.int .i64 15, .int .i64 d, .int .i64 a, .int .i64 k] 38)) := (Below.refl _ _).alloc (Nat.le_refl _) _
  have hB := hB0.below bV
  have hC := hC0.below bV
  have I := hide (Box.new w [.int .i64 15, .int .i64 d, .int .i64 a, .int .i64 k] 38)
  have KV := hide (Keep.of_below (S := Grip A Z) bV)
  obtain ⟨x, ex⟩ : ∃ x, regs[a]? = some x := ⟨_, List.getElem?_eq_getElem la⟩
  obtain ⟨y, ey⟩ : ∃ y, regs[d]? = some y := ⟨_, List.getElem?_eq_getElem ld⟩
  have bx := rw_ a x ex
  have by_ := rw_ d y ey
  have GX := hide (getD_of ex)
  have GY := hide (getD_of ey)
  obtain ⟨cx, fx⟩ := row_at hC.parts.1 ex
  obtain ⟨cy, fy⟩ := row_at hC.parts.1 ey
  have hne : b1 ≠ Z := fun e => (hB.t.ne hC.parts.2.2.2.2.2.2.1.t mach_int) e.symm
  have HA := hide hA
  have nI : Hid (w.heap.size ≠ Z) := by have := hB0.r.lt; show _ ≠ _; omega
  have EY0 := hide ey
  clear hB0 hC0 r4 m64 hA
  simp only [mv, List.length_cons, List.length_nil, Nat.zero_add] at *
  go_enter Tryz.func71, Tryz.ntmps71
  go_wp2_with fail
  generalize w.alloc (.cells #[.int .i64 15, .int .i64 d, .int .i64 a, .int .i64 k] 38) = V at *
  have PB := hide hB
  have PC := hide hC
  clear hB hC bV
  have i0 := I.out.r.cell 0 _ rfl
  have i1 := I.out.r.cell 1 _ rfl
  have i2 := I.out.r.cell 2 _ rfl
  have i3 := I.out.r.cell 3 _ rfl
  have z7 := PB.out.r.cell 7 _ rfl
  have y7 := PB.out.r.soft 7
  have tI := I.out.t
  obtain ⟨ci, _⟩ := row_at (CMach.parts (m := ⟨regs, pc, mem, save, lets, waits, halt, x0 :: r, outs, count⟩) PC.out).2.2.1 (show (x0 :: r : List Int)[0]? = some x0 from rfl)
  rw [Nat.add_zero o3] at ci
  have PB1 := hide ((Box.drew PB.out).set 7 (.slice (some ⟨b3, o3 + 1, none⟩) r.length (k3 - 1)) (by simp) rfl)
  have PC1 := hide (CMach.other (CMach.pop (o3' := o3 + 1) (k3' := k3 - 1) (CMach.drewN PC.out 1) (Or.inr rfl) (by omega) (by unfold maxLen; omega)) (Box.drew PB.out).t mach_int 7 (.slice (some ⟨b3, o3 + 1, none⟩) r.length (k3 - 1)))
  have KV1 := hide ((Keep.drew KV.out).turn ((Turn.refl Z V.drew).setCell (p := ⟨Z, 7, none⟩) rfl (.slice (some ⟨b3, o3 + 1, none⟩) r.length (k3 - 1))) (fun j _ hn e => hn (Or.inl e)))
  have LI := hide (letIn_more Z b3 o3 r.length k3 x0 V.drew z7 y7 ci (by omega) (by omega) K3)
  have nI1 : w.heap.size ≠ b1 := I.out.t.ne (CMach.parts (m := ⟨regs, pc, mem, save, lets, waits, halt, x0 :: r, outs, count⟩) PC.out).2.2.2.2.2.2.1.t ins_int
  have HD : Hid (doM ⟨regs, pc, mem, save, lets, waits, halt, x0 :: r, outs, count⟩ 15 d a k = setM ⟨regs, pc, mem, save, lets, waits, halt, (r : List Int), outs, count⟩ d x0) := show _ = _ by unfold doM inM; simp
  have SS : V.drew.cell? ⟨w.heap.size, 0, none⟩ = some (.int .i64 15) ∧ V.drew.cell? ⟨w.heap.size, 1, none⟩ = some (.int .i64 d) ∧ V.drew.cell? ⟨w.heap.size, 2, none⟩ = some (.int .i64 a) ∧ V.drew.cell? ⟨w.heap.size, 3, none⟩ = some (.int .i64 k) := ⟨i0, i1, i2, i3⟩
  have S2 : (V.drew.setCell ⟨Z, 7, none⟩ (.slice (some ⟨b3, o3 + 1, none⟩) r.length (k3 - 1))).cell? ⟨w.heap.size, 0, none⟩ = some (.int .i64 15) ∧ (V.drew.setCell ⟨Z, 7, none⟩ (.slice (some ⟨b3, o3 + 1, none⟩) r.length (k3 - 1))).cell? ⟨w.heap.size, 1, none⟩ = some (.int .i64 d) ∧ (V.drew.setCell ⟨Z, 7, none⟩ (.slice (some ⟨b3, o3 + 1, none⟩) r.length (k3 - 1))).cell? ⟨w.heap.size, 2, none⟩ = some (.int .i64 a) ∧ (V.drew.setCell ⟨Z, 7, none⟩ (.slice (some ⟨b3, o3 + 1, none⟩) r.length (k3 - 1))).cell? ⟨w.heap.size, 3, none⟩ = some (.int .i64 k) := ⟨far i0 (Ne.symm nI.out), far i1 (Ne.symm nI.out), far i2 (Ne.symm nI.out), far i3 (Ne.symm nI.out)⟩
  have b0 := PB1.out.r.cell 0 _ rfl
  have b1' := PB1.out.r.cell 1 _ rfl
  obtain ⟨cyy, fyy⟩ := row_at (CMach.parts (m := ⟨regs, pc, mem, save, lets, waits, halt, (r : List Int), outs, count⟩) PC1.out).1 EY0.out
  have SR := hide (setRegister Z b1 o1 _ k1 d pc y x0 _ b0 b1' ld' cyy fyy hne p0 p1)
  clear rw_ mw_ PB PC KV I R4 M64 GX GY nI by_ bx fx fy cx cy hd ha la z7 y7 b0 b1' cyy fyy hne tI ci q31 q32 K3 hk3
  refine wp_region_held_drew (S := fun v => (v.cell? ⟨w.heap.size, 0, none⟩ = some (.int .i64 15) ∧ v.cell? ⟨w.heap.size, 1, none⟩ = some (.int .i64 d) ∧ v.cell? ⟨w.heap.size, 2, none⟩ = some (.int .i64 a) ∧ v.cell? ⟨w.heap.size, 3, none⟩ = some (.int .i64 k))) (by kernel_rfl) SS (fun hHeld => ?_)
  refine wpAnyH_take (i := 0) (v := ?_) rfl (by kernel_rfl) (by kernel_rfl) (by kernel_rfl) (fun _ _ _ h => h) (Or.inl ⟨by rfl, ?_⟩) hHeld ?_
  rotate_left
  · intro w' hSw
    (try dsimp only at hSw)
    go_simp
    first | done | with_reducible rfl
  try simp only [Act.put, List.setIfInBounds_toArray, List.set]
  refine wpAnyH_take (i := 1) (v := ?_) rfl (by kernel_rfl) (by kernel_rfl) (by kernel_rfl) (fun _ _ _ h => h) (Or.inl ⟨by rfl, ?_⟩) hHeld ?_
  rotate_left
  · intro w' hSw
    (try dsimp only at hSw)
    go_simp
    first | done | with_reducible rfl
  try simp only [Act.put, List.setIfInBounds_toArray, List.set]
  refine wpAnyH_take (i := 2) (v := ?_) rfl (by kernel_rfl) (by kernel_rfl) (by kernel_rfl) (fun _ _ _ h => h) (Or.inl ⟨by rfl, ?_⟩) hHeld ?_
  rotate_left
  · intro w' hSw
    (try dsimp only at hSw)
    go_simp
    first | done | with_reducible rfl
  try simp only [Act.put, List.setIfInBounds_toArray, List.set]
  refine wpAnyH_take (i := 3) (v := ?_) rfl (by kernel_rfl) (by kernel_rfl) (by kernel_rfl) (fun _ _ _ h => h) (Or.inl ⟨by rfl, ?_⟩) hHeld ?_
  rotate_left
  · intro w' hSw
    (try dsimp only at hSw)
    go_simp
    first | done | with_reducible rfl
  try simp only [Act.put, List.setIfInBounds_toArray, List.set]
  refine wpAnyH_ready (rs := [4]) (by kernel_rfl) (by simp) ?_
  refine AllReadyH.cons rfl (fun K hK => ?_) AllReadyH.nil
  go_simp
  refine LI.out.mono ?_
  rintro e u ⟨rfl, rfl⟩
  refine hK.out _ _ S2 (fun hHeld => ?_)
  clear hK K
  try simp only [Act.put, List.setIfInBounds_toArray, List.set]
  refine wpAnyH_ready (rs := [5]) (by kernel_rfl) (by simp) ?_
  refine AllReadyH.cons rfl (fun K hK => ?_) AllReadyH.nil
  go_simp
  refine SR.out.mono ?_
  rintro e u2 ⟨rfl, rfl⟩
  have SV : ((V.drew.setCell ⟨Z, 7, none⟩ (.slice (some ⟨b3, o3 + 1, none⟩) r.length (k3 - 1))).setCell ⟨b1, o1 + d, none⟩ (.int .i64 x0)).cell? ⟨w.heap.size, 0, none⟩ = some (.int .i64 15) ∧ ((V.drew.setCell ⟨Z, 7, none⟩ (.slice (some ⟨b3, o3 + 1, none⟩) r.length (k3 - 1))).setCell ⟨b1, o1 + d, none⟩ (.int .i64 x0)).cell? ⟨w.heap.size, 1, none⟩ = some (.int .i64 d) ∧ ((V.drew.setCell ⟨Z, 7, none⟩ (.slice (some ⟨b3, o3 + 1, none⟩) r.length (k3 - 1))).setCell ⟨b1, o1 + d, none⟩ (.int .i64 x0)).cell? ⟨w.heap.size, 2, none⟩ = some (.int .i64 a) ∧ ((V.drew.setCell ⟨Z, 7, none⟩ (.slice (some ⟨b3, o3 + 1, none⟩) r.length (k3 - 1))).setCell ⟨b1, o1 + d, none⟩ (.int .i64 x0)).cell? ⟨w.heap.size, 3, none⟩ = some (.int .i64 k) := ⟨far S2.1 (Ne.symm nI1), far S2.2.1 (Ne.symm nI1), far S2.2.2.1 (Ne.symm nI1), far S2.2.2.2 (Ne.symm nI1)⟩
  refine hK.out _ _ SV (fun hHeld => ?_)
  clear hK K
  try simp only [Act.put, List.setIfInBounds_toArray, List.set]
  refine wpAnyH_take (i := 6) (v := ?_) rfl (by kernel_rfl) (by kernel_rfl) (by kernel_rfl) (fun _ _ _ h => h) (Or.inl ⟨by rfl, ?_⟩) hHeld ?_
  rotate_left
  · intro w' hSw
    (try dsimp only at hSw)
    go_simp
    first | done | with_reducible rfl
  try simp only [Act.put, List.setIfInBounds_toArray, List.set]
  refine wpAnyH_done (by kernel_rfl) ?_ _
  obtain ⟨PN, KN⟩ := PM.setReg (m := ⟨regs, pc, mem, save, lets, waits, halt, (r : List Int), outs, count⟩) PB1.out PC1.out HA.out d x0 ld
  have PN' := hide PN
  have KN' := hide (KV1.out.trans KN)
  have EN : Hid (nextM ⟨regs.set d x0, pc, mem, save, lets, waits, halt, (r : List Int), outs, count⟩ ((pc + 1) % 65536) = doM ⟨regs, pc, mem, save, lets, waits, halt, x0 :: r, outs, count⟩ 15 d a k) := show _ = _ by
    rw [HD.out]
    exact set_of ⟨regs, pc, mem, save, lets, waits, halt, (r : List Int), outs, count⟩ d x0
  have q0 : Hid (0 ≤ (pc + 1) % 65536 ∧ (pc + 1) % 65536 < 65536) := by show _ ∧ _; omega
  clear PN KN PB1 PC1 KV1 HD LI SR EY0 SS S2 SV i0 i1 i2 i3 hHeld
  go_wp2
  go_ret
  exact Or.inl ⟨_, _, rfl, PN'.out, KN'.out, q0.out.1, q0.out.2, ⟨c0, c1⟩, EN.out⟩
set_option maxRecDepth 8000 in
set_option maxHeartbeats 4000000 in
theorem deed_01 (A : Nat → Prop) (Z : Nat) (m : M) (d a : Nat) (w : World) (h : PM A w Z m) (hf : Fit m) (hs : 0 ≤ m.save ∧ m.save < 65536) :
    Calls Tryz.prog 58 #[.pointer (some ⟨Z, 0, none⟩), .agg #[.int .i64 0, .int .i64 d, .int .i64 a, .int .i64 1]] w (Deed A Z w (doM m 0 d a 1)) := by
  obtain ⟨b1, o1, k1, b2, o2, k2, b3, o3, k3, b4, k4, hB, hC, hA⟩ := h
  obtain ⟨regs, pc, mem, save, lets, waits, halt, ins, outs, count⟩ := m
  obtain ⟨r4, m64, rw_, mw_, p0, p1, c0, c1⟩ := hf
  have bV : Below w.heap.size w (w.alloc (.cells #[.int .i64 0, .int .i64 d, .int .i64 a, .int .i64 1] 38)) := (Below.refl _ _).alloc (Nat.le_refl _) _
  simp only [mv] at hB
  have hV := hB.below bV
  have hP := hV.set 4 (.bool true) (by simp) rfl
  have hQ := ((CMach.plain (pc' := pc) (save' := save) (halt' := halt) (count' := count) (lets' := true) (waits' := waits) hC).below bV).other hV.t mach_int 4 (.bool true)
  have PN := hide (show PM A ((w.alloc (.cells #[.int .i64 0, .int .i64 d, .int .i64 a, .int .i64 1] 38)).setCell ⟨Z, 4, none⟩ (.bool true)) Z ⟨regs, pc, mem, save, true, waits, halt, ins, outs, count⟩ from ⟨b1, o1, k1, b2, o2, k2, b3, o3, k3, b4, k4, hP, hQ, hA⟩)
  have KN := hide ((Keep.of_below (S := Grip A Z) bV).turn ((Turn.refl Z (w.alloc (.cells #[.int .i64 0, .int .i64 d, .int .i64 a, .int .i64 1] 38))).setCell (p := ⟨Z, 4, none⟩) rfl (.bool true)) (fun j _ hn e => hn (Or.inl e)))
  have z3 := hV.r.cell 3 _ rfl
  have z4 := hV.r.cell 4 _ rfl
  have y4 := hV.r.soft 4
  have u1 := hP.r.cell 1 _ rfl
  have u3 := hP.r.cell 3 _ rfl
  have EN : Hid (nextM ⟨regs, pc, mem, save, true, waits, halt, ins, outs, count⟩ (save) = doM ⟨regs, pc, mem, save, lets, waits, halt, ins, outs, count⟩ 0 d a 1) := show _ = _ by
    unfold doM stopM nextM
    simp
  have q0 : Hid (0 ≤ save ∧ save < 65536) := by show _ ∧ _; exact hs
  clear hB hC hP hQ hV bV rw_ mw_ r4 m64 hs hA
  go_enter Tryz.func58, Tryz.ntmps58
  go_wp2
  go_ret
  exact Or.inl ⟨_, _, rfl, PN.out, KN.out, q0.out.1, q0.out.2, ⟨c0, c1⟩, EN.out⟩
set_option maxRecDepth 8000 in
set_option maxHeartbeats 4000000 in
theorem deed_02 (A : Nat → Prop) (Z : Nat) (m : M) (d a : Nat) (w : World) (h : PM A w Z m) (hf : Fit m) (hs : 0 ≤ m.save ∧ m.save < 65536) :
    Calls Tryz.prog 58 #[.pointer (some ⟨Z, 0, none⟩), .agg #[.int .i64 0, .int .i64 d, .int .i64 a, .int .i64 2]] w (Deed A Z w (doM m 0 d a 2)) := by
  obtain ⟨b1, o1, k1, b2, o2, k2, b3, o3, k3, b4, k4, hB, hC, hA⟩ := h
  obtain ⟨regs, pc, mem, save, lets, waits, halt, ins, outs, count⟩ := m
  obtain ⟨r4, m64, rw_, mw_, p0, p1, c0, c1⟩ := hf
  have bV : Below w.heap.size w (w.alloc (.cells #[.int .i64 0, .int .i64 d, .int .i64 a, .int .i64 2] 38)) := (Below.refl _ _).alloc (Nat.le_refl _) _
  simp only [mv] at hB
  have hV := hB.below bV
  have hP := hV.set 4 (.bool true) (by simp) rfl
  have hQ := ((CMach.plain (pc' := pc) (save' := save) (halt' := halt) (count' := count) (lets' := true) (waits' := waits) hC).below bV).other hV.t mach_int 4 (.bool true)
  have PN := hide (show PM A ((w.alloc (.cells #[.int .i64 0, .int .i64 d, .int .i64 a, .int .i64 2] 38)).setCell ⟨Z, 4, none⟩ (.bool true)) Z ⟨regs, pc, mem, save, true, waits, halt, ins, outs, count⟩ from ⟨b1, o1, k1, b2, o2, k2, b3, o3, k3, b4, k4, hP, hQ, hA⟩)
  have KN := hide ((Keep.of_below (S := Grip A Z) bV).turn ((Turn.refl Z (w.alloc (.cells #[.int .i64 0, .int .i64 d, .int .i64 a, .int .i64 2] 38))).setCell (p := ⟨Z, 4, none⟩) rfl (.bool true)) (fun j _ hn e => hn (Or.inl e)))
  have z3 := hV.r.cell 3 _ rfl
  have z4 := hV.r.cell 4 _ rfl
  have y4 := hV.r.soft 4
  have u1 := hP.r.cell 1 _ rfl
  have u3 := hP.r.cell 3 _ rfl
  have EN : Hid (nextM ⟨regs, pc, mem, save, true, waits, halt, ins, outs, count⟩ ((pc + 1) % 65536) = doM ⟨regs, pc, mem, save, lets, waits, halt, ins, outs, count⟩ 0 d a 2) := show _ = _ by
    unfold doM stopM nextM
    simp
  have q0 : Hid (0 ≤ (pc + 1) % 65536 ∧ (pc + 1) % 65536 < 65536) := by show _ ∧ _; omega
  clear hB hC hP hQ hV bV rw_ mw_ r4 m64 hs hA
  go_enter Tryz.func58, Tryz.ntmps58
  go_wp2_with fail
  refine (behind Z pc _ u1 p0 p1).mono ?_
  rintro e u ⟨rfl, rfl⟩
  clear u1 u3 z3 z4 y4
  go_wp2
  go_ret
  exact Or.inl ⟨_, _, rfl, PN.out, KN.out, q0.out.1, q0.out.2, ⟨c0, c1⟩, EN.out⟩
set_option maxRecDepth 8000 in
set_option maxHeartbeats 4000000 in
theorem deed_03 (A : Nat → Prop) (Z : Nat) (m : M) (d a : Nat) (w : World) (h : PM A w Z m) (hf : Fit m) (hs : 0 ≤ m.save ∧ m.save < 65536) :
    Calls Tryz.prog 58 #[.pointer (some ⟨Z, 0, none⟩), .agg #[.int .i64 0, .int .i64 d, .int .i64 a, .int .i64 3]] w (Deed A Z w (doM m 0 d a 3)) := by
  obtain ⟨b1, o1, k1, b2, o2, k2, b3, o3, k3, b4, k4, hB, hC, hA⟩ := h
  obtain ⟨regs, pc, mem, save, lets, waits, halt, ins, outs, count⟩ := m
  obtain ⟨r4, m64, rw_, mw_, p0, p1, c0, c1⟩ := hf
  have bV : Below w.heap.size w (w.alloc (.cells #[.int .i64 0, .int .i64 d, .int .i64 a, .int .i64 3] 38)) := (Below.refl _ _).alloc (Nat.le_refl _) _
  simp only [mv] at hB
  have hV := hB.below bV
  have hP := hV.set 4 (.bool false) (by simp) rfl
  have hQ := ((CMach.plain (pc' := pc) (save' := save) (halt' := halt) (count' := count) (lets' := false) (waits' := waits) hC).below bV).other hV.t mach_int 4 (.bool false)
  have PN := hide (show PM A ((w.alloc (.cells #[.int .i64 0, .int .i64 d, .int .i64 a, .int .i64 3] 38)).setCell ⟨Z, 4, none⟩ (.bool false)) Z ⟨regs, pc, mem, save, false, waits, halt, ins, outs, count⟩ from ⟨b1, o1, k1, b2, o2, k2, b3, o3, k3, b4, k4, hP, hQ, hA⟩)
  have KN := hide ((Keep.of_below (S := Grip A Z) bV).turn ((Turn.refl Z (w.alloc (.cells #[.int .i64 0, .int .i64 d, .int .i64 a, .int .i64 3] 38))).setCell (p := ⟨Z, 4, none⟩) rfl (.bool false)) (fun j _ hn e => hn (Or.inl e)))
  have z3 := hV.r.cell 3 _ rfl
  have z4 := hV.r.cell 4 _ rfl
  have y4 := hV.r.soft 4
  have u1 := hP.r.cell 1 _ rfl
  have u3 := hP.r.cell 3 _ rfl
  have EN : Hid (nextM ⟨regs, pc, mem, save, false, waits, halt, ins, outs, count⟩ ((pc + 1) % 65536) = doM ⟨regs, pc, mem, save, lets, waits, halt, ins, outs, count⟩ 0 d a 3) := show _ = _ by
    unfold doM stopM nextM
    simp
  have q0 : Hid (0 ≤ (pc + 1) % 65536 ∧ (pc + 1) % 65536 < 65536) := by show _ ∧ _; omega
  clear hB hC hP hQ hV bV rw_ mw_ r4 m64 hs hA
  go_enter Tryz.func58, Tryz.ntmps58
  go_wp2_with fail
  refine (behind Z pc _ u1 p0 p1).mono ?_
  rintro e u ⟨rfl, rfl⟩
  clear u1 u3 z3 z4 y4
  go_wp2
  go_ret
  exact Or.inl ⟨_, _, rfl, PN.out, KN.out, q0.out.1, q0.out.2, ⟨c0, c1⟩, EN.out⟩
set_option maxRecDepth 8000 in
set_option maxHeartbeats 4000000 in
theorem deed_00 (A : Nat → Prop) (Z : Nat) (m : M) (d a : Nat) (w : World) (h : PM A w Z m) (hf : Fit m) :
    Calls Tryz.prog 58 #[.pointer (some ⟨Z, 0, none⟩), .agg #[.int .i64 0, .int .i64 d, .int .i64 a, .int .i64 0]] w (Deed A Z w (doM m 0 d a 0)) := by
  obtain ⟨b1, o1, k1, b2, o2, k2, b3, o3, k3, b4, k4, hB, hC, hA⟩ := h
  obtain ⟨regs, pc, mem, save, lets, waits, halt, ins, outs, count⟩ := m
  obtain ⟨r4, m64, rw_, mw_, p0, p1, c0, c1⟩ := hf
  have bV : Below w.heap.size w (w.alloc (.cells #[.int .i64 0, .int .i64 d, .int .i64 a, .int .i64 0] 38)) := (Below.refl _ _).alloc (Nat.le_refl _) _
  simp only [mv] at hB
  have hV := hB.below bV
  have hP := (hV.set 1 (.int .i64 ((pc + 1) % 65536)) (by simp) rfl).set 9 (.int .i64 (count + 1)) (by simp) rfl
  have hQ := ((((CMach.plain (pc' := (pc + 1) % 65536) (save' := save) (halt' := halt) (count' := count + 1) (lets' := lets) (waits' := waits) hC).below bV).other hV.t mach_int 1 (.int .i64 ((pc + 1) % 65536)))).other (hV.t.set ⟨Z, 1, none⟩ (.int .i64 ((pc + 1) % 65536))) mach_int 9 (.int .i64 (count + 1))
  have PN := hide (show PM A (((w.alloc (.cells #[.int .i64 0, .int .i64 d, .int .i64 a, .int .i64 0] 38)).setCell ⟨Z, 1, none⟩ (.int .i64 ((pc + 1) % 65536))).setCell ⟨Z, 9, none⟩ (.int .i64 (count + 1))) Z ⟨regs, (pc + 1) % 65536, mem, save, lets, waits, halt, ins, outs, count + 1⟩ from ⟨b1, o1, k1, b2, o2, k2, b3, o3, k3, b4, k4, hP, hQ, hA⟩)
  have KN := hide ((Keep.of_below (S := Grip A Z) bV).turn (((Turn.refl Z (w.alloc (.cells #[.int .i64 0, .int .i64 d, .int .i64 a, .int .i64 0] 38))).setCell (p := ⟨Z, 1, none⟩) rfl (.int .i64 ((pc + 1) % 65536))).setCell (p := ⟨Z, 9, none⟩) rfl (.int .i64 (count + 1))) (fun j _ hn e => hn (Or.inl e)))
  have z1 := hV.r.cell 1 _ rfl
  have y1 := hV.r.soft 1
  have z9 := hV.r.cell 9 _ rfl
  have y9 := hV.r.soft 9
  have EN : Hid (haltM ⟨regs, (pc + 1) % 65536, mem, save, lets, waits, halt, ins, outs, count + 1⟩ 1 = doM ⟨regs, pc, mem, save, lets, waits, halt, ins, outs, count⟩ 0 d a 0) := show _ = _ by
    unfold doM stopM nextM haltM
    simp
  clear hB hC hP hQ hV bV rw_ mw_ r4 m64 hA
  go_enter Tryz.func58, Tryz.ntmps58
  go_wp2_with fail
  refine (behind Z pc _ z1 p0 p1).mono ?_
  rintro e u ⟨rfl, rfl⟩
  go_wp2_with fail
  refine (goOn Z pc count _ _ z1 y1 z9 y9 c0 c1).mono ?_
  rintro e u ⟨rfl, rfl⟩
  clear z1 y1 z9 y9
  go_wp2
  exact ⟨rfl, Or.inr ⟨1, _, rfl, PN.out, KN.out, EN.out⟩⟩
set_option maxRecDepth 8000 in
set_option maxHeartbeats 4000000 in
theorem deed_14 (A : Nat → Prop) (Z : Nat) (m : M) (d a : Nat) (k : Int) (w : World) (h : PM A w Z m) (hf : Fit m) (hd : d < 4) (ha : a < 4) (hfr : ∀ j, w.heap.size ≤ j → A j) (hl9 : m.outs.length ≤ 1000000000) :
    Calls Tryz.prog 70 #[.pointer (some ⟨Z, 0, none⟩), .agg #[.int .i64 14, .int .i64 d, .int .i64 a, .int .i64 k]] w (Deed A Z w (doM m 14 d a k)) := by
  obtain ⟨b1, o1, k1, b2, o2, k2, b3, o3, k3, b4, k4, hB0, hC0, hA⟩ := h
  have L9 := hide hl9
  obtain ⟨regs, pc, mem, save, lets, waits, halt, ins, outs, count⟩ := m
  clear hl9
  obtain ⟨r4, m64, rw_, mw_, p0, p1, c0, c1⟩ := hf
  have la : a < regs.length := by rw [show regs.length = 4 from r4]; exact ha
  have ld : d < regs.length := by rw [show regs.length = 4 from r4]; exact hd
  have la' : ((a : Nat) : Int) < (regs.length : Int) := by omega
  have ld' : ((d : Nat) : Int) < (regs.length : Int) := by omega
  have R4 := hide r4
  have M64 := hide m64
  have bV : Below w.heap.size w (w.alloc (.cells #[.int .i64 14, .int .i64 d, .int .i64 a, .int .i64 k] 38)) := (Below.refl _ _).alloc (Nat.le_refl _) _
  have hB := hB0.below bV
  have hC := hC0.below bV
  have I := hide (Box.new w [.int .i64 14, .int .i64 d, .int .i64 a, .int .i64 k] 38)
  have KV := hide (Keep.of_below (S := Grip A Z) bV)
  obtain ⟨x, ex⟩ : ∃ x, regs[a]? = some x := ⟨_, List.getElem?_eq_getElem la⟩
  obtain ⟨y, ey⟩ : ∃ y, regs[d]? = some y := ⟨_, List.getElem?_eq_getElem ld⟩
  have bx := rw_ a x ex
  have by_ := rw_ d y ey
  have GX := hide (getD_of ex)
  have GY := hide (getD_of ey)
  obtain ⟨cx, fx⟩ := row_at hC.parts.1 ex
  obtain ⟨cy, fy⟩ := row_at hC.parts.1 ey
  have hne : b1 ≠ Z := fun e => (hB.t.ne hC.parts.2.2.2.2.2.2.1.t mach_int) e.symm
  have HA := hide hA
  have nI : Hid (w.heap.size ≠ Z) := by have := hB0.r.lt; show _ ≠ _; omega
  have EY0 := hide ey
  clear hB0 hC0 r4 m64 hA
  simp only [mv] at *
  go_enter Tryz.func70, Tryz.ntmps70
  go_wp2_with fail
  generalize w.alloc (.cells #[.int .i64 14, .int .i64 d, .int .i64 a, .int .i64 k] 38) = V at *
  have PB := hide hB
  have PC := hide hC
  clear hB hC bV
  have z0 := PB.out.r.cell 0 _ rfl
  have z1 := PB.out.r.cell 1 _ rfl
  have z8 := PB.out.r.cell 8 _ rfl
  have i0 := I.out.r.cell 0 _ rfl
  have i1 := I.out.r.cell 1 _ rfl
  have i2 := I.out.r.cell 2 _ rfl
  have i3 := I.out.r.cell 3 _ rfl
  have bA : Below V.drew.heap.size V.drew (V.drew.alloc (.cells #[.int .i64 y] 3)) := (Below.refl _ _).alloc (Nat.le_refl _) _
  have wV : Hid (w.heap.size ≤ (V.drew.alloc (.cells #[.int .i64 y] 3)).heap.size) := Nat.le_trans KV.out.size (by simp)
  have SS : V.drew.cell? ⟨w.heap.size, 0, none⟩ = some (.int .i64 14) ∧ V.drew.cell? ⟨w.heap.size, 1, none⟩ = some (.int .i64 d) ∧ V.drew.cell? ⟨w.heap.size, 2, none⟩ = some (.int .i64 a) ∧ V.drew.cell? ⟨w.heap.size, 3, none⟩ = some (.int .i64 k) ∧ V.drew.cell? ⟨Z, 0, none⟩ = some (.slice (some ⟨b1, o1, none⟩) regs.length k1) ∧ V.drew.cell? ⟨b1, o1 + d, none⟩ = some (.int .i64 y) := ⟨i0, i1, i2, i3, z0, cy⟩
  have S1 : (V.drew.alloc (.cells #[.int .i64 y] 3)).cell? ⟨w.heap.size, 0, none⟩ = some (.int .i64 14) ∧ (V.drew.alloc (.cells #[.int .i64 y] 3)).cell? ⟨w.heap.size, 1, none⟩ = some (.int .i64 d) ∧ (V.drew.alloc (.cells #[.int .i64 y] 3)).cell? ⟨w.heap.size, 2, none⟩ = some (.int .i64 a) ∧ (V.drew.alloc (.cells #[.int .i64 y] 3)).cell? ⟨w.heap.size, 3, none⟩ = some (.int .i64 k) ∧ (V.drew.alloc (.cells #[.int .i64 y] 3)).cell? ⟨Z, 0, none⟩ = some (.slice (some ⟨b1, o1, none⟩) regs.length k1) ∧ (V.drew.alloc (.cells #[.int .i64 y] 3)).cell? ⟨b1, o1 + d, none⟩ = some (.int .i64 y) := ⟨cell_below bA i0, cell_below bA i1, cell_below bA i2, cell_below bA i3, cell_below bA z0, cell_below bA cy⟩
  have z8d : V.drew.cell? ⟨Z, 8, none⟩ = some (.slice (some ⟨b4, 0, none⟩) outs.length k4) := z8
  have z8a := cell_below bA z8d
  have z8b : (V.alloc (.cells #[.int .i64 y] 3)).drew.cell? ⟨Z, 8, none⟩ = some (.slice (some ⟨b4, 0, none⟩) outs.length k4) := z8a
  have z8c : (V.alloc (.cells #[.int .i64 y] 3)).cell? ⟨Z, 8, none⟩ = some (.slice (some ⟨b4, 0, none⟩) outs.length k4) := z8a
  have PB1 := hide ((Box.drew PB.out).below bA)
  have PC0 := hide (CMach.drewN PC.out 1)
  have PC1 := hide (PC0.out.below bA)
  have I1 := hide ((Box.drew I.out).below bA)
  have KV1 := hide ((Keep.drew KV.out).trans (Keep.of_below bA))
  have BA := hide bA
  have OW := hide (CMach.parts (m := ⟨regs, pc, mem, save, lets, waits, halt, ins, outs, count⟩) PC1.out).2.2.2.1
  have HC : Hid ((V.drew.alloc (.cells #[.int .i64 y] 3)).cell? ((⟨V.heap.size, 0, none⟩ : Addr).add 0) = some (.int .i64 y)) := show _ = _ by
    rw [Go.WideShapes.add_plain, Nat.zero_add]
    exact (World.cell?_alloc_new V.drew _ _ _).trans rfl
  have L10 : Hid (outs.length ≤ 1000000000000) := Nat.le_trans L9.out (by omega)
  have dd := (CMach.parts (m := ⟨regs, pc, mem, save, lets, waits, halt, ins, outs, count⟩) PC1.out).2.2.2.2.2.1
  have nI4 : w.heap.size ≠ b4 := I.out.t.ne (CMach.parts (m := ⟨regs, pc, mem, save, lets, waits, halt, ins, outs, count⟩) PC.out).2.2.2.2.2.2.2.2.2 ins_int
  have nZ4 : Z ≠ b4 := PB.out.t.ne (CMach.parts (m := ⟨regs, pc, mem, save, lets, waits, halt, ins, outs, count⟩) PC.out).2.2.2.2.2.2.2.2.2 mach_int
  have HD : Hid (nextM ⟨regs, pc, mem, save, lets, waits, halt, ins, outs ++ [y], count⟩ ((pc + 1) % 65536) = doM ⟨regs, pc, mem, save, lets, waits, halt, ins, outs, count⟩ 14 d a k) := show _ = _ by
    unfold doM outM nextM
    simp
    rw [← List.getD_eq_getElem?_getD, GY.out]
  have HFR := hide hfr
  clear rw_ mw_ PB PC KV I R4 M64 GX GY by_ bx fx fy cx hd ha la z8 hfr bA EY0
  refine wp_region_held_drew (S := fun v => (v.cell? ⟨w.heap.size, 0, none⟩ = some (.int .i64 14) ∧ v.cell? ⟨w.heap.size, 1, none⟩ = some (.int .i64 d) ∧ v.cell? ⟨w.heap.size, 2, none⟩ = some (.int .i64 a) ∧ v.cell? ⟨w.heap.size, 3, none⟩ = some (.int .i64 k) ∧ v.cell? ⟨Z, 0, none⟩ = some (.slice (some ⟨b1, o1, none⟩) regs.length k1) ∧ v.cell? ⟨b1, o1 + d, none⟩ = some (.int .i64 y))) (by kernel_rfl) SS (fun hHeld => ?_)
  refine wpAnyH_take (i := 0) (v := ?_) rfl (by kernel_rfl) (by kernel_rfl) (by kernel_rfl) (fun _ _ _ h => h) (Or.inl ⟨by rfl, ?_⟩) hHeld ?_
  rotate_left
  · intro w' hSw
    (try dsimp only at hSw)
    go_simp
    first | done | with_reducible rfl
  try simp only [Act.put, List.setIfInBounds_toArray, List.set]
  refine wpAnyH_take (i := 1) (v := ?_) rfl (by kernel_rfl) (by kernel_rfl) (by kernel_rfl) (fun _ _ _ h => h) (Or.inl ⟨by rfl, ?_⟩) hHeld ?_
  rotate_left
  · intro w' hSw
    (try dsimp only at hSw)
    go_simp
    first | done | with_reducible rfl
  try simp only [Act.put, List.setIfInBounds_toArray, List.set]
  refine wpAnyH_take (i := 2) (v := ?_) rfl (by kernel_rfl) (by kernel_rfl) (by kernel_rfl) (fun _ _ _ h => h) (Or.inl ⟨by rfl, ?_⟩) hHeld ?_
  rotate_left
  · intro w' hSw
    (try dsimp only at hSw)
    go_simp
    first | done | with_reducible rfl
  try simp only [Act.put, List.setIfInBounds_toArray, List.set]
  refine wpAnyH_take (i := 3) (v := ?_) rfl (by kernel_rfl) (by kernel_rfl) (by kernel_rfl) (fun _ _ _ h => h) (Or.inl ⟨by rfl, ?_⟩) hHeld ?_
  rotate_left
  · intro w' hSw
    (try dsimp only at hSw)
    go_simp
    first | done | with_reducible rfl
  try simp only [Act.put, List.setIfInBounds_toArray, List.set]
  refine wpAnyH_take (i := 5) (v := ?_) rfl (by kernel_rfl) (by kernel_rfl) (by kernel_rfl) (fun _ _ _ h => h) (Or.inl ⟨by rfl, ?_⟩) hHeld ?_
  rotate_left
  · intro w' hSw
    (try dsimp only at hSw)
    go_simp
    first | done | with_reducible rfl
  try simp only [Act.put, List.setIfInBounds_toArray, List.set]
  refine wpAnyH_take (i := 6) (v := ?_) rfl (by kernel_rfl) (by kernel_rfl) (by kernel_rfl) (fun _ _ _ h => h) (Or.inl ⟨by rfl, ?_⟩) hHeld ?_
  rotate_left
  · intro w' hSw
    (try dsimp only at hSw)
    go_simp
    first | done | with_reducible rfl
  try simp only [Act.put, List.setIfInBounds_toArray, List.set]
  refine wpAnyH_take (i := 7) (v := ?_) rfl (by kernel_rfl) (by kernel_rfl) (by kernel_rfl) (fun _ _ _ h => h) (Or.inl ⟨by rfl, ?_⟩) hHeld ?_
  rotate_left
  · intro w' hSw
    (try dsimp only at hSw)
    go_simp
    first | done | with_reducible rfl
  try simp only [Act.put, List.setIfInBounds_toArray, List.set]
  refine wpAnyH_take (i := 8) (v := ?_) rfl (by kernel_rfl) (by kernel_rfl) (by kernel_rfl) (fun _ _ _ h => h) (Or.inl ⟨by rfl, ?_⟩) hHeld ?_
  rotate_left
  · intro w' hSw
    (try dsimp only at hSw)
    go_simp
    first | done | with_reducible rfl
  try simp only [Act.put, List.setIfInBounds_toArray, List.set]
  refine wpAnyH_take (i := 9) (v := ?_) rfl (by kernel_rfl) (by kernel_rfl) (by kernel_rfl) (fun _ _ _ h => h) (Or.inl ⟨by rfl, ?_⟩) hHeld ?_
  rotate_left
  · intro w' hSw
    (try dsimp only at hSw)
    go_simp
    first | done | with_reducible rfl
  try simp only [Act.put, List.setIfInBounds_toArray, List.set]
  refine wpAnyH_take (i := 10) (v := ?_) rfl (by kernel_rfl) (by kernel_rfl) (by kernel_rfl) (fun _ _ _ h => h) (Or.inl ⟨by rfl, ?_⟩) hHeld ?_
  rotate_left
  · intro w' hSw
    (try dsimp only at hSw)
    go_simp
    first | done | with_reducible rfl
  try simp only [Act.put, List.setIfInBounds_toArray, List.set]
  refine wpAnyH_take (i := 11) (v := ?_) rfl (by kernel_rfl) (by kernel_rfl) (by kernel_rfl) (fun _ _ _ h => h) (Or.inl ⟨by rfl, ?_⟩) hHeld ?_
  rotate_left
  · intro w' hSw
    (try dsimp only at hSw)
    go_simp
    first | done | with_reducible rfl
  try simp only [Act.put, List.setIfInBounds_toArray, List.set]
  refine wpAnyH_take (i := 12) (v := ?_) rfl (by kernel_rfl) (by kernel_rfl) (by kernel_rfl) (fun _ _ _ h => h) (Or.inl ⟨by rfl, ?_⟩) hHeld ?_
  rotate_left
  · intro w' hSw
    (try dsimp only at hSw)
    go_simp
    first | done | with_reducible rfl
  try simp only [Act.put, List.setIfInBounds_toArray, List.set]
  refine wpAnyH_ready (rs := [4, 13]) (by kernel_rfl) (by simp) ?_
  refine AllReadyH.cons rfl (fun K hK => ?_) (AllReadyH.cons rfl (fun K hK => ?_) AllReadyH.nil)
  · go_simp
    refine hK.out _ _ hHeld (fun hHeld => ?_)
    clear hK K
    try simp only [Act.put, List.setIfInBounds_toArray, List.set]
    refine wpAnyH_ready (rs := [13]) (by kernel_rfl) (by simp) ?_
    refine AllReadyH.cons rfl (fun K hK => ?_) AllReadyH.nil
    go_simp
    refine hK.out _ _ S1 (fun hHeld => ?_)
    clear hK K
    try simp only [Act.put, List.setIfInBounds_toArray, List.set]
    refine wpAnyH_ready (rs := [14]) (by kernel_rfl) (by simp) ?_
    refine AllReadyH.cons rfl (fun K hK => ?_) AllReadyH.nil
    refine step_push rfl _ _ rfl 0 b4 k4 outs rfl OW.out (Nat.zero_le _) ⟨V.heap.size, 0, none⟩ y rfl HC.out L10.out ?_
    intro g4 c4 u ho hor hlt ht
    have PU := hide (PB1.out.turn ht nZ4)
    obtain ⟨CU0, _⟩ := CMach.push (m := ⟨regs, pc, mem, save, lets, waits, halt, ins, outs, count⟩) PC0.out BA.out ho hor ht (Nat.zero_le _)
    have CU := hide CU0
    have KU := hide (KV1.out.turn ht (fun j _ hn => grip_turn HA.out.2.2.2 j hn))
    have IU := hide (I1.out.turn ht nI4)
    have AG : Hid (A g4) := hor.elim (fun e => by rw [e]; exact HA.out.2.2.2) (fun e => HFR.out _ (Nat.le_trans wV.out e))
    have SU : u.cell? ⟨w.heap.size, 0, none⟩ = some (.int .i64 14) ∧ u.cell? ⟨w.heap.size, 1, none⟩ = some (.int .i64 d) ∧ u.cell? ⟨w.heap.size, 2, none⟩ = some (.int .i64 a) ∧ u.cell? ⟨w.heap.size, 3, none⟩ = some (.int .i64 k) ∧ u.cell? ⟨Z, 0, none⟩ = some (.slice (some ⟨b1, o1, none⟩) regs.length k1) ∧ u.cell? ⟨b1, o1 + d, none⟩ = some (.int .i64 y) := ⟨IU.out.r.cell 0 _ rfl, IU.out.r.cell 1 _ rfl, IU.out.r.cell 2 _ rfl, IU.out.r.cell 3 _ rfl, PU.out.r.cell 0 _ rfl, (ht.cell (p := ⟨b1, o1 + d, none⟩) (World.block_lt_of_cell? _ _ S1.2.2.2.2.2) dd.2.2.1).trans S1.2.2.2.2.2⟩
    have zu8 := PU.out.r.cell 8 _ rfl
    have yu8 := PU.out.r.soft 8
    simp only [List.length_append, List.length_cons, List.length_nil, Nat.zero_add] at CU ⊢
    clear ho hor hlt ht CU0
    refine hK.out _ _ SU (fun hHeld => ?_)
    clear hK K
    try simp only [Act.put, List.setIfInBounds_toArray, List.set]
    refine wpAnyH_take (i := 15) (v := ?_) rfl (by kernel_rfl) (by kernel_rfl) (by kernel_rfl) (fun _ _ _ h => h) (Or.inl ⟨by rfl, ?_⟩) hHeld ?_
    rotate_left
    · intro w' hSw
      (try dsimp only at hSw)
      go_simp
      first | done | with_reducible rfl
    try simp only [Act.put, List.setIfInBounds_toArray, List.set]
    refine wpAnyH_take (i := 16) (v := ?_) rfl (by kernel_rfl) (by kernel_rfl) (by kernel_rfl) (fun _ _ _ h => h) (Or.inl ⟨by rfl, ?_⟩) hHeld ?_
    rotate_left
    · intro w' hSw
      (try dsimp only at hSw)
      go_simp
      first | done | with_reducible rfl
    try simp only [Act.put, List.setIfInBounds_toArray, List.set]
    refine wpAnyH_ready (rs := [17]) (by kernel_rfl) (by simp) ?_
    refine AllReadyH.cons rfl (fun K hK => ?_) AllReadyH.nil
    go_simp
    have SV : (u.setCell ⟨Z, 8, none⟩ (.slice (some ⟨g4, 0, none⟩) (outs.length + 1) c4)).cell? ⟨w.heap.size, 0, none⟩ = some (.int .i64 14) ∧ (u.setCell ⟨Z, 8, none⟩ (.slice (some ⟨g4, 0, none⟩) (outs.length + 1) c4)).cell? ⟨w.heap.size, 1, none⟩ = some (.int .i64 d) ∧ (u.setCell ⟨Z, 8, none⟩ (.slice (some ⟨g4, 0, none⟩) (outs.length + 1) c4)).cell? ⟨w.heap.size, 2, none⟩ = some (.int .i64 a) ∧ (u.setCell ⟨Z, 8, none⟩ (.slice (some ⟨g4, 0, none⟩) (outs.length + 1) c4)).cell? ⟨w.heap.size, 3, none⟩ = some (.int .i64 k) ∧ (u.setCell ⟨Z, 8, none⟩ (.slice (some ⟨g4, 0, none⟩) (outs.length + 1) c4)).cell? ⟨Z, 0, none⟩ = some (.slice (some ⟨b1, o1, none⟩) regs.length k1) ∧ (u.setCell ⟨Z, 8, none⟩ (.slice (some ⟨g4, 0, none⟩) (outs.length + 1) c4)).cell? ⟨b1, o1 + d, none⟩ = some (.int .i64 y) := ⟨far SU.1 (Ne.symm nI.out), far SU.2.1 (Ne.symm nI.out), far SU.2.2.1 (Ne.symm nI.out), far SU.2.2.2.1 (Ne.symm nI.out), (PU.out.set 8 (.slice (some ⟨g4, 0, none⟩) (outs.length + 1) c4) (by simp) rfl).r.cell 0 _ rfl, far SU.2.2.2.2.2 (Ne.symm hne)⟩
    refine hK.out _ _ SV (fun hHeld => ?_)
    clear hK K
    try simp only [Act.put, List.setIfInBounds_toArray, List.set]
    refine wpAnyH_done (by kernel_rfl) ?_ _
    have PB2 := hide (PU.out.set 8 (.slice (some ⟨g4, 0, none⟩) (outs.length + 1) c4) (by simp) rfl)
    have PC2 := hide (CMach.other CU.out PU.out.t mach_int 8 (.slice (some ⟨g4, 0, none⟩) (outs.length + 1) c4))
    have PN' := hide (show PM A (u.setCell ⟨Z, 8, none⟩ (.slice (some ⟨g4, 0, none⟩) (outs.length + 1) c4)) Z ⟨regs, pc, mem, save, lets, waits, halt, ins, outs ++ [y], count⟩ from ⟨b1, o1, k1, b2, o2, k2, b3, o3, k3, g4, c4, by simpa only [mv, List.set, List.length_append, List.length_cons, List.length_nil, Nat.zero_add] using PB2.out, by simpa only [mv, List.length_append, List.length_cons, List.length_nil, Nat.zero_add] using PC2.out, HA.out.1, HA.out.2.1, HA.out.2.2.1, AG.out⟩)
    have KN' := hide (KU.out.turn ((Turn.refl Z u).setCell (p := ⟨Z, 8, none⟩) rfl (.slice (some ⟨g4, 0, none⟩) (outs.length + 1) c4)) (fun j _ hn e => hn (Or.inl e)))
    have q0 : Hid (0 ≤ (pc + 1) % 65536 ∧ (pc + 1) % 65536 < 65536) := by show _ ∧ _; omega
    have EN := HD
    have zz1 := PB2.out.r.cell 1 _ rfl
    clear PB2 PC2 PU CU KU IU AG SU SV zu8 yu8 SS S1 z8d z8a z8b z8c PB1 PC0 PC1 I1 KV1 BA OW HC L9 L10 HD HFR hHeld i0 i1 i2 i3 z0 z1 cy wV nI
    go_wp2_with fail
    refine (behind Z pc _ zz1 p0 p1).mono ?_
    rintro e u3 ⟨rfl, rfl⟩
    go_wp2
    go_ret
    exact Or.inl ⟨_, _, rfl, PN'.out, KN'.out, q0.out.1, q0.out.2, ⟨c0, c1⟩, EN.out⟩
  · go_simp
    refine hK.out _ _ S1 (fun hHeld => ?_)
    clear hK K
    try simp only [Act.put, List.setIfInBounds_toArray, List.set]
    refine wpAnyH_ready (rs := [4]) (by kernel_rfl) (by simp) ?_
    refine AllReadyH.cons rfl (fun K hK => ?_) AllReadyH.nil
    go_simp
    refine hK.out _ _ S1 (fun hHeld => ?_)
    clear hK K
    try simp only [Act.put, List.setIfInBounds_toArray, List.set]
    refine wpAnyH_ready (rs := [14]) (by kernel_rfl) (by simp) ?_
    refine AllReadyH.cons rfl (fun K hK => ?_) AllReadyH.nil
    refine step_push rfl _ _ rfl 0 b4 k4 outs rfl OW.out (Nat.zero_le _) ⟨V.heap.size, 0, none⟩ y rfl HC.out L10.out ?_
    intro g4 c4 u ho hor hlt ht
    have PU := hide (PB1.out.turn ht nZ4)
    obtain ⟨CU0, _⟩ := CMach.push (m := ⟨regs, pc, mem, save, lets, waits, halt, ins, outs, count⟩) PC0.out BA.out ho hor ht (Nat.zero_le _)
    have CU := hide CU0
    have KU := hide (KV1.out.turn ht (fun j _ hn => grip_turn HA.out.2.2.2 j hn))
    have IU := hide (I1.out.turn ht nI4)
    have AG : Hid (A g4) := hor.elim (fun e => by rw [e]; exact HA.out.2.2.2) (fun e => HFR.out _ (Nat.le_trans wV.out e))
    have SU : u.cell? ⟨w.heap.size, 0, none⟩ = some (.int .i64 14) ∧ u.cell? ⟨w.heap.size, 1, none⟩ = some (.int .i64 d) ∧ u.cell? ⟨w.heap.size, 2, none⟩ = some (.int .i64 a) ∧ u.cell? ⟨w.heap.size, 3, none⟩ = some (.int .i64 k) ∧ u.cell? ⟨Z, 0, none⟩ = some (.slice (some ⟨b1, o1, none⟩) regs.length k1) ∧ u.cell? ⟨b1, o1 + d, none⟩ = some (.int .i64 y) := ⟨IU.out.r.cell 0 _ rfl, IU.out.r.cell 1 _ rfl, IU.out.r.cell 2 _ rfl, IU.out.r.cell 3 _ rfl, PU.out.r.cell 0 _ rfl, (ht.cell (p := ⟨b1, o1 + d, none⟩) (World.block_lt_of_cell? _ _ S1.2.2.2.2.2) dd.2.2.1).trans S1.2.2.2.2.2⟩
    have zu8 := PU.out.r.cell 8 _ rfl
    have yu8 := PU.out.r.soft 8
    simp only [List.length_append, List.length_cons, List.length_nil, Nat.zero_add] at CU ⊢
    clear ho hor hlt ht CU0
    refine hK.out _ _ SU (fun hHeld => ?_)
    clear hK K
    try simp only [Act.put, List.setIfInBounds_toArray, List.set]
    refine wpAnyH_take (i := 15) (v := ?_) rfl (by kernel_rfl) (by kernel_rfl) (by kernel_rfl) (fun _ _ _ h => h) (Or.inl ⟨by rfl, ?_⟩) hHeld ?_
    rotate_left
    · intro w' hSw
      (try dsimp only at hSw)
      go_simp
      first | done | with_reducible rfl
    try simp only [Act.put, List.setIfInBounds_toArray, List.set]
    refine wpAnyH_take (i := 16) (v := ?_) rfl (by kernel_rfl) (by kernel_rfl) (by kernel_rfl) (fun _ _ _ h => h) (Or.inl ⟨by rfl, ?_⟩) hHeld ?_
    rotate_left
    · intro w' hSw
      (try dsimp only at hSw)
      go_simp
      first | done | with_reducible rfl
    try simp only [Act.put, List.setIfInBounds_toArray, List.set]
    refine wpAnyH_ready (rs := [17]) (by kernel_rfl) (by simp) ?_
    refine AllReadyH.cons rfl (fun K hK => ?_) AllReadyH.nil
    go_simp
    have SV : (u.setCell ⟨Z, 8, none⟩ (.slice (some ⟨g4, 0, none⟩) (outs.length + 1) c4)).cell? ⟨w.heap.size, 0, none⟩ = some (.int .i64 14) ∧ (u.setCell ⟨Z, 8, none⟩ (.slice (some ⟨g4, 0, none⟩) (outs.length + 1) c4)).cell? ⟨w.heap.size, 1, none⟩ = some (.int .i64 d) ∧ (u.setCell ⟨Z, 8, none⟩ (.slice (some ⟨g4, 0, none⟩) (outs.length + 1) c4)).cell? ⟨w.heap.size, 2, none⟩ = some (.int .i64 a) ∧ (u.setCell ⟨Z, 8, none⟩ (.slice (some ⟨g4, 0, none⟩) (outs.length + 1) c4)).cell? ⟨w.heap.size, 3, none⟩ = some (.int .i64 k) ∧ (u.setCell ⟨Z, 8, none⟩ (.slice (some ⟨g4, 0, none⟩) (outs.length + 1) c4)).cell? ⟨Z, 0, none⟩ = some (.slice (some ⟨b1, o1, none⟩) regs.length k1) ∧ (u.setCell ⟨Z, 8, none⟩ (.slice (some ⟨g4, 0, none⟩) (outs.length + 1) c4)).cell? ⟨b1, o1 + d, none⟩ = some (.int .i64 y) := ⟨far SU.1 (Ne.symm nI.out), far SU.2.1 (Ne.symm nI.out), far SU.2.2.1 (Ne.symm nI.out), far SU.2.2.2.1 (Ne.symm nI.out), (PU.out.set 8 (.slice (some ⟨g4, 0, none⟩) (outs.length + 1) c4) (by simp) rfl).r.cell 0 _ rfl, far SU.2.2.2.2.2 (Ne.symm hne)⟩
    refine hK.out _ _ SV (fun hHeld => ?_)
    clear hK K
    try simp only [Act.put, List.setIfInBounds_toArray, List.set]
    refine wpAnyH_done (by kernel_rfl) ?_ _
    have PB2 := hide (PU.out.set 8 (.slice (some ⟨g4, 0, none⟩) (outs.length + 1) c4) (by simp) rfl)
    have PC2 := hide (CMach.other CU.out PU.out.t mach_int 8 (.slice (some ⟨g4, 0, none⟩) (outs.length + 1) c4))
    have PN' := hide (show PM A (u.setCell ⟨Z, 8, none⟩ (.slice (some ⟨g4, 0, none⟩) (outs.length + 1) c4)) Z ⟨regs, pc, mem, save, lets, waits, halt, ins, outs ++ [y], count⟩ from ⟨b1, o1, k1, b2, o2, k2, b3, o3, k3, g4, c4, by simpa only [mv, List.set, List.length_append, List.length_cons, List.length_nil, Nat.zero_add] using PB2.out, by simpa only [mv, List.length_append, List.length_cons, List.length_nil, Nat.zero_add] using PC2.out, HA.out.1, HA.out.2.1, HA.out.2.2.1, AG.out⟩)
    have KN' := hide (KU.out.turn ((Turn.refl Z u).setCell (p := ⟨Z, 8, none⟩) rfl (.slice (some ⟨g4, 0, none⟩) (outs.length + 1) c4)) (fun j _ hn e => hn (Or.inl e)))
    have q0 : Hid (0 ≤ (pc + 1) % 65536 ∧ (pc + 1) % 65536 < 65536) := by show _ ∧ _; omega
    have EN := HD
    have zz1 := PB2.out.r.cell 1 _ rfl
    clear PB2 PC2 PU CU KU IU AG SU SV zu8 yu8 SS S1 z8d z8a z8b z8c PB1 PC0 PC1 I1 KV1 BA OW HC L9 L10 HD HFR hHeld i0 i1 i2 i3 z0 z1 cy wV nI
    go_wp2_with fail
    refine (behind Z pc _ zz1 p0 p1).mono ?_
    rintro e u3 ⟨rfl, rfl⟩
    go_wp2
    go_ret
    exact Or.inl ⟨_, _, rfl, PN'.out, KN'.out, q0.out.1, q0.out.2, ⟨c0, c1⟩, EN.out⟩
end Go.Proofs.YtnhpmbhphbphaaaGreat.MchI
