/-
  Bytes: the specification's IrRead.
-/
import Derived.Test.YtkeelacobknfbaaDoorWrL
namespace Go.Proofs.YtkeelacobknfbaaDoor.Wr
set_option linter.unusedVariables false
set_option linter.unusedSimpArgs false
open Go.ChangeShapes Go.WideShapes Go.ChangeAt Go.RowKit IntS Flat
open Ir Push
open Mch (Rec)
open Irk (flatO flatO_app)
open Dt (blkR toT bkOf New)
set_option maxRecDepth 8000 in
set_option maxHeartbeats 32000000 in
theorem specRead (ys : List Int) (B : Nat) (q : Option Addr) (n c : Nat) (w : World) (h : BytS.Row w B (.slice q n c) ys) (hl : ys.length = n) (hn : n ≤ 1048576) (hy : ∀ y ∈ ys, 0 ≤ y ∧ y < 256) (hB : ys = [] ∨ B < w.heap.size) :
    Calls Tryd.prog 17 #[.slice q n c] w fun r w' => ∃ cs', r = .returned (.tuple #[.agg cs'.toArray, .bool (readOk ys)]) ∧ blkR.ow w' (New w w') cs' (toT (readB ys)) ∧ Below w.heap.size w w' := by
  have b1 : Below w.heap.size w (w.alloc (.cells #[.int .i64 0, .int .i64 0, .slice none 0 0, .int .i64 0, .int .i64 0, .int .i64 0, .int .i64 0] 25)) := (Below.refl _ _).alloc (Nat.le_refl _) _
  have RZ := hide (Rec.new w [.int .i64 0, .int .i64 0, .slice none 0 0, .int .i64 0, .int .i64 0, .int .i64 0, .int .i64 0] 25)
  have BW := hide b1
  have NO : Hid (readOk ys = false → readB ys = nilB) := fun e => by show readB ys = nilB; unfold readB; rw [e]; rfl
  have YES : Hid (lenY n = true → readOk ys = okB (blkY ys ((n - 7) / 6)) ∧ (okB (blkY ys ((n - 7) / 6)) = true → readB ys = blkY ys ((n - 7) / 6))) := fun e => by
    have e1 : readOk ys = okB (blkY ys ((n - 7) / 6)) := by unfold readOk; rw [hl, e]; rfl
    exact ⟨e1, fun h => by unfold readB; rw [e1, if_pos h, hl]⟩
  have NOL : Hid (lenY n = false → readOk ys = false) := fun e => by show readOk ys = false; unfold readOk; rw [hl, e]; rfl
  obtain ⟨ro, ero⟩ : ∃ z, readOk ys = z := ⟨_, rfl⟩
  obtain ⟨rb, erb⟩ : ∃ z, readB ys = z := ⟨_, rfl⟩
  rw [ero, erb] at NO YES ⊢
  rw [ero] at NOL
  obtain ⟨a, cap, off, hv, g2, g3, -, g4⟩ := h.ex
  injection hv with i1 i2 i3
  subst i1
  subst i3
  have g3' := g3
  unfold maxLen at g3
  rw [hl] at g2
  have HL := hide hl
  have HY := hide hy
  have HB := hide hB
  clear h hl hy hB b1 ero erb i2
  have NILGO : ∀ V : World, Hid (Below w.heap.size w V) → ∀ p1, Hid (Turn w.heap.size V p1) → blkR.ow p1 (New w p1) [.int .i64 0, .int .i64 0, .slice none 0 0, .int .i64 0, .int .i64 0, .int .i64 0, .int .i64 0] (toT nilB) ∧ Below w.heap.size w p1 := fun V G1 p1 G2 => ⟨nil_owY _ _, G1.out.trans (G2.out.below (Nat.le_refl _) G1.out.size)⟩
  have NG := hide NILGO
  clear NILGO
  by_cases h7 : n < 7 ∨ (n - 7) % 6 ≠ 0 ∨ 295 < n
  · have eL : lenY n = false := decide_eq_false (by omega)
    obtain rfl := NOL.out eL
    obtain rfl := NO.out rfl
    clear g4 NO YES NOL eL HL HY HB
    by_cases c1 : n < 7
    · have k1 : ((n : Nat) : Int) < 7 := by omega
      go_enter Tryd.func17, Tryd.ntmps17
      go_wp2_with (refine lay7 rfl rfl _ _ rfl w.heap.size _ _ _ _ _ _ _ RZ.out rfl _ _ _ _ _ _ _ _ _ rfl ?_; intro p1 RX TX; refine Hid.out ?_)
      have FIN := hide (NG.out _ BW p1 TX)
      clear TX RZ BW
      refine hide ?_
      have y0 := RX.out.cell 0 _ rfl
      have y1 := RX.out.cell 1 _ rfl
      have y2 := RX.out.cell 2 _ rfl
      have y3 := RX.out.cell 3 _ rfl
      have y4 := RX.out.cell 4 _ rfl
      have y5 := RX.out.cell 5 _ rfl
      have y6 := RX.out.cell 6 _ rfl
      go_wp2
      exact bodyPost_ret (v := .tuple #[.agg #[.int .i64 0, .int .i64 0, .slice none 0 0, .int .i64 0, .int .i64 0, .int .i64 0, .int .i64 0], .bool false]) (by simp [results, Tryd.results17, go_sem, y0, y1, y2, y3, y4, y5, y6]) rfl ⟨_, rfl, FIN.out⟩
    · have k1 : ¬ ((n : Nat) : Int) < 7 := by omega
      by_cases c2 : (n - 7) % 6 ≠ 0
      · have k2 : 0 < (((n : Nat) : Int) - 7) % 6 := by omega
        have k3 : (((n : Nat) : Int) - 7).tmod 6 = (((n : Nat) : Int) - 7) % 6 := Int.tmod_eq_emod_of_nonneg (by omega)
        go_enter Tryd.func17, Tryd.ntmps17
        go_wp2_with (refine lay7 rfl rfl _ _ rfl w.heap.size _ _ _ _ _ _ _ RZ.out rfl _ _ _ _ _ _ _ _ _ rfl ?_; intro p1 RX TX; refine Hid.out ?_)
        have FIN := hide (NG.out _ BW p1 TX)
        clear TX RZ BW
        refine hide ?_
        have y0 := RX.out.cell 0 _ rfl
        have y1 := RX.out.cell 1 _ rfl
        have y2 := RX.out.cell 2 _ rfl
        have y3 := RX.out.cell 3 _ rfl
        have y4 := RX.out.cell 4 _ rfl
        have y5 := RX.out.cell 5 _ rfl
        have y6 := RX.out.cell 6 _ rfl
        go_wp2
        exact bodyPost_ret (v := .tuple #[.agg #[.int .i64 0, .int .i64 0, .slice none 0 0, .int .i64 0, .int .i64 0, .int .i64 0, .int .i64 0], .bool false]) (by simp [results, Tryd.results17, go_sem, y0, y1, y2, y3, y4, y5, y6]) rfl ⟨_, rfl, FIN.out⟩
      · have k2 : ¬ 0 < (((n : Nat) : Int) - 7) % 6 := by omega
        have k3 : (((n : Nat) : Int) - 7).tmod 6 = (((n : Nat) : Int) - 7) % 6 := Int.tmod_eq_emod_of_nonneg (by omega)
        have k4 : (295 : Int) < ((n : Nat) : Int) := by omega
        go_enter Tryd.func17, Tryd.ntmps17
        go_wp2_with (refine lay7 rfl rfl _ _ rfl w.heap.size _ _ _ _ _ _ _ RZ.out rfl _ _ _ _ _ _ _ _ _ rfl ?_; intro p1 RX TX; refine Hid.out ?_)
        have FIN := hide (NG.out _ BW p1 TX)
        clear TX RZ BW
        refine hide ?_
        have y0 := RX.out.cell 0 _ rfl
        have y1 := RX.out.cell 1 _ rfl
        have y2 := RX.out.cell 2 _ rfl
        have y3 := RX.out.cell 3 _ rfl
        have y4 := RX.out.cell 4 _ rfl
        have y5 := RX.out.cell 5 _ rfl
        have y6 := RX.out.cell 6 _ rfl
        go_wp2
        exact bodyPost_ret (v := .tuple #[.agg #[.int .i64 0, .int .i64 0, .slice none 0 0, .int .i64 0, .int .i64 0, .int .i64 0, .int .i64 0], .bool false]) (by simp [results, Tryd.results17, go_sem, y0, y1, y2, y3, y4, y5, y6]) rfl ⟨_, rfl, FIN.out⟩
  · have eL : lenY n = true := decide_eq_true (by omega)
    obtain ⟨eok, erb⟩ := YES.out eL
    have EOK := hide eok
    have ERB := hide erb
    have NO2 := NO
    have k1 : ¬ ((n : Nat) : Int) < 7 := by omega
    have k2 : ¬ 0 < (((n : Nat) : Int) - 7) % 6 := by omega
    have k3 : (((n : Nat) : Int) - 7).tmod 6 = (((n : Nat) : Int) - 7) % 6 := Int.tmod_eq_emod_of_nonneg (by omega)
    have k4 : ¬ (295 : Int) < ((n : Nat) : Int) := by omega
    have G : ∀ i, i < 7 → ∃ y, ys[i]? = some y ∧ 0 ≤ y ∧ y < 256 := fun i hi => by
      obtain ⟨y, ey⟩ : ∃ y, ys[i]? = some y := ⟨_, List.getElem?_eq_getElem (by rw [HL.out]; omega)⟩
      exact ⟨y, ey, HY.out y (List.mem_of_getElem? ey)⟩
    obtain ⟨y0, E0, a0, d0⟩ := G 0 (by omega)
    obtain ⟨y1, E1, a1, d1⟩ := G 1 (by omega)
    obtain ⟨y2, E2, a2, d2⟩ := G 2 (by omega)
    obtain ⟨y3, E3, a3, d3⟩ := G 3 (by omega)
    obtain ⟨y4, E4, a4, d4⟩ := G 4 (by omega)
    have ne : ys ≠ [] := fun e => by rw [e] at E0; simp at E0
    obtain ⟨rfl, g5⟩ := g4.resolve_left ne
    have cy0 : CY B off ys w := g5
    have hBw := HB.out.resolve_left ne
    have CW := hide cy0
    have EE : Hid (atY ys 0 = y0 ∧ atY ys 1 = y1 ∧ atY ys 2 = y2 ∧ atY ys 3 = y3 ∧ atY ys 4 = y4) := ⟨at_of E0, at_of E1, at_of E2, at_of E3, at_of E4⟩
    have F0 := hide E0
    have F1 := hide E1
    have F2 := hide E2
    have F3 := hide E3
    have F4 := hide E4
    have v0 : IntKind.i64.wrap y0 = y0 := by rw [IntKind.wrap_i64]; omega
    have v1 : IntKind.i64.wrap y1 = y1 := by rw [IntKind.wrap_i64]; omega
    have v2 : IntKind.i64.wrap y2 = y2 := by rw [IntKind.wrap_i64]; omega
    have v3 : IntKind.i64.wrap y3 = y3 := by rw [IntKind.wrap_i64]; omega
    have v4 : IntKind.i64.wrap y4 = y4 := by rw [IntKind.wrap_i64]; omega
    have n0 : 0 < n := by omega
    have n1 : (1 : Int) < (n : Nat) := by omega
    have n2 : (2 : Int) < (n : Nat) := by omega
    have n3 : (3 : Int) < (n : Nat) := by omega
    have n4 : (4 : Int) < (n : Nat) := by omega
    clear g4 g5 cy0 G eok erb YES NO NOL eL E0 E1 E2 E3 E4 HB ne
    go_enter Tryd.func17, Tryd.ntmps17
    go_wp2_with fail
    refine (wpIn_wide (n := 0)).1 ?_
    generalize w.alloc (.cells #[.int .i64 0, .int .i64 0, .slice none 0 0, .int .i64 0, .int .i64 0, .int .i64 0, .int .i64 0] 25) = u0 at RZ BW ⊢
    have bA : Below u0.heap.size u0 u0.drew := (Below.refl _ _).drew
    replace RZ := hide (RZ.out.below bA)
    replace BW := hide (BW.out.trans (bA.mono BW.out.size))
    clear bA
    refine PhaseIn.region (S := fun v => CY B off ys v) 24 (by kernel_rfl) ?_
    generalize u0.drew = d1' at RZ BW ⊢
    have hHeld : CY B off ys d1' := CW.out.below BW.out
    have SZ : Hid (w.heap.size < d1'.heap.size) := RZ.out.lt
    refine PhaseIn.takeD (i := 0) (v := ?_) [0, 1, 2, 3, 22, 24] 22 rfl (by rfl) (by kernel_rfl) (by kernel_rfl) (by kernel_rfl) (by kernel_rfl) (by kernel_rfl) (fun _ _ _ h => h) (Or.inl ⟨by kernel_rfl, ?_⟩) hHeld ?_
    rotate_left
    · intro w' hSw
      (try dsimp only at hSw)
      go_simp
      first | done | with_reducible rfl
    try simp only [Act.put, List.setIfInBounds_toArray, List.set]
    refine PhaseIn.takeD (i := 1) (v := ?_) [1, 2, 3, 22, 24] 23 rfl (by rfl) (by kernel_rfl) (by kernel_rfl) (by kernel_rfl) (by kernel_rfl) (by kernel_rfl) (fun _ _ _ h => h) (Or.inl ⟨by kernel_rfl, ?_⟩) hHeld ?_
    rotate_left
    · intro w' hSw
      (try dsimp only at hSw)
      go_simp
      first | done | with_reducible rfl
    try simp only [Act.put, List.setIfInBounds_toArray, List.set]
    refine PhaseIn.takeD (i := 2) (v := ?_) [2, 3, 22, 24] 24 rfl (by rfl) (by kernel_rfl) (by kernel_rfl) (by kernel_rfl) (by kernel_rfl) (by kernel_rfl) (fun _ _ _ h => h) (Or.inl ⟨by kernel_rfl, ?_⟩) hHeld ?_
    rotate_left
    · intro w' hSw
      (try dsimp only at hSw)
      have z := hSw 0 y0 F0.out
      rw [Nat.add_zero] at z
      go_simp
      first | done | with_reducible rfl
    try simp only [Act.put, List.setIfInBounds_toArray, List.set]
    refine PhaseIn.takeD (i := 3) (v := ?_) [3, 22, 24] 25 rfl (by rfl) (by kernel_rfl) (by kernel_rfl) (by kernel_rfl) (by kernel_rfl) (by kernel_rfl) (fun _ _ _ h => h) (Or.inl ⟨by kernel_rfl, ?_⟩) hHeld ?_
    rotate_left
    · intro w' hSw
      (try dsimp only at hSw)
      go_simp
      first | done | with_reducible rfl
    try simp only [Act.put, List.setIfInBounds_toArray, List.set]
    refine PhaseIn.takeD (i := 4) (v := ?_) [4, 5, 6, 7, 22, 24] 26 rfl (by rfl) (by kernel_rfl) (by kernel_rfl) (by kernel_rfl) (by kernel_rfl) (by kernel_rfl) (fun _ _ _ h => h) (Or.inl ⟨by kernel_rfl, ?_⟩) hHeld ?_
    rotate_left
    · intro w' hSw
      (try dsimp only at hSw)
      go_simp
      first | done | with_reducible rfl
    try simp only [Act.put, List.setIfInBounds_toArray, List.set]
    refine PhaseIn.takeD (i := 5) (v := ?_) [5, 6, 7, 22, 24] 27 rfl (by rfl) (by kernel_rfl) (by kernel_rfl) (by kernel_rfl) (by kernel_rfl) (by kernel_rfl) (fun _ _ _ h => h) (Or.inl ⟨by kernel_rfl, ?_⟩) hHeld ?_
    rotate_left
    · intro w' hSw
      (try dsimp only at hSw)
      go_simp
      first | done | with_reducible rfl
    try simp only [Act.put, List.setIfInBounds_toArray, List.set]
    refine PhaseIn.takeD (i := 6) (v := ?_) [6, 7, 22, 24] 28 rfl (by rfl) (by kernel_rfl) (by kernel_rfl) (by kernel_rfl) (by kernel_rfl) (by kernel_rfl) (fun _ _ _ h => h) (Or.inl ⟨by kernel_rfl, ?_⟩) hHeld ?_
    rotate_left
    · intro w' hSw
      (try dsimp only at hSw)
      have z := hSw 1 y1 F1.out
      go_simp
      first | done | with_reducible rfl
    try simp only [Act.put, List.setIfInBounds_toArray, List.set]
    refine PhaseIn.takeD (i := 7) (v := ?_) [7, 22, 24] 29 rfl (by rfl) (by kernel_rfl) (by kernel_rfl) (by kernel_rfl) (by kernel_rfl) (by kernel_rfl) (fun _ _ _ h => h) (Or.inl ⟨by kernel_rfl, ?_⟩) hHeld ?_
    rotate_left
    · intro w' hSw
      (try dsimp only at hSw)
      go_simp
      first | done | with_reducible rfl
    try simp only [Act.put, List.setIfInBounds_toArray, List.set]
    refine PhaseIn.takeD (i := 8) (v := ?_) [8, 9, 10, 11, 22, 24] 30 rfl (by rfl) (by kernel_rfl) (by kernel_rfl) (by kernel_rfl) (by kernel_rfl) (by kernel_rfl) (fun _ _ _ h => h) (Or.inl ⟨by kernel_rfl, ?_⟩) hHeld ?_
    rotate_left
    · intro w' hSw
      (try dsimp only at hSw)
      go_simp
      first | done | with_reducible rfl
    try simp only [Act.put, List.setIfInBounds_toArray, List.set]
    refine PhaseIn.takeD (i := 9) (v := ?_) [9, 10, 11, 22, 24] 31 rfl (by rfl) (by kernel_rfl) (by kernel_rfl) (by kernel_rfl) (by kernel_rfl) (by kernel_rfl) (fun _ _ _ h => h) (Or.inl ⟨by kernel_rfl, ?_⟩) hHeld ?_
    rotate_left
    · intro w' hSw
      (try dsimp only at hSw)
      go_simp
      first | done | with_reducible rfl
    try simp only [Act.put, List.setIfInBounds_toArray, List.set]
    refine PhaseIn.takeD (i := 10) (v := ?_) [10, 11, 22, 24] 32 rfl (by rfl) (by kernel_rfl) (by kernel_rfl) (by kernel_rfl) (by kernel_rfl) (by kernel_rfl) (fun _ _ _ h => h) (Or.inl ⟨by kernel_rfl, ?_⟩) hHeld ?_
    rotate_left
    · intro w' hSw
      (try dsimp only at hSw)
      have z := hSw 2 y2 F2.out
      go_simp
      first | done | with_reducible rfl
    try simp only [Act.put, List.setIfInBounds_toArray, List.set]
    refine PhaseIn.takeD (i := 11) (v := ?_) [11, 22, 24] 33 rfl (by rfl) (by kernel_rfl) (by kernel_rfl) (by kernel_rfl) (by kernel_rfl) (by kernel_rfl) (fun _ _ _ h => h) (Or.inl ⟨by kernel_rfl, ?_⟩) hHeld ?_
    rotate_left
    · intro w' hSw
      (try dsimp only at hSw)
      go_simp
      first | done | with_reducible rfl
    try simp only [Act.put, List.setIfInBounds_toArray, List.set]
    refine PhaseIn.takeD (i := 12) (v := ?_) [12, 13, 14, 15, 22, 24] 34 rfl (by rfl) (by kernel_rfl) (by kernel_rfl) (by kernel_rfl) (by kernel_rfl) (by kernel_rfl) (fun _ _ _ h => h) (Or.inl ⟨by kernel_rfl, ?_⟩) hHeld ?_
    rotate_left
    · intro w' hSw
      (try dsimp only at hSw)
      go_simp
      first | done | with_reducible rfl
    try simp only [Act.put, List.setIfInBounds_toArray, List.set]
    refine PhaseIn.takeD (i := 13) (v := ?_) [13, 14, 15, 22, 24] 35 rfl (by rfl) (by kernel_rfl) (by kernel_rfl) (by kernel_rfl) (by kernel_rfl) (by kernel_rfl) (fun _ _ _ h => h) (Or.inl ⟨by kernel_rfl, ?_⟩) hHeld ?_
    rotate_left
    · intro w' hSw
      (try dsimp only at hSw)
      go_simp
      first | done | with_reducible rfl
    try simp only [Act.put, List.setIfInBounds_toArray, List.set]
    refine PhaseIn.takeD (i := 14) (v := ?_) [14, 15, 22, 24] 36 rfl (by rfl) (by kernel_rfl) (by kernel_rfl) (by kernel_rfl) (by kernel_rfl) (by kernel_rfl) (fun _ _ _ h => h) (Or.inl ⟨by kernel_rfl, ?_⟩) hHeld ?_
    rotate_left
    · intro w' hSw
      (try dsimp only at hSw)
      have z := hSw 3 y3 F3.out
      go_simp
      first | done | with_reducible rfl
    try simp only [Act.put, List.setIfInBounds_toArray, List.set]
    refine PhaseIn.takeD (i := 15) (v := ?_) [15, 22, 24] 37 rfl (by rfl) (by kernel_rfl) (by kernel_rfl) (by kernel_rfl) (by kernel_rfl) (by kernel_rfl) (fun _ _ _ h => h) (Or.inl ⟨by kernel_rfl, ?_⟩) hHeld ?_
    rotate_left
    · intro w' hSw
      (try dsimp only at hSw)
      go_simp
      first | done | with_reducible rfl
    try simp only [Act.put, List.setIfInBounds_toArray, List.set]
    refine PhaseIn.takeD (i := 16) (v := ?_) [16, 17, 18, 19, 22, 24] 38 rfl (by rfl) (by kernel_rfl) (by kernel_rfl) (by kernel_rfl) (by kernel_rfl) (by kernel_rfl) (fun _ _ _ h => h) (Or.inl ⟨by kernel_rfl, ?_⟩) hHeld ?_
    rotate_left
    · intro w' hSw
      (try dsimp only at hSw)
      go_simp
      first | done | with_reducible rfl
    try simp only [Act.put, List.setIfInBounds_toArray, List.set]
    refine PhaseIn.takeD (i := 17) (v := ?_) [17, 18, 19, 22, 24] 39 rfl (by rfl) (by kernel_rfl) (by kernel_rfl) (by kernel_rfl) (by kernel_rfl) (by kernel_rfl) (fun _ _ _ h => h) (Or.inl ⟨by kernel_rfl, ?_⟩) hHeld ?_
    rotate_left
    · intro w' hSw
      (try dsimp only at hSw)
      go_simp
      first | done | with_reducible rfl
    try simp only [Act.put, List.setIfInBounds_toArray, List.set]
    refine PhaseIn.takeD (i := 18) (v := ?_) [18, 19, 22, 24] 40 rfl (by rfl) (by kernel_rfl) (by kernel_rfl) (by kernel_rfl) (by kernel_rfl) (by kernel_rfl) (fun _ _ _ h => h) (Or.inl ⟨by kernel_rfl, ?_⟩) hHeld ?_
    rotate_left
    · intro w' hSw
      (try dsimp only at hSw)
      have z := hSw 4 y4 F4.out
      go_simp
      first | done | with_reducible rfl
    try simp only [Act.put, List.setIfInBounds_toArray, List.set]
    refine PhaseIn.takeD (i := 19) (v := ?_) [19, 22, 24] 41 rfl (by rfl) (by kernel_rfl) (by kernel_rfl) (by kernel_rfl) (by kernel_rfl) (by kernel_rfl) (fun _ _ _ h => h) (Or.inl ⟨by kernel_rfl, ?_⟩) hHeld ?_
    rotate_left
    · intro w' hSw
      (try dsimp only at hSw)
      go_simp
      first | done | with_reducible rfl
    try simp only [Act.put, List.setIfInBounds_toArray, List.set]
    refine PhaseIn.takeD (i := 20) (v := ?_) [20, 21, 22, 24] 42 rfl (by rfl) (by kernel_rfl) (by kernel_rfl) (by kernel_rfl) (by kernel_rfl) (by kernel_rfl) (fun _ _ _ h => h) (Or.inl ⟨by kernel_rfl, ?_⟩) hHeld ?_
    rotate_left
    · intro w' hSw
      (try dsimp only at hSw)
      go_simp
      first | done | with_reducible rfl
    try simp only [Act.put, List.setIfInBounds_toArray, List.set]
    refine PhaseIn.two (i := 21) (j := 23) (by kernel_rfl) rfl rfl (by kernel_rfl) (by kernel_rfl) (fun K hK => ?_) (fun K hK => ?_)
    · -- the number first
      unfold Oper.wpIn
      refine ⟨fun _ _ => trivial, ?_⟩
      go_simp
      refine ⟨rfl, (callsIn_wide.2 (l11Num ys B off n c 5 5 _ hHeld HL.out g2 g3' HY.out rfl (by omega))).mono ?_⟩
      rintro r e2 ⟨rfl, hb⟩
      obtain ⟨kk, ekk⟩ : ∃ z, atY ys 5 * 256 + atY ys (5 + 1) = z := ⟨_, rfl⟩
      rw [ekk]
      have EK := hide ekk
      clear ekk
      replace hHeld := hHeld.below hb
      replace RZ := hide (RZ.out.below hb)
      replace BW := hide (BW.out.trans (hb.mono BW.out.size))
      refine hK _ _ (fun _ => hHeld) ?_
      clear hK K hb
      try simp only [Act.put, List.setIfInBounds_toArray, List.set]
      refine PhaseIn.takeD (i := 22) (v := ?_) [22, 24] 44 rfl (by rfl) (by kernel_rfl) (by kernel_rfl) (by kernel_rfl) (by kernel_rfl) (by kernel_rfl) (fun _ _ _ h => h) (Or.inl ⟨by kernel_rfl, ?_⟩) hHeld ?_
      rotate_left
      · intro w' hSw
        (try dsimp only at hSw)
        go_simp
        first | done | with_reducible rfl
      try simp only [Act.put, List.setIfInBounds_toArray, List.set]
      refine PhaseIn.one (i := 23) (by kernel_rfl) rfl (by kernel_rfl) (fun K hK => ?_)
      unfold Oper.wpIn
      refine ⟨fun _ _ => trivial, ?_⟩
      go_simp
      have bP : Below e2.heap.size e2 (e2.alloc (.cells #[.int .i64 0, .int .i64 0, .slice none 0 0, .int .i64 0, .int .i64 0, .int .i64 0, .int .i64 0] 25)) := (Below.refl _ _).alloc (Nat.le_refl _) _
      have RX := hide (Rec.new e2 [.int .i64 0, .int .i64 0, .slice none 0 0, .int .i64 0, .int .i64 0, .int .i64 0, .int .i64 0] 25)
      have XL : Hid (w.heap.size < e2.heap.size) := RZ.out.lt
      replace hHeld := hHeld.below bP
      replace RZ := hide (RZ.out.below bP)
      replace BW := hide (BW.out.trans (bP.mono BW.out.size))
      refine hK _ _ (fun _ => hHeld) ?_
      clear hK K bP
      try simp only [Act.put, List.setIfInBounds_toArray, List.set]
      generalize e2.alloc (.cells #[.int .i64 0, .int .i64 0, .slice none 0 0, .int .i64 0, .int .i64 0, .int .i64 0, .int .i64 0] 25) = V at RX hHeld RZ BW ⊢
      generalize e2.heap.size = Xb at RX XL ⊢
      refine PhaseIn.one (i := 24) (by kernel_rfl) rfl (by kernel_rfl) (fun K hK => ?_)
      have z0 := RX.out.cell 0 _ rfl
      have s0 := RX.out.soft 0
      have z1 := RX.out.cell 1 _ rfl
      have s1 := RX.out.soft 1
      have z2 := RX.out.cell 2 _ rfl
      have s2 := RX.out.soft 2
      have z3 := RX.out.cell 3 _ rfl
      have s3 := RX.out.soft 3
      have z4 := RX.out.cell 4 _ rfl
      have s4 := RX.out.soft 4
      have z5 := RX.out.cell 5 _ rfl
      have s5 := RX.out.soft 5
      have z6 := RX.out.cell 6 _ rfl
      have s6 := RX.out.soft 6
      unfold Oper.wpIn
      refine ⟨fun _ _ => trivial, ?_⟩
      go_simp
      have TX := ((((((((Turn.refl Xb V).setCell (p := ⟨Xb, 0, none⟩) rfl (.int .i64 y0)).setCell (p := ⟨Xb, 1, none⟩) rfl (.int .i64 y1)).setCell (p := ⟨Xb, 2, none⟩) rfl (.slice none 0 0)).setCell (p := ⟨Xb, 3, none⟩) rfl (.int .i64 y2)).setCell (p := ⟨Xb, 4, none⟩) rfl (.int .i64 y3)).setCell (p := ⟨Xb, 5, none⟩) rfl (.int .i64 y4)).setCell (p := ⟨Xb, 6, none⟩) rfl (.int .i64 kk))
      have RX2 := hide (((((((RX.out.set 0 (.int .i64 y0) (by simp) (show _ = [.int .i64 y0, .int .i64 0, .slice none 0 0, .int .i64 0, .int .i64 0, .int .i64 0, .int .i64 0] from rfl)).set 1 (.int .i64 y1) (by simp) (show _ = [.int .i64 y0, .int .i64 y1, .slice none 0 0, .int .i64 0, .int .i64 0, .int .i64 0, .int .i64 0] from rfl)).set 2 (.slice none 0 0) (by simp) (show _ = [.int .i64 y0, .int .i64 y1, .slice none 0 0, .int .i64 0, .int .i64 0, .int .i64 0, .int .i64 0] from rfl)).set 3 (.int .i64 y2) (by simp) (show _ = [.int .i64 y0, .int .i64 y1, .slice none 0 0, .int .i64 y2, .int .i64 0, .int .i64 0, .int .i64 0] from rfl)).set 4 (.int .i64 y3) (by simp) (show _ = [.int .i64 y0, .int .i64 y1, .slice none 0 0, .int .i64 y2, .int .i64 y3, .int .i64 0, .int .i64 0] from rfl)).set 5 (.int .i64 y4) (by simp) (show _ = [.int .i64 y0, .int .i64 y1, .slice none 0 0, .int .i64 y2, .int .i64 y3, .int .i64 y4, .int .i64 0] from rfl)).set 6 (.int .i64 kk) (by simp) (show _ = [.int .i64 y0, .int .i64 y1, .slice none 0 0, .int .i64 y2, .int .i64 y3, .int .i64 y4, .int .i64 kk] from rfl))
      have RZ2 := hide (RZ.out.turn TX (by have := XL.out; omega))
      have BW2 := hide (BW.out.trans (TX.below (by have := XL.out; omega) BW.out.size))
      refine hK _ _ (fun h => absurd h (by decide)) ?_
      clear hK K TX RX RZ BW hHeld z0 s0 z1 s1 z2 s2 z3 s3 z4 s4 z5 s5 z6 s6
      try simp only [Act.put, List.setIfInBounds_toArray, List.set]
      generalize (((((((V.setCell ⟨Xb, 0, none⟩ (.int .i64 y0)).setCell ⟨Xb, 1, none⟩ (.int .i64 y1)).setCell ⟨Xb, 2, none⟩ (.slice none 0 0)).setCell ⟨Xb, 3, none⟩ (.int .i64 y2)).setCell ⟨Xb, 4, none⟩ (.int .i64 y3)).setCell ⟨Xb, 5, none⟩ (.int .i64 y4)).setCell ⟨Xb, 6, none⟩ (.int .i64 kk)) = w1 at RX2 RZ2 BW2 ⊢
      refine PhaseIn.done (by kernel_rfl) ?_ _
      have OO : Hid (OwnO w1 (w.heap.size + 1) (.slice none 0 0) []) := OwnF.nil _ _ _ _
      clear F0 F1 F2 F3 F4
      go_wp2
      go_loopw [5] (fun i wr => ∃ (aa j : Nat) (os : List Opn) (qo : Option Addr) (no co : Nat), i = .int .i64 (aa : Int) ∧ Hid (aa = 7 + 6 * j ∧ aa ≤ n) ∧ Hid (os = opsR ys j) ∧ Hid (OwnO wr (w.heap.size + 1) (.slice qo no co) os) ∧ Hid (Rec Xb [.int .i64 y0, .int .i64 y1, .slice qo no co, .int .i64 y2, .int .i64 y3, .int .i64 y4, .int .i64 kk] wr) ∧ Hid (Rec w.heap.size [.int .i64 0, .int .i64 0, .slice none 0 0, .int .i64 0, .int .i64 0, .int .i64 0, .int .i64 0] wr) ∧ Hid (Below w.heap.size w wr) ∧ Hid (∀ G, qo = some ⟨G, 0, none⟩ → G ≠ Xb)) (fun i _ => n - (intOf i).toNat)
      case atStart => exact ⟨7, 0, [], none, 0, 0, rfl, ⟨rfl, by omega⟩, rfl, OO, RX2, RZ2, BW2, fun G e => by cases e⟩
      case round =>
        clear OO RX2 RZ2 BW2
        obtain ⟨aa, j, os, qo, no, co, rfl, EA, EOS, OO, RC, RZ, BW, QC⟩ := hrel
        have OL := hide (lenO OO.out)
        have NJ : Hid (no = j) := by show no = j; rw [← OL.out, EOS.out, opsR_len]
        have ea := EA.out.1
        have ea2 := EA.out.2
        have nj := NJ.out
        have CL : Hid (w.heap.size < Xb ∧ w.heap.size < wr.heap.size) := ⟨XL.out, RZ.out.lt⟩
        by_cases hlt : aa < n
        · have l0 : ((aa : Nat) : Int) < (n : Nat) := by omega
          have a6 : aa + 6 ≤ n := by omega
          have l1 : ((aa : Nat) : Int) + 1 < (n : Nat) := by omega
          have l2 : ((aa : Nat) : Int) + 2 < (n : Nat) := by omega
          have l5 : ((aa : Nat) : Int) + 5 < (n : Nat) := by omega
          have G : ∀ i, i < 6 → ∃ y, ys[aa + i]? = some y ∧ 0 ≤ y ∧ y < 256 := fun i hi => by
            obtain ⟨y, ey⟩ : ∃ y, ys[aa + i]? = some y := ⟨_, List.getElem?_eq_getElem (by rw [HL.out]; omega)⟩
            exact ⟨y, ey, HY.out y (List.mem_of_getElem? ey)⟩
          obtain ⟨o0, G0, p0, q0⟩ := G 0 (by omega)
          obtain ⟨o1, G1, p1, q1⟩ := G 1 (by omega)
          obtain ⟨o2, G2, p2, q2⟩ := G 2 (by omega)
          obtain ⟨o5, G5, p5, q5⟩ := G 5 (by omega)
          have AE : Hid (atY ys aa = o0 ∧ atY ys (aa + 1) = o1 ∧ atY ys (aa + 2) = o2 ∧ atY ys (aa + 5) = o5) := ⟨at_of G0, at_of G1, at_of G2, at_of G5⟩
          have K0 := hide G0
          have K1 := hide G1
          have K2 := hide G2
          have K5 := hide G5
          have u0 : IntKind.i64.wrap o0 = o0 := by rw [IntKind.wrap_i64]; omega
          have u1 : IntKind.i64.wrap o1 = o1 := by rw [IntKind.wrap_i64]; omega
          have u2 : IntKind.i64.wrap o2 = o2 := by rw [IntKind.wrap_i64]; omega
          have u5 : IntKind.i64.wrap o5 = o5 := by rw [IntKind.wrap_i64]; omega
          have t1 : IntKind.i64.wrap ((aa : Int) + 1) = (aa : Int) + 1 := by rw [IntKind.wrap_i64]; omega
          have t2 : IntKind.i64.wrap ((aa : Int) + 2) = (aa : Int) + 2 := by rw [IntKind.wrap_i64]; omega
          have t3 : IntKind.i64.wrap ((aa : Int) + 3) = (aa : Int) + 3 := by rw [IntKind.wrap_i64]; omega
          have t5 : IntKind.i64.wrap ((aa : Int) + 5) = (aa : Int) + 5 := by rw [IntKind.wrap_i64]; omega
          have m1 : (0 : Int) ≤ (aa : Int) + 1 := by omega
          have x2 : ((aa : Int) + 2).toNat = aa + 2 := by omega
          have x5 : ((aa : Int) + 5).toNat = aa + 5 := by omega
          have m2 : (0 : Int) ≤ (aa : Int) + 2 := by omega
          have m5 : (0 : Int) ≤ (aa : Int) + 5 := by omega
          clear G G0 G1 G2 G5 ea ea2 nj
          go_wp2_with fail
          refine (wpIn_wide (n := 0)).1 ?_
          have bA : Below wr.heap.size wr wr.drew := (Below.refl _ _).drew
          replace OO := hide (OO.out.below bA)
          replace RC := hide (RC.out.below bA)
          replace RZ := hide (RZ.out.below bA)
          replace BW := hide (BW.out.trans (bA.mono BW.out.size))
          clear bA
          refine PhaseIn.region (S := fun v => Rec Xb [.int .i64 y0, .int .i64 y1, .slice qo no co, .int .i64 y2, .int .i64 y3, .int .i64 y4, .int .i64 kk] v ∧ CY B off ys v) 31 (by kernel_rfl) ?_
          generalize wr.drew = e1 at OO RC RZ BW ⊢
          have hHeld : Rec Xb [.int .i64 y0, .int .i64 y1, .slice qo no co, .int .i64 y2, .int .i64 y3, .int .i64 y4, .int .i64 kk] e1 ∧ CY B off ys e1 := ⟨RC.out, CW.out.below BW.out⟩
          clear RC
          refine PhaseIn.takeD (i := 0) (v := ?_) [0, 1, 31, 32, 33] 51 rfl (by rfl) (by kernel_rfl) (by kernel_rfl) (by kernel_rfl) (by kernel_rfl) (by kernel_rfl) (fun _ _ _ h => h) (Or.inl ⟨by kernel_rfl, ?_⟩) hHeld ?_
          rotate_left
          · intro w' hSw
            (try dsimp only at hSw)
            go_simp
            first | done | with_reducible rfl
          try simp only [Act.put, List.setIfInBounds_toArray, List.set]
          refine PhaseIn.takeD (i := 1) (v := ?_) [1, 31, 32, 33] 52 rfl (by rfl) (by kernel_rfl) (by kernel_rfl) (by kernel_rfl) (by kernel_rfl) (by kernel_rfl) (fun _ _ _ h => h) (Or.inl ⟨by kernel_rfl, ?_⟩) hHeld ?_
          rotate_left
          · intro w' hSw
            (try dsimp only at hSw)
            have z := hSw.1.cell 2 _ rfl
            go_simp
            first | done | with_reducible rfl
          try simp only [Act.put, List.setIfInBounds_toArray, List.set]
          refine PhaseIn.takeD (i := 2) (v := ?_) [2, 4, 5, 6, 29, 30, 31, 32, 33] 53 rfl (by rfl) (by kernel_rfl) (by kernel_rfl) (by kernel_rfl) (by kernel_rfl) (by kernel_rfl) (fun _ _ _ h => h) (Or.inl ⟨by kernel_rfl, ?_⟩) hHeld ?_
          rotate_left
          · intro w' hSw
            (try dsimp only at hSw)
            go_simp
            first | done | with_reducible rfl
          try simp only [Act.put, List.setIfInBounds_toArray, List.set]
          refine PhaseIn.takeD (i := 3) (v := ?_) [3, 4, 5, 6, 29, 30, 31, 32, 33] 54 rfl (by rfl) (by kernel_rfl) (by kernel_rfl) (by kernel_rfl) (by kernel_rfl) (by kernel_rfl) (fun _ _ _ h => h) (Or.inl ⟨by kernel_rfl, ?_⟩) hHeld ?_
          rotate_left
          · intro w' hSw
            (try dsimp only at hSw)
            go_simp
            first | done | with_reducible rfl
          try simp only [Act.put, List.setIfInBounds_toArray, List.set]
          refine PhaseIn.takeD (i := 4) (v := ?_) [4, 5, 6, 29, 30, 31, 32, 33] 55 rfl (by rfl) (by kernel_rfl) (by kernel_rfl) (by kernel_rfl) (by kernel_rfl) (by kernel_rfl) (fun _ _ _ h => h) (Or.inl ⟨by kernel_rfl, ?_⟩) hHeld ?_
          rotate_left
          · intro w' hSw
            (try dsimp only at hSw)
            go_simp
            first | done | with_reducible rfl
          try simp only [Act.put, List.setIfInBounds_toArray, List.set]
          refine PhaseIn.takeD (i := 5) (v := ?_) [5, 6, 29, 30, 31, 32, 33] 56 rfl (by rfl) (by kernel_rfl) (by kernel_rfl) (by kernel_rfl) (by kernel_rfl) (by kernel_rfl) (fun _ _ _ h => h) (Or.inl ⟨by kernel_rfl, ?_⟩) hHeld ?_
          rotate_left
          · intro w' hSw
            (try dsimp only at hSw)
            have z := hSw.2 (aa + 0) o0 K0.out
            rw [Nat.add_zero] at z
            go_simp
            first | done | with_reducible rfl
          try simp only [Act.put, List.setIfInBounds_toArray, List.set]
          refine PhaseIn.takeD (i := 6) (v := ?_) [6, 29, 30, 31, 32, 33] 57 rfl (by rfl) (by kernel_rfl) (by kernel_rfl) (by kernel_rfl) (by kernel_rfl) (by kernel_rfl) (fun _ _ _ h => h) (Or.inl ⟨by kernel_rfl, ?_⟩) hHeld ?_
          rotate_left
          · intro w' hSw
            (try dsimp only at hSw)
            go_simp
            first | done | with_reducible rfl
          try simp only [Act.put, List.setIfInBounds_toArray, List.set]
          refine PhaseIn.takeD (i := 7) (v := ?_) [7, 10, 11, 12, 29, 30, 31, 32, 33] 58 rfl (by rfl) (by kernel_rfl) (by kernel_rfl) (by kernel_rfl) (by kernel_rfl) (by kernel_rfl) (fun _ _ _ h => h) (Or.inl ⟨by kernel_rfl, ?_⟩) hHeld ?_
          rotate_left
          · intro w' hSw
            (try dsimp only at hSw)
            go_simp
            first | done | with_reducible rfl
          try simp only [Act.put, List.setIfInBounds_toArray, List.set]
          refine PhaseIn.takeD (i := 8) (v := ?_) [8, 9, 10, 11, 12, 29, 30, 31, 32, 33] 59 rfl (by rfl) (by kernel_rfl) (by kernel_rfl) (by kernel_rfl) (by kernel_rfl) (by kernel_rfl) (fun _ _ _ h => h) (Or.inl ⟨by kernel_rfl, ?_⟩) hHeld ?_
          rotate_left
          · intro w' hSw
            (try dsimp only at hSw)
            go_simp
            first | done | with_reducible rfl
          try simp only [Act.put, List.setIfInBounds_toArray, List.set]
          refine PhaseIn.takeD (i := 9) (v := ?_) [9, 10, 11, 12, 29, 30, 31, 32, 33] 60 rfl (by rfl) (by kernel_rfl) (by kernel_rfl) (by kernel_rfl) (by kernel_rfl) (by kernel_rfl) (fun _ _ _ h => h) (Or.inl ⟨by kernel_rfl, ?_⟩) hHeld ?_
          rotate_left
          · intro w' hSw
            (try dsimp only at hSw)
            go_simp
            first | done | with_reducible rfl
          try simp only [Act.put, List.setIfInBounds_toArray, List.set]
          refine PhaseIn.takeD (i := 10) (v := ?_) [10, 11, 12, 29, 30, 31, 32, 33] 61 rfl (by rfl) (by kernel_rfl) (by kernel_rfl) (by kernel_rfl) (by kernel_rfl) (by kernel_rfl) (fun _ _ _ h => h) (Or.inl ⟨by kernel_rfl, ?_⟩) hHeld ?_
          rotate_left
          · intro w' hSw
            (try dsimp only at hSw)
            go_simp
            first | done | with_reducible rfl
          try simp only [Act.put, List.setIfInBounds_toArray, List.set]
          refine PhaseIn.takeD (i := 11) (v := ?_) [11, 12, 29, 30, 31, 32, 33] 62 rfl (by rfl) (by kernel_rfl) (by kernel_rfl) (by kernel_rfl) (by kernel_rfl) (by kernel_rfl) (fun _ _ _ h => h) (Or.inl ⟨by kernel_rfl, ?_⟩) hHeld ?_
          rotate_left
          · intro w' hSw
            (try dsimp only at hSw)
            have z := hSw.2 (aa + 1) o1 K1.out
            go_simp
            first | done | with_reducible rfl
          try simp only [Act.put, List.setIfInBounds_toArray, List.set]
          refine PhaseIn.takeD (i := 12) (v := ?_) [12, 29, 30, 31, 32, 33] 63 rfl (by rfl) (by kernel_rfl) (by kernel_rfl) (by kernel_rfl) (by kernel_rfl) (by kernel_rfl) (fun _ _ _ h => h) (Or.inl ⟨by kernel_rfl, ?_⟩) hHeld ?_
          rotate_left
          · intro w' hSw
            (try dsimp only at hSw)
            go_simp
            first | done | with_reducible rfl
          try simp only [Act.put, List.setIfInBounds_toArray, List.set]
          refine PhaseIn.takeD (i := 13) (v := ?_) [13, 16, 17, 18, 29, 30, 31, 32, 33] 64 rfl (by rfl) (by kernel_rfl) (by kernel_rfl) (by kernel_rfl) (by kernel_rfl) (by kernel_rfl) (fun _ _ _ h => h) (Or.inl ⟨by kernel_rfl, ?_⟩) hHeld ?_
          rotate_left
          · intro w' hSw
            (try dsimp only at hSw)
            go_simp
            first | done | with_reducible rfl
          try simp only [Act.put, List.setIfInBounds_toArray, List.set]
          refine PhaseIn.takeD (i := 14) (v := ?_) [14, 15, 16, 17, 18, 29, 30, 31, 32, 33] 65 rfl (by rfl) (by kernel_rfl) (by kernel_rfl) (by kernel_rfl) (by kernel_rfl) (by kernel_rfl) (fun _ _ _ h => h) (Or.inl ⟨by kernel_rfl, ?_⟩) hHeld ?_
          rotate_left
          · intro w' hSw
            (try dsimp only at hSw)
            go_simp
            first | done | with_reducible rfl
          try simp only [Act.put, List.setIfInBounds_toArray, List.set]
          refine PhaseIn.takeD (i := 15) (v := ?_) [15, 16, 17, 18, 29, 30, 31, 32, 33] 66 rfl (by rfl) (by kernel_rfl) (by kernel_rfl) (by kernel_rfl) (by kernel_rfl) (by kernel_rfl) (fun _ _ _ h => h) (Or.inl ⟨by kernel_rfl, ?_⟩) hHeld ?_
          rotate_left
          · intro w' hSw
            (try dsimp only at hSw)
            go_simp
            first | done | with_reducible rfl
          try simp only [Act.put, List.setIfInBounds_toArray, List.set]
          refine PhaseIn.takeD (i := 16) (v := ?_) [16, 17, 18, 29, 30, 31, 32, 33] 67 rfl (by rfl) (by kernel_rfl) (by kernel_rfl) (by kernel_rfl) (by kernel_rfl) (by kernel_rfl) (fun _ _ _ h => h) (Or.inl ⟨by kernel_rfl, ?_⟩) hHeld ?_
          rotate_left
          · intro w' hSw
            (try dsimp only at hSw)
            go_simp
            first | done | with_reducible rfl
          try simp only [Act.put, List.setIfInBounds_toArray, List.set]
          refine PhaseIn.takeD (i := 17) (v := ?_) [17, 18, 29, 30, 31, 32, 33] 68 rfl (by rfl) (by kernel_rfl) (by kernel_rfl) (by kernel_rfl) (by kernel_rfl) (by kernel_rfl) (fun _ _ _ h => h) (Or.inl ⟨by kernel_rfl, ?_⟩) hHeld ?_
          rotate_left
          · intro w' hSw
            (try dsimp only at hSw)
            have z := hSw.2 (aa + 2) o2 K2.out
            go_simp
            first | done | with_reducible rfl
          try simp only [Act.put, List.setIfInBounds_toArray, List.set]
          refine PhaseIn.takeD (i := 18) (v := ?_) [18, 29, 30, 31, 32, 33] 69 rfl (by rfl) (by kernel_rfl) (by kernel_rfl) (by kernel_rfl) (by kernel_rfl) (by kernel_rfl) (fun _ _ _ h => h) (Or.inl ⟨by kernel_rfl, ?_⟩) hHeld ?_
          rotate_left
          · intro w' hSw
            (try dsimp only at hSw)
            go_simp
            first | done | with_reducible rfl
          try simp only [Act.put, List.setIfInBounds_toArray, List.set]
          refine PhaseIn.takeD (i := 19) (v := ?_) [19, 22, 29, 30, 31, 32, 33] 70 rfl (by rfl) (by kernel_rfl) (by kernel_rfl) (by kernel_rfl) (by kernel_rfl) (by kernel_rfl) (fun _ _ _ h => h) (Or.inl ⟨by kernel_rfl, ?_⟩) hHeld ?_
          rotate_left
          · intro w' hSw
            (try dsimp only at hSw)
            go_simp
            first | done | with_reducible rfl
          try simp only [Act.put, List.setIfInBounds_toArray, List.set]
          refine PhaseIn.takeD (i := 20) (v := ?_) [20, 21, 22, 29, 30, 31, 32, 33] 71 rfl (by rfl) (by kernel_rfl) (by kernel_rfl) (by kernel_rfl) (by kernel_rfl) (by kernel_rfl) (fun _ _ _ h => h) (Or.inl ⟨by kernel_rfl, ?_⟩) hHeld ?_
          rotate_left
          · intro w' hSw
            (try dsimp only at hSw)
            go_simp
            first | done | with_reducible rfl
          try simp only [Act.put, List.setIfInBounds_toArray, List.set]
          refine PhaseIn.takeD (i := 21) (v := ?_) [21, 22, 29, 30, 31, 32, 33] 72 rfl (by rfl) (by kernel_rfl) (by kernel_rfl) (by kernel_rfl) (by kernel_rfl) (by kernel_rfl) (fun _ _ _ h => h) (Or.inl ⟨by kernel_rfl, ?_⟩) hHeld ?_
          rotate_left
          · intro w' hSw
            (try dsimp only at hSw)
            go_simp
            first | done | with_reducible rfl
          try simp only [Act.put, List.setIfInBounds_toArray, List.set]
          refine PhaseIn.takeD (i := 23) (v := ?_) [23, 26, 27, 28, 29, 30, 31, 32, 33] 74 rfl (by rfl) (by kernel_rfl) (by kernel_rfl) (by kernel_rfl) (by kernel_rfl) (by kernel_rfl) (fun _ _ _ h => h) (Or.inl ⟨by kernel_rfl, ?_⟩) hHeld ?_
          rotate_left
          · intro w' hSw
            (try dsimp only at hSw)
            go_simp
            first | done | with_reducible rfl
          try simp only [Act.put, List.setIfInBounds_toArray, List.set]
          refine PhaseIn.takeD (i := 24) (v := ?_) [24, 25, 26, 27, 28, 29, 30, 31, 32, 33] 75 rfl (by rfl) (by kernel_rfl) (by kernel_rfl) (by kernel_rfl) (by kernel_rfl) (by kernel_rfl) (fun _ _ _ h => h) (Or.inl ⟨by kernel_rfl, ?_⟩) hHeld ?_
          rotate_left
          · intro w' hSw
            (try dsimp only at hSw)
            go_simp
            first | done | with_reducible rfl
          try simp only [Act.put, List.setIfInBounds_toArray, List.set]
          refine PhaseIn.takeD (i := 25) (v := ?_) [25, 26, 27, 28, 29, 30, 31, 32, 33] 76 rfl (by rfl) (by kernel_rfl) (by kernel_rfl) (by kernel_rfl) (by kernel_rfl) (by kernel_rfl) (fun _ _ _ h => h) (Or.inl ⟨by kernel_rfl, ?_⟩) hHeld ?_
          rotate_left
          · intro w' hSw
            (try dsimp only at hSw)
            go_simp
            first | done | with_reducible rfl
          try simp only [Act.put, List.setIfInBounds_toArray, List.set]
          refine PhaseIn.takeD (i := 26) (v := ?_) [26, 27, 28, 29, 30, 31, 32, 33] 77 rfl (by rfl) (by kernel_rfl) (by kernel_rfl) (by kernel_rfl) (by kernel_rfl) (by kernel_rfl) (fun _ _ _ h => h) (Or.inl ⟨by kernel_rfl, ?_⟩) hHeld ?_
          rotate_left
          · intro w' hSw
            (try dsimp only at hSw)
            go_simp
            first | done | with_reducible rfl
          try simp only [Act.put, List.setIfInBounds_toArray, List.set]
          refine PhaseIn.takeD (i := 27) (v := ?_) [27, 28, 29, 30, 31, 32, 33] 78 rfl (by rfl) (by kernel_rfl) (by kernel_rfl) (by kernel_rfl) (by kernel_rfl) (by kernel_rfl) (fun _ _ _ h => h) (Or.inl ⟨by kernel_rfl, ?_⟩) hHeld ?_
          rotate_left
          · intro w' hSw
            (try dsimp only at hSw)
            have z := hSw.2 (aa + 5) o5 K5.out
            go_simp
            first | done | with_reducible rfl
          try simp only [Act.put, List.setIfInBounds_toArray, List.set]
          refine PhaseIn.takeD (i := 28) (v := ?_) [28, 29, 30, 31, 32, 33] 79 rfl (by rfl) (by kernel_rfl) (by kernel_rfl) (by kernel_rfl) (by kernel_rfl) (by kernel_rfl) (fun _ _ _ h => h) (Or.inl ⟨by kernel_rfl, ?_⟩) hHeld ?_
          rotate_left
          · intro w' hSw
            (try dsimp only at hSw)
            go_simp
            first | done | with_reducible rfl
          try simp only [Act.put, List.setIfInBounds_toArray, List.set]
          refine PhaseIn.one (i := 22) (by kernel_rfl) rfl (by kernel_rfl) (fun K hK => ?_)
          unfold Oper.wpIn
          refine ⟨fun _ _ => trivial, ?_⟩
          go_simp
          refine ⟨rfl, (callsIn_wide.2 (l11Num ys B off n c _ (aa + 3) _ hHeld.2 HL.out g2 g3' HY.out (by omega) (by omega))).mono ?_⟩
          rintro r e3 ⟨rfl, hb⟩
          obtain ⟨ok, eok⟩ : ∃ z, atY ys (aa + 3) * 256 + atY ys (aa + 3 + 1) = z := ⟨_, rfl⟩
          rw [eok]
          have EOKK := hide eok
          clear eok
          replace hHeld := And.intro (hHeld.1.below hb) (hHeld.2.below hb)
          replace OO := hide (OO.out.below hb)
          replace RZ := hide (RZ.out.below hb)
          replace BW := hide (BW.out.trans (hb.mono BW.out.size))
          refine hK _ _ (fun _ => hHeld) ?_
          clear hK K hb
          try simp only [Act.put, List.setIfInBounds_toArray, List.set]
          refine PhaseIn.takeD (i := 29) (v := ?_) [29, 30, 31, 32, 33] 80 rfl (by rfl) (by kernel_rfl) (by kernel_rfl) (by kernel_rfl) (by kernel_rfl) (by kernel_rfl) (fun _ _ _ h => h) (Or.inl ⟨by kernel_rfl, ?_⟩) hHeld ?_
          rotate_left
          · intro w' hSw
            (try dsimp only at hSw)
            go_simp
            first | done | with_reducible rfl
          try simp only [Act.put, List.setIfInBounds_toArray, List.set]
          refine PhaseIn.one (i := 30) (by kernel_rfl) rfl (by kernel_rfl) (fun K hK => ?_)
          unfold Oper.wpIn
          refine ⟨fun _ _ => trivial, ?_⟩
          go_simp
          have bP : Below e3.heap.size e3 (e3.alloc (.cells #[.int .i64 o0, .int .i64 o1, .int .i64 o2, .int .i64 ok, .int .i64 o5] 51)) := (Below.refl _ _).alloc (Nat.le_refl _) _
          have RP := hide (Rec.new e3 [.int .i64 o0, .int .i64 o1, .int .i64 o2, .int .i64 ok, .int .i64 o5] 51)
          replace hHeld := And.intro (hHeld.1.below bP) (hHeld.2.below bP)
          replace OO := hide (OO.out.below bP)
          replace RZ := hide (RZ.out.below bP)
          replace BW := hide (BW.out.trans (bP.mono BW.out.size))
          refine hK _ _ (fun _ => hHeld) ?_
          clear hK K bP
          try simp only [Act.put, List.setIfInBounds_toArray, List.set]
          generalize e3.alloc (.cells #[.int .i64 o0, .int .i64 o1, .int .i64 o2, .int .i64 ok, .int .i64 o5] 51) = e4 at hHeld OO RZ BW RP ⊢
          generalize e3.heap.size = Pb at RP ⊢
          have SZ3 : w.heap.size < e4.heap.size := RZ.out.lt
          obtain ⟨g4, c4, w4, T4, hrun, O4, T4t, hT4, hlT4, hg4⟩ := run_pushOp (ty := 23) OO.out OL.out (by have := NJ.out; have := EA.out.1; have := EA.out.2; omega) (by omega) Pb ⟨o0, o1, o2, ok, o5⟩ RP.out
          have CT : Xb ≠ T4 := by
            rcases hT4 with e | e
            · exact fun h => QC.out T4 e h.symm
            · have := hHeld.1.lt; omega
          have CG : Hid (g4 ≠ Xb) := by
            rcases hg4 with e | e
            · exact QC.out g4 e
            · have := hHeld.1.lt
              show g4 ≠ Xb
              omega
          have OO4 := hide O4
          have RC4 := hHeld.1.turn T4t CT
          have RZ4 := hide (RZ.out.turn T4t (by omega))
          have BW4 := hide (BW.out.trans (T4t.below (by omega) BW.out.size))
          refine PhaseIn.one (i := 31) (by kernel_rfl) rfl (by kernel_rfl) (fun K hK => ?_)
          refine push_in _ _ rfl rfl rfl hrun ?_
          refine hK _ _ (fun h => absurd h (by decide)) ?_
          clear hK K hrun O4 T4t hHeld OO RZ BW RP hT4 hg4 CT SZ3 hlT4
          try simp only [Act.put, List.setIfInBounds_toArray, List.set]
          refine PhaseIn.late (i := 32) (v := ?_) (by kernel_rfl) rfl 83 (by rfl) (by omega) (Or.inl ⟨by kernel_rfl, ?_⟩) ?_
          rotate_left
          · intro w' hSw
            go_simp
            first | done | with_reducible rfl
          try simp only [Act.put, List.setIfInBounds_toArray, List.set]
          have z2 := RC4.cell 2 _ rfl
          have f2 := RC4.soft 2
          refine PhaseIn.one (i := 33) (by kernel_rfl) rfl (by kernel_rfl) (fun K hK => ?_)
          unfold Oper.wpIn
          refine ⟨fun _ _ => trivial, ?_⟩
          go_simp
          have T5 := (Turn.refl Xb w4).setCell (p := ⟨Xb, 2, none⟩) rfl (.slice (some ⟨g4, 0, none⟩) (no + 1) c4)
          have RC5 := hide (RC4.set 2 (.slice (some ⟨g4, 0, none⟩) (no + 1) c4) (by simp) (show _ = [.int .i64 y0, .int .i64 y1, .slice (some ⟨g4, 0, none⟩) (no + 1) c4, .int .i64 y2, .int .i64 y3, .int .i64 y4, .int .i64 kk] from rfl))
          have OO5 : Hid (OwnO (w4.setCell ⟨Xb, 2, none⟩ (.slice (some ⟨g4, 0, none⟩) (no + 1) c4)) (w.heap.size + 1) (.slice (some ⟨g4, 0, none⟩) (no + 1) c4) (os ++ [⟨o0, o1, o2, ok, o5⟩])) := by
            have h := OO4.out
            have e := lenO h
            unfold OwnO at h ⊢
            rw [e] at h ⊢
            exact OwnF.apart (q := some ⟨g4, 0, none⟩) h T5 (fun G e => by injection e with e; injection e with e1; rw [← e1]; exact CG.out)
          have RZ5 := hide (RZ4.out.turn T5 (by have := CL.out; omega))
          have BW5 := hide (BW4.out.trans (T5.below (by have := CL.out; omega) BW4.out.size))
          have QC5 : Hid (∀ G, (some ⟨g4, 0, none⟩ : Option Addr) = some ⟨G, 0, none⟩ → G ≠ Xb) := fun G e => by cases e; exact CG.out
          have EOS5 : Hid (os ++ [⟨o0, o1, o2, ok, o5⟩] = opsR ys (j + 1)) := by
            show _ = _
            obtain ⟨x0, x1, x2, x5⟩ := AE.out
            rw [opsR_next, EOS.out]
            congr 2
            unfold opR
            rw [← EA.out.1, x0, x1, x2, x5, EOKK.out]
          have EA5 : Hid (aa + 6 = 7 + 6 * (j + 1) ∧ aa + 6 ≤ n) := by have := EA.out.1; exact ⟨by omega, by omega⟩
          refine hK _ _ (fun h => absurd h (by decide)) ?_
          clear hK K T5 RC4 OO4 RZ4 BW4 z2 f2
          try simp only [Act.put, List.setIfInBounds_toArray, List.set]
          generalize (w4.setCell ⟨Xb, 2, none⟩ (.slice (some ⟨g4, 0, none⟩) (no + 1) c4)) = w5 at RC5 OO5 RZ5 BW5 ⊢
          refine PhaseIn.done (by kernel_rfl) ?_ _
          go_wp2
          exact ⟨⟨aa + 6, j + 1, _, _, _, _, by go_num, EA5, EOS5, OO5, RC5, RZ5, BW5, QC5⟩, by simp [intOf]; omega⟩
        · have l0 : ¬ ((aa : Nat) : Int) < (n : Nat) := by omega
          have ej : (n - 7) / 6 = j := by omega
          have BE : (⟨y0, y1, os, y2, y3, y4, kk⟩ : Bk) = blkY ys ((n - 7) / 6) := by
            obtain ⟨x0, x1, x2, x3, x4⟩ := EE.out
            unfold blkY
            rw [x0, x1, x2, x3, x4, EK.out, ej, EOS.out]
          have BEH := hide BE
          obtain ⟨bs, hrow⟩ := rowO OO.out
          have HR := hide hrow
          have z0 := RC.out.cell 0 _ rfl
          have z1 := RC.out.cell 1 _ rfl
          have z2 := RC.out.cell 2 _ rfl
          have z3 := RC.out.cell 3 _ rfl
          have z4 := RC.out.cell 4 _ rfl
          have z5 := RC.out.cell 5 _ rfl
          have z6 := RC.out.cell 6 _ rfl
          clear hrow BE ea ea2 nj ej
          go_wp2_with fail
          refine (specIrOk (⟨y0, y1, os, y2, y3, y4, kk⟩ : Bk) [.int .i64 y0, .int .i64 y1, .slice qo no co, .int .i64 y2, .int .i64 y3, .int .i64 y4, .int .i64 kk] wr ⟨qo, co, bs, by unfold bv; rw [OL.out], by rw [OL.out]; exact HR.out⟩).mono ?_
          rintro r v ⟨rfl, hb⟩
          obtain ⟨Bo, wo, wB⟩ := own_wo (OO.out.below hb)
          have WO := hide wo
          have WB : Hid (os = [] ∨ (w.heap.size + 1 ≤ Bo ∧ Bo < v.heap.size)) := wB
          replace RC := hide (RC.out.below hb)
          replace RZ := hide (RZ.out.below hb)
          replace BW := hide (BW.out.trans (hb.mono BW.out.size))
          clear hb wo wB OO HR z0 z1 z2 z3 z4 z5 z6
          rw [BEH.out]
          cases eo : okB (blkY ys ((n - 7) / 6)) with
          | false =>
            obtain rfl : ro = false := by rw [EOK.out]; exact eo
            obtain rfl := NO2.out rfl
            clear eo RC WO WB
            go_wp2_with (refine lay7 rfl rfl _ _ rfl w.heap.size _ _ _ _ _ _ _ RZ.out rfl _ _ _ _ _ _ _ _ _ rfl ?_; intro p1 RX TX; refine Hid.out ?_)
            have FIN := hide (NG.out v BW p1 TX)
            clear TX RZ BW
            refine hide ?_
            have y0 := RX.out.cell 0 _ rfl
            have y1 := RX.out.cell 1 _ rfl
            have y2 := RX.out.cell 2 _ rfl
            have y3 := RX.out.cell 3 _ rfl
            have y4 := RX.out.cell 4 _ rfl
            have y5 := RX.out.cell 5 _ rfl
            have y6 := RX.out.cell 6 _ rfl
            go_wp2
            exact bodyPost_ret (v := .tuple #[.agg #[.int .i64 0, .int .i64 0, .slice none 0 0, .int .i64 0, .int .i64 0, .int .i64 0, .int .i64 0], .bool false]) (by simp [results, Tryd.results17, go_sem, y0, y1, y2, y3, y4, y5, y6]) rfl ⟨_, rfl, FIN.out⟩
          | true =>
            obtain rfl : ro = true := by rw [EOK.out]; exact eo
            have RB2 := hide (ERB.out eo)
            clear eo
            have z0 := RC.out.cell 0 _ rfl
            have z1 := RC.out.cell 1 _ rfl
            have z2 := RC.out.cell 2 _ rfl
            have z3 := RC.out.cell 3 _ rfl
            have z4 := RC.out.cell 4 _ rfl
            have z5 := RC.out.cell 5 _ rfl
            have z6 := RC.out.cell 6 _ rfl
            go_wp2_with (refine lay7 rfl rfl _ _ rfl w.heap.size _ _ _ _ _ _ _ RZ.out rfl _ _ _ _ _ _ _ _ _ rfl ?_; intro p1 RX TX; refine Hid.out ?_)
            have FIN : Hid (blkR.ow p1 (New w p1) [.int .i64 y0, .int .i64 y1, .slice qo no co, .int .i64 y2, .int .i64 y3, .int .i64 y4, .int .i64 kk] (toT rb) ∧ Below w.heap.size w p1) := by
              refine ⟨?_, BW.out.trans (TX.out.below (Nat.le_refl _) BW.out.size)⟩
              rw [RB2.out, ← BEH.out]
              have h := ow_read (b := (⟨y0, y1, os, y2, y3, y4, kk⟩ : Bk)) (A := New w p1) (q' := qo) (c' := co) (B := Bo) (w := p1) (by have e := OL.out; simp only []; rw [e]; exact wo_turn WO.out TX.out (WB.out.imp id (fun h => by omega))) (WB.out.imp id (fun h => ⟨by omega, by have := TX.out.size; omega⟩))
              simp only [] at h
              rw [OL.out] at h
              exact h
            clear TX RZ WO WB RC BW z0 z1 z2 z3 z4 z5 z6
            refine hide ?_
            have x0 := RX.out.cell 0 _ rfl
            have x1 := RX.out.cell 1 _ rfl
            have x2 := RX.out.cell 2 _ rfl
            have x3 := RX.out.cell 3 _ rfl
            have x4 := RX.out.cell 4 _ rfl
            have x5 := RX.out.cell 5 _ rfl
            have x6 := RX.out.cell 6 _ rfl
            go_wp2
            exact bodyPost_ret (v := .tuple #[.agg #[.int .i64 y0, .int .i64 y1, .slice qo no co, .int .i64 y2, .int .i64 y3, .int .i64 y4, .int .i64 kk], .bool true]) (by simp [results, Tryd.results17, go_sem, x0, x1, x2, x3, x4, x5, x6]) rfl ⟨_, rfl, FIN.out⟩
    · -- the box first
      unfold Oper.wpIn
      refine ⟨fun _ _ => trivial, ?_⟩
      go_simp
      have bP : Below d1'.heap.size d1' (d1'.alloc (.cells #[.int .i64 0, .int .i64 0, .slice none 0 0, .int .i64 0, .int .i64 0, .int .i64 0, .int .i64 0] 25)) := (Below.refl _ _).alloc (Nat.le_refl _) _
      have RX := hide (Rec.new d1' [.int .i64 0, .int .i64 0, .slice none 0 0, .int .i64 0, .int .i64 0, .int .i64 0, .int .i64 0] 25)
      have XL : Hid (w.heap.size < d1'.heap.size) := RZ.out.lt
      replace hHeld := hHeld.below bP
      replace RZ := hide (RZ.out.below bP)
      replace BW := hide (BW.out.trans (bP.mono BW.out.size))
      refine hK _ _ (fun _ => hHeld) ?_
      clear hK K bP
      try simp only [Act.put, List.setIfInBounds_toArray, List.set]
      generalize d1'.alloc (.cells #[.int .i64 0, .int .i64 0, .slice none 0 0, .int .i64 0, .int .i64 0, .int .i64 0, .int .i64 0] 25) = V at RX hHeld RZ BW ⊢
      generalize d1'.heap.size = Xb at RX XL ⊢
      refine PhaseIn.one (i := 21) (by kernel_rfl) rfl (by kernel_rfl) (fun K hK => ?_)
      unfold Oper.wpIn
      refine ⟨fun _ _ => trivial, ?_⟩
      go_simp
      refine ⟨rfl, (callsIn_wide.2 (l11Num ys B off n c 5 5 _ hHeld HL.out g2 g3' HY.out rfl (by omega))).mono ?_⟩
      rintro r e2 ⟨rfl, hb⟩
      obtain ⟨kk, ekk⟩ : ∃ z, atY ys 5 * 256 + atY ys (5 + 1) = z := ⟨_, rfl⟩
      rw [ekk]
      have EK := hide ekk
      clear ekk
      replace hHeld := hHeld.below hb
      replace RZ := hide (RZ.out.below hb)
      replace BW := hide (BW.out.trans (hb.mono BW.out.size))
      replace RX := hide (RX.out.below hb)
      refine hK _ _ (fun _ => hHeld) ?_
      clear hK K hb
      try simp only [Act.put, List.setIfInBounds_toArray, List.set]
      refine PhaseIn.takeD (i := 22) (v := ?_) [22, 24] 44 rfl (by rfl) (by kernel_rfl) (by kernel_rfl) (by kernel_rfl) (by kernel_rfl) (by kernel_rfl) (fun _ _ _ h => h) (Or.inl ⟨by kernel_rfl, ?_⟩) hHeld ?_
      rotate_left
      · intro w' hSw
        (try dsimp only at hSw)
        go_simp
        first | done | with_reducible rfl
      try simp only [Act.put, List.setIfInBounds_toArray, List.set]
      refine PhaseIn.one (i := 24) (by kernel_rfl) rfl (by kernel_rfl) (fun K hK => ?_)
      have z0 := RX.out.cell 0 _ rfl
      have s0 := RX.out.soft 0
      have z1 := RX.out.cell 1 _ rfl
      have s1 := RX.out.soft 1
      have z2 := RX.out.cell 2 _ rfl
      have s2 := RX.out.soft 2
      have z3 := RX.out.cell 3 _ rfl
      have s3 := RX.out.soft 3
      have z4 := RX.out.cell 4 _ rfl
      have s4 := RX.out.soft 4
      have z5 := RX.out.cell 5 _ rfl
      have s5 := RX.out.soft 5
      have z6 := RX.out.cell 6 _ rfl
      have s6 := RX.out.soft 6
      unfold Oper.wpIn
      refine ⟨fun _ _ => trivial, ?_⟩
      go_simp
      have TX := ((((((((Turn.refl Xb e2).setCell (p := ⟨Xb, 0, none⟩) rfl (.int .i64 y0)).setCell (p := ⟨Xb, 1, none⟩) rfl (.int .i64 y1)).setCell (p := ⟨Xb, 2, none⟩) rfl (.slice none 0 0)).setCell (p := ⟨Xb, 3, none⟩) rfl (.int .i64 y2)).setCell (p := ⟨Xb, 4, none⟩) rfl (.int .i64 y3)).setCell (p := ⟨Xb, 5, none⟩) rfl (.int .i64 y4)).setCell (p := ⟨Xb, 6, none⟩) rfl (.int .i64 kk))
      have RX2 := hide (((((((RX.out.set 0 (.int .i64 y0) (by simp) (show _ = [.int .i64 y0, .int .i64 0, .slice none 0 0, .int .i64 0, .int .i64 0, .int .i64 0, .int .i64 0] from rfl)).set 1 (.int .i64 y1) (by simp) (show _ = [.int .i64 y0, .int .i64 y1, .slice none 0 0, .int .i64 0, .int .i64 0, .int .i64 0, .int .i64 0] from rfl)).set 2 (.slice none 0 0) (by simp) (show _ = [.int .i64 y0, .int .i64 y1, .slice none 0 0, .int .i64 0, .int .i64 0, .int .i64 0, .int .i64 0] from rfl)).set 3 (.int .i64 y2) (by simp) (show _ = [.int .i64 y0, .int .i64 y1, .slice none 0 0, .int .i64 y2, .int .i64 0, .int .i64 0, .int .i64 0] from rfl)).set 4 (.int .i64 y3) (by simp) (show _ = [.int .i64 y0, .int .i64 y1, .slice none 0 0, .int .i64 y2, .int .i64 y3, .int .i64 0, .int .i64 0] from rfl)).set 5 (.int .i64 y4) (by simp) (show _ = [.int .i64 y0, .int .i64 y1, .slice none 0 0, .int .i64 y2, .int .i64 y3, .int .i64 y4, .int .i64 0] from rfl)).set 6 (.int .i64 kk) (by simp) (show _ = [.int .i64 y0, .int .i64 y1, .slice none 0 0, .int .i64 y2, .int .i64 y3, .int .i64 y4, .int .i64 kk] from rfl))
      have RZ2 := hide (RZ.out.turn TX (by have := XL.out; omega))
      have BW2 := hide (BW.out.trans (TX.below (by have := XL.out; omega) BW.out.size))
      refine hK _ _ (fun h => absurd h (by decide)) ?_
      clear hK K TX RX RZ BW hHeld z0 s0 z1 s1 z2 s2 z3 s3 z4 s4 z5 s5 z6 s6
      try simp only [Act.put, List.setIfInBounds_toArray, List.set]
      generalize (((((((e2.setCell ⟨Xb, 0, none⟩ (.int .i64 y0)).setCell ⟨Xb, 1, none⟩ (.int .i64 y1)).setCell ⟨Xb, 2, none⟩ (.slice none 0 0)).setCell ⟨Xb, 3, none⟩ (.int .i64 y2)).setCell ⟨Xb, 4, none⟩ (.int .i64 y3)).setCell ⟨Xb, 5, none⟩ (.int .i64 y4)).setCell ⟨Xb, 6, none⟩ (.int .i64 kk)) = w1 at RX2 RZ2 BW2 ⊢
      refine PhaseIn.done (by kernel_rfl) ?_ _
      have OO : Hid (OwnO w1 (w.heap.size + 1) (.slice none 0 0) []) := OwnF.nil _ _ _ _
      clear F0 F1 F2 F3 F4
      go_wp2
      go_loopw [5] (fun i wr => ∃ (aa j : Nat) (os : List Opn) (qo : Option Addr) (no co : Nat), i = .int .i64 (aa : Int) ∧ Hid (aa = 7 + 6 * j ∧ aa ≤ n) ∧ Hid (os = opsR ys j) ∧ Hid (OwnO wr (w.heap.size + 1) (.slice qo no co) os) ∧ Hid (Rec Xb [.int .i64 y0, .int .i64 y1, .slice qo no co, .int .i64 y2, .int .i64 y3, .int .i64 y4, .int .i64 kk] wr) ∧ Hid (Rec w.heap.size [.int .i64 0, .int .i64 0, .slice none 0 0, .int .i64 0, .int .i64 0, .int .i64 0, .int .i64 0] wr) ∧ Hid (Below w.heap.size w wr) ∧ Hid (∀ G, qo = some ⟨G, 0, none⟩ → G ≠ Xb)) (fun i _ => n - (intOf i).toNat)
      case atStart => exact ⟨7, 0, [], none, 0, 0, rfl, ⟨rfl, by omega⟩, rfl, OO, RX2, RZ2, BW2, fun G e => by cases e⟩
      case round =>
        clear OO RX2 RZ2 BW2
        obtain ⟨aa, j, os, qo, no, co, rfl, EA, EOS, OO, RC, RZ, BW, QC⟩ := hrel
        have OL := hide (lenO OO.out)
        have NJ : Hid (no = j) := by show no = j; rw [← OL.out, EOS.out, opsR_len]
        have ea := EA.out.1
        have ea2 := EA.out.2
        have nj := NJ.out
        have CL : Hid (w.heap.size < Xb ∧ w.heap.size < wr.heap.size) := ⟨XL.out, RZ.out.lt⟩
        by_cases hlt : aa < n
        · have l0 : ((aa : Nat) : Int) < (n : Nat) := by omega
          have a6 : aa + 6 ≤ n := by omega
          have l1 : ((aa : Nat) : Int) + 1 < (n : Nat) := by omega
          have l2 : ((aa : Nat) : Int) + 2 < (n : Nat) := by omega
          have l5 : ((aa : Nat) : Int) + 5 < (n : Nat) := by omega
          have G : ∀ i, i < 6 → ∃ y, ys[aa + i]? = some y ∧ 0 ≤ y ∧ y < 256 := fun i hi => by
            obtain ⟨y, ey⟩ : ∃ y, ys[aa + i]? = some y := ⟨_, List.getElem?_eq_getElem (by rw [HL.out]; omega)⟩
            exact ⟨y, ey, HY.out y (List.mem_of_getElem? ey)⟩
          obtain ⟨o0, G0, p0, q0⟩ := G 0 (by omega)
          obtain ⟨o1, G1, p1, q1⟩ := G 1 (by omega)
          obtain ⟨o2, G2, p2, q2⟩ := G 2 (by omega)
          obtain ⟨o5, G5, p5, q5⟩ := G 5 (by omega)
          have AE : Hid (atY ys aa = o0 ∧ atY ys (aa + 1) = o1 ∧ atY ys (aa + 2) = o2 ∧ atY ys (aa + 5) = o5) := ⟨at_of G0, at_of G1, at_of G2, at_of G5⟩
          have K0 := hide G0
          have K1 := hide G1
          have K2 := hide G2
          have K5 := hide G5
          have u0 : IntKind.i64.wrap o0 = o0 := by rw [IntKind.wrap_i64]; omega
          have u1 : IntKind.i64.wrap o1 = o1 := by rw [IntKind.wrap_i64]; omega
          have u2 : IntKind.i64.wrap o2 = o2 := by rw [IntKind.wrap_i64]; omega
          have u5 : IntKind.i64.wrap o5 = o5 := by rw [IntKind.wrap_i64]; omega
          have t1 : IntKind.i64.wrap ((aa : Int) + 1) = (aa : Int) + 1 := by rw [IntKind.wrap_i64]; omega
          have t2 : IntKind.i64.wrap ((aa : Int) + 2) = (aa : Int) + 2 := by rw [IntKind.wrap_i64]; omega
          have t3 : IntKind.i64.wrap ((aa : Int) + 3) = (aa : Int) + 3 := by rw [IntKind.wrap_i64]; omega
          have t5 : IntKind.i64.wrap ((aa : Int) + 5) = (aa : Int) + 5 := by rw [IntKind.wrap_i64]; omega
          have m1 : (0 : Int) ≤ (aa : Int) + 1 := by omega
          have x2 : ((aa : Int) + 2).toNat = aa + 2 := by omega
          have x5 : ((aa : Int) + 5).toNat = aa + 5 := by omega
          have m2 : (0 : Int) ≤ (aa : Int) + 2 := by omega
          have m5 : (0 : Int) ≤ (aa : Int) + 5 := by omega
          clear G G0 G1 G2 G5 ea ea2 nj
          go_wp2_with fail
          refine (wpIn_wide (n := 0)).1 ?_
          have bA : Below wr.heap.size wr wr.drew := (Below.refl _ _).drew
          replace OO := hide (OO.out.below bA)
          replace RC := hide (RC.out.below bA)
          replace RZ := hide (RZ.out.below bA)
          replace BW := hide (BW.out.trans (bA.mono BW.out.size))
          clear bA
          refine PhaseIn.region (S := fun v => Rec Xb [.int .i64 y0, .int .i64 y1, .slice qo no co, .int .i64 y2, .int .i64 y3, .int .i64 y4, .int .i64 kk] v ∧ CY B off ys v) 31 (by kernel_rfl) ?_
          generalize wr.drew = e1 at OO RC RZ BW ⊢
          have hHeld : Rec Xb [.int .i64 y0, .int .i64 y1, .slice qo no co, .int .i64 y2, .int .i64 y3, .int .i64 y4, .int .i64 kk] e1 ∧ CY B off ys e1 := ⟨RC.out, CW.out.below BW.out⟩
          clear RC
          refine PhaseIn.takeD (i := 0) (v := ?_) [0, 1, 31, 32, 33] 51 rfl (by rfl) (by kernel_rfl) (by kernel_rfl) (by kernel_rfl) (by kernel_rfl) (by kernel_rfl) (fun _ _ _ h => h) (Or.inl ⟨by kernel_rfl, ?_⟩) hHeld ?_
          rotate_left
          · intro w' hSw
            (try dsimp only at hSw)
            go_simp
            first | done | with_reducible rfl
          try simp only [Act.put, List.setIfInBounds_toArray, List.set]
          refine PhaseIn.takeD (i := 1) (v := ?_) [1, 31, 32, 33] 52 rfl (by rfl) (by kernel_rfl) (by kernel_rfl) (by kernel_rfl) (by kernel_rfl) (by kernel_rfl) (fun _ _ _ h => h) (Or.inl ⟨by kernel_rfl, ?_⟩) hHeld ?_
          rotate_left
          · intro w' hSw
            (try dsimp only at hSw)
            have z := hSw.1.cell 2 _ rfl
            go_simp
            first | done | with_reducible rfl
          try simp only [Act.put, List.setIfInBounds_toArray, List.set]
          refine PhaseIn.takeD (i := 2) (v := ?_) [2, 4, 5, 6, 29, 30, 31, 32, 33] 53 rfl (by rfl) (by kernel_rfl) (by kernel_rfl) (by kernel_rfl) (by kernel_rfl) (by kernel_rfl) (fun _ _ _ h => h) (Or.inl ⟨by kernel_rfl, ?_⟩) hHeld ?_
          rotate_left
          · intro w' hSw
            (try dsimp only at hSw)
            go_simp
            first | done | with_reducible rfl
          try simp only [Act.put, List.setIfInBounds_toArray, List.set]
          refine PhaseIn.takeD (i := 3) (v := ?_) [3, 4, 5, 6, 29, 30, 31, 32, 33] 54 rfl (by rfl) (by kernel_rfl) (by kernel_rfl) (by kernel_rfl) (by kernel_rfl) (by kernel_rfl) (fun _ _ _ h => h) (Or.inl ⟨by kernel_rfl, ?_⟩) hHeld ?_
          rotate_left
          · intro w' hSw
            (try dsimp only at hSw)
            go_simp
            first | done | with_reducible rfl
          try simp only [Act.put, List.setIfInBounds_toArray, List.set]
          refine PhaseIn.takeD (i := 4) (v := ?_) [4, 5, 6, 29, 30, 31, 32, 33] 55 rfl (by rfl) (by kernel_rfl) (by kernel_rfl) (by kernel_rfl) (by kernel_rfl) (by kernel_rfl) (fun _ _ _ h => h) (Or.inl ⟨by kernel_rfl, ?_⟩) hHeld ?_
          rotate_left
          · intro w' hSw
            (try dsimp only at hSw)
            go_simp
            first | done | with_reducible rfl
          try simp only [Act.put, List.setIfInBounds_toArray, List.set]
          refine PhaseIn.takeD (i := 5) (v := ?_) [5, 6, 29, 30, 31, 32, 33] 56 rfl (by rfl) (by kernel_rfl) (by kernel_rfl) (by kernel_rfl) (by kernel_rfl) (by kernel_rfl) (fun _ _ _ h => h) (Or.inl ⟨by kernel_rfl, ?_⟩) hHeld ?_
          rotate_left
          · intro w' hSw
            (try dsimp only at hSw)
            have z := hSw.2 (aa + 0) o0 K0.out
            rw [Nat.add_zero] at z
            go_simp
            first | done | with_reducible rfl
          try simp only [Act.put, List.setIfInBounds_toArray, List.set]
          refine PhaseIn.takeD (i := 6) (v := ?_) [6, 29, 30, 31, 32, 33] 57 rfl (by rfl) (by kernel_rfl) (by kernel_rfl) (by kernel_rfl) (by kernel_rfl) (by kernel_rfl) (fun _ _ _ h => h) (Or.inl ⟨by kernel_rfl, ?_⟩) hHeld ?_
          rotate_left
          · intro w' hSw
            (try dsimp only at hSw)
            go_simp
            first | done | with_reducible rfl
          try simp only [Act.put, List.setIfInBounds_toArray, List.set]
          refine PhaseIn.takeD (i := 7) (v := ?_) [7, 10, 11, 12, 29, 30, 31, 32, 33] 58 rfl (by rfl) (by kernel_rfl) (by kernel_rfl) (by kernel_rfl) (by kernel_rfl) (by kernel_rfl) (fun _ _ _ h => h) (Or.inl ⟨by kernel_rfl, ?_⟩) hHeld ?_
          rotate_left
          · intro w' hSw
            (try dsimp only at hSw)
            go_simp
            first | done | with_reducible rfl
          try simp only [Act.put, List.setIfInBounds_toArray, List.set]
          refine PhaseIn.takeD (i := 8) (v := ?_) [8, 9, 10, 11, 12, 29, 30, 31, 32, 33] 59 rfl (by rfl) (by kernel_rfl) (by kernel_rfl) (by kernel_rfl) (by kernel_rfl) (by kernel_rfl) (fun _ _ _ h => h) (Or.inl ⟨by kernel_rfl, ?_⟩) hHeld ?_
          rotate_left
          · intro w' hSw
            (try dsimp only at hSw)
            go_simp
            first | done | with_reducible rfl
          try simp only [Act.put, List.setIfInBounds_toArray, List.set]
          refine PhaseIn.takeD (i := 9) (v := ?_) [9, 10, 11, 12, 29, 30, 31, 32, 33] 60 rfl (by rfl) (by kernel_rfl) (by kernel_rfl) (by kernel_rfl) (by kernel_rfl) (by kernel_rfl) (fun _ _ _ h => h) (Or.inl ⟨by kernel_rfl, ?_⟩) hHeld ?_
          rotate_left
          · intro w' hSw
            (try dsimp only at hSw)
            go_simp
            first | done | with_reducible rfl
          try simp only [Act.put, List.setIfInBounds_toArray, List.set]
          refine PhaseIn.takeD (i := 10) (v := ?_) [10, 11, 12, 29, 30, 31, 32, 33] 61 rfl (by rfl) (by kernel_rfl) (by kernel_rfl) (by kernel_rfl) (by kernel_rfl) (by kernel_rfl) (fun _ _ _ h => h) (Or.inl ⟨by kernel_rfl, ?_⟩) hHeld ?_
          rotate_left
          · intro w' hSw
            (try dsimp only at hSw)
            go_simp
            first | done | with_reducible rfl
          try simp only [Act.put, List.setIfInBounds_toArray, List.set]
          refine PhaseIn.takeD (i := 11) (v := ?_) [11, 12, 29, 30, 31, 32, 33] 62 rfl (by rfl) (by kernel_rfl) (by kernel_rfl) (by kernel_rfl) (by kernel_rfl) (by kernel_rfl) (fun _ _ _ h => h) (Or.inl ⟨by kernel_rfl, ?_⟩) hHeld ?_
          rotate_left
          · intro w' hSw
            (try dsimp only at hSw)
            have z := hSw.2 (aa + 1) o1 K1.out
            go_simp
            first | done | with_reducible rfl
          try simp only [Act.put, List.setIfInBounds_toArray, List.set]
          refine PhaseIn.takeD (i := 12) (v := ?_) [12, 29, 30, 31, 32, 33] 63 rfl (by rfl) (by kernel_rfl) (by kernel_rfl) (by kernel_rfl) (by kernel_rfl) (by kernel_rfl) (fun _ _ _ h => h) (Or.inl ⟨by kernel_rfl, ?_⟩) hHeld ?_
          rotate_left
          · intro w' hSw
            (try dsimp only at hSw)
            go_simp
            first | done | with_reducible rfl
          try simp only [Act.put, List.setIfInBounds_toArray, List.set]
          refine PhaseIn.takeD (i := 13) (v := ?_) [13, 16, 17, 18, 29, 30, 31, 32, 33] 64 rfl (by rfl) (by kernel_rfl) (by kernel_rfl) (by kernel_rfl) (by kernel_rfl) (by kernel_rfl) (fun _ _ _ h => h) (Or.inl ⟨by kernel_rfl, ?_⟩) hHeld ?_
          rotate_left
          · intro w' hSw
            (try dsimp only at hSw)
            go_simp
            first | done | with_reducible rfl
          try simp only [Act.put, List.setIfInBounds_toArray, List.set]
          refine PhaseIn.takeD (i := 14) (v := ?_) [14, 15, 16, 17, 18, 29, 30, 31, 32, 33] 65 rfl (by rfl) (by kernel_rfl) (by kernel_rfl) (by kernel_rfl) (by kernel_rfl) (by kernel_rfl) (fun _ _ _ h => h) (Or.inl ⟨by kernel_rfl, ?_⟩) hHeld ?_
          rotate_left
          · intro w' hSw
            (try dsimp only at hSw)
            go_simp
            first | done | with_reducible rfl
          try simp only [Act.put, List.setIfInBounds_toArray, List.set]
          refine PhaseIn.takeD (i := 15) (v := ?_) [15, 16, 17, 18, 29, 30, 31, 32, 33] 66 rfl (by rfl) (by kernel_rfl) (by kernel_rfl) (by kernel_rfl) (by kernel_rfl) (by kernel_rfl) (fun _ _ _ h => h) (Or.inl ⟨by kernel_rfl, ?_⟩) hHeld ?_
          rotate_left
          · intro w' hSw
            (try dsimp only at hSw)
            go_simp
            first | done | with_reducible rfl
          try simp only [Act.put, List.setIfInBounds_toArray, List.set]
          refine PhaseIn.takeD (i := 16) (v := ?_) [16, 17, 18, 29, 30, 31, 32, 33] 67 rfl (by rfl) (by kernel_rfl) (by kernel_rfl) (by kernel_rfl) (by kernel_rfl) (by kernel_rfl) (fun _ _ _ h => h) (Or.inl ⟨by kernel_rfl, ?_⟩) hHeld ?_
          rotate_left
          · intro w' hSw
            (try dsimp only at hSw)
            go_simp
            first | done | with_reducible rfl
          try simp only [Act.put, List.setIfInBounds_toArray, List.set]
          refine PhaseIn.takeD (i := 17) (v := ?_) [17, 18, 29, 30, 31, 32, 33] 68 rfl (by rfl) (by kernel_rfl) (by kernel_rfl) (by kernel_rfl) (by kernel_rfl) (by kernel_rfl) (fun _ _ _ h => h) (Or.inl ⟨by kernel_rfl, ?_⟩) hHeld ?_
          rotate_left
          · intro w' hSw
            (try dsimp only at hSw)
            have z := hSw.2 (aa + 2) o2 K2.out
            go_simp
            first | done | with_reducible rfl
          try simp only [Act.put, List.setIfInBounds_toArray, List.set]
          refine PhaseIn.takeD (i := 18) (v := ?_) [18, 29, 30, 31, 32, 33] 69 rfl (by rfl) (by kernel_rfl) (by kernel_rfl) (by kernel_rfl) (by kernel_rfl) (by kernel_rfl) (fun _ _ _ h => h) (Or.inl ⟨by kernel_rfl, ?_⟩) hHeld ?_
          rotate_left
          · intro w' hSw
            (try dsimp only at hSw)
            go_simp
            first | done | with_reducible rfl
          try simp only [Act.put, List.setIfInBounds_toArray, List.set]
          refine PhaseIn.takeD (i := 19) (v := ?_) [19, 22, 29, 30, 31, 32, 33] 70 rfl (by rfl) (by kernel_rfl) (by kernel_rfl) (by kernel_rfl) (by kernel_rfl) (by kernel_rfl) (fun _ _ _ h => h) (Or.inl ⟨by kernel_rfl, ?_⟩) hHeld ?_
          rotate_left
          · intro w' hSw
            (try dsimp only at hSw)
            go_simp
            first | done | with_reducible rfl
          try simp only [Act.put, List.setIfInBounds_toArray, List.set]
          refine PhaseIn.takeD (i := 20) (v := ?_) [20, 21, 22, 29, 30, 31, 32, 33] 71 rfl (by rfl) (by kernel_rfl) (by kernel_rfl) (by kernel_rfl) (by kernel_rfl) (by kernel_rfl) (fun _ _ _ h => h) (Or.inl ⟨by kernel_rfl, ?_⟩) hHeld ?_
          rotate_left
          · intro w' hSw
            (try dsimp only at hSw)
            go_simp
            first | done | with_reducible rfl
          try simp only [Act.put, List.setIfInBounds_toArray, List.set]
          refine PhaseIn.takeD (i := 21) (v := ?_) [21, 22, 29, 30, 31, 32, 33] 72 rfl (by rfl) (by kernel_rfl) (by kernel_rfl) (by kernel_rfl) (by kernel_rfl) (by kernel_rfl) (fun _ _ _ h => h) (Or.inl ⟨by kernel_rfl, ?_⟩) hHeld ?_
          rotate_left
          · intro w' hSw
            (try dsimp only at hSw)
            go_simp
            first | done | with_reducible rfl
          try simp only [Act.put, List.setIfInBounds_toArray, List.set]
          refine PhaseIn.takeD (i := 23) (v := ?_) [23, 26, 27, 28, 29, 30, 31, 32, 33] 74 rfl (by rfl) (by kernel_rfl) (by kernel_rfl) (by kernel_rfl) (by kernel_rfl) (by kernel_rfl) (fun _ _ _ h => h) (Or.inl ⟨by kernel_rfl, ?_⟩) hHeld ?_
          rotate_left
          · intro w' hSw
            (try dsimp only at hSw)
            go_simp
            first | done | with_reducible rfl
          try simp only [Act.put, List.setIfInBounds_toArray, List.set]
          refine PhaseIn.takeD (i := 24) (v := ?_) [24, 25, 26, 27, 28, 29, 30, 31, 32, 33] 75 rfl (by rfl) (by kernel_rfl) (by kernel_rfl) (by kernel_rfl) (by kernel_rfl) (by kernel_rfl) (fun _ _ _ h => h) (Or.inl ⟨by kernel_rfl, ?_⟩) hHeld ?_
          rotate_left
          · intro w' hSw
            (try dsimp only at hSw)
            go_simp
            first | done | with_reducible rfl
          try simp only [Act.put, List.setIfInBounds_toArray, List.set]
          refine PhaseIn.takeD (i := 25) (v := ?_) [25, 26, 27, 28, 29, 30, 31, 32, 33] 76 rfl (by rfl) (by kernel_rfl) (by kernel_rfl) (by kernel_rfl) (by kernel_rfl) (by kernel_rfl) (fun _ _ _ h => h) (Or.inl ⟨by kernel_rfl, ?_⟩) hHeld ?_
          rotate_left
          · intro w' hSw
            (try dsimp only at hSw)
            go_simp
            first | done | with_reducible rfl
          try simp only [Act.put, List.setIfInBounds_toArray, List.set]
          refine PhaseIn.takeD (i := 26) (v := ?_) [26, 27, 28, 29, 30, 31, 32, 33] 77 rfl (by rfl) (by kernel_rfl) (by kernel_rfl) (by kernel_rfl) (by kernel_rfl) (by kernel_rfl) (fun _ _ _ h => h) (Or.inl ⟨by kernel_rfl, ?_⟩) hHeld ?_
          rotate_left
          · intro w' hSw
            (try dsimp only at hSw)
            go_simp
            first | done | with_reducible rfl
          try simp only [Act.put, List.setIfInBounds_toArray, List.set]
          refine PhaseIn.takeD (i := 27) (v := ?_) [27, 28, 29, 30, 31, 32, 33] 78 rfl (by rfl) (by kernel_rfl) (by kernel_rfl) (by kernel_rfl) (by kernel_rfl) (by kernel_rfl) (fun _ _ _ h => h) (Or.inl ⟨by kernel_rfl, ?_⟩) hHeld ?_
          rotate_left
          · intro w' hSw
            (try dsimp only at hSw)
            have z := hSw.2 (aa + 5) o5 K5.out
            go_simp
            first | done | with_reducible rfl
          try simp only [Act.put, List.setIfInBounds_toArray, List.set]
          refine PhaseIn.takeD (i := 28) (v := ?_) [28, 29, 30, 31, 32, 33] 79 rfl (by rfl) (by kernel_rfl) (by kernel_rfl) (by kernel_rfl) (by kernel_rfl) (by kernel_rfl) (fun _ _ _ h => h) (Or.inl ⟨by kernel_rfl, ?_⟩) hHeld ?_
          rotate_left
          · intro w' hSw
            (try dsimp only at hSw)
            go_simp
            first | done | with_reducible rfl
          try simp only [Act.put, List.setIfInBounds_toArray, List.set]
          refine PhaseIn.one (i := 22) (by kernel_rfl) rfl (by kernel_rfl) (fun K hK => ?_)
          unfold Oper.wpIn
          refine ⟨fun _ _ => trivial, ?_⟩
          go_simp
          refine ⟨rfl, (callsIn_wide.2 (l11Num ys B off n c _ (aa + 3) _ hHeld.2 HL.out g2 g3' HY.out (by omega) (by omega))).mono ?_⟩
          rintro r e3 ⟨rfl, hb⟩
          obtain ⟨ok, eok⟩ : ∃ z, atY ys (aa + 3) * 256 + atY ys (aa + 3 + 1) = z := ⟨_, rfl⟩
          rw [eok]
          have EOKK := hide eok
          clear eok
          replace hHeld := And.intro (hHeld.1.below hb) (hHeld.2.below hb)
          replace OO := hide (OO.out.below hb)
          replace RZ := hide (RZ.out.below hb)
          replace BW := hide (BW.out.trans (hb.mono BW.out.size))
          refine hK _ _ (fun _ => hHeld) ?_
          clear hK K hb
          try simp only [Act.put, List.setIfInBounds_toArray, List.set]
          refine PhaseIn.takeD (i := 29) (v := ?_) [29, 30, 31, 32, 33] 80 rfl (by rfl) (by kernel_rfl) (by kernel_rfl) (by kernel_rfl) (by kernel_rfl) (by kernel_rfl) (fun _ _ _ h => h) (Or.inl ⟨by kernel_rfl, ?_⟩) hHeld ?_
          rotate_left
          · intro w' hSw
            (try dsimp only at hSw)
            go_simp
            first | done | with_reducible rfl
          try simp only [Act.put, List.setIfInBounds_toArray, List.set]
          refine PhaseIn.one (i := 30) (by kernel_rfl) rfl (by kernel_rfl) (fun K hK => ?_)
          unfold Oper.wpIn
          refine ⟨fun _ _ => trivial, ?_⟩
          go_simp
          have bP : Below e3.heap.size e3 (e3.alloc (.cells #[.int .i64 o0, .int .i64 o1, .int .i64 o2, .int .i64 ok, .int .i64 o5] 51)) := (Below.refl _ _).alloc (Nat.le_refl _) _
          have RP := hide (Rec.new e3 [.int .i64 o0, .int .i64 o1, .int .i64 o2, .int .i64 ok, .int .i64 o5] 51)
          replace hHeld := And.intro (hHeld.1.below bP) (hHeld.2.below bP)
          replace OO := hide (OO.out.below bP)
          replace RZ := hide (RZ.out.below bP)
          replace BW := hide (BW.out.trans (bP.mono BW.out.size))
          refine hK _ _ (fun _ => hHeld) ?_
          clear hK K bP
          try simp only [Act.put, List.setIfInBounds_toArray, List.set]
          generalize e3.alloc (.cells #[.int .i64 o0, .int .i64 o1, .int .i64 o2, .int .i64 ok, .int .i64 o5] 51) = e4 at hHeld OO RZ BW RP ⊢
          generalize e3.heap.size = Pb at RP ⊢
          have SZ3 : w.heap.size < e4.heap.size := RZ.out.lt
          obtain ⟨g4, c4, w4, T4, hrun, O4, T4t, hT4, hlT4, hg4⟩ := run_pushOp (ty := 23) OO.out OL.out (by have := NJ.out; have := EA.out.1; have := EA.out.2; omega) (by omega) Pb ⟨o0, o1, o2, ok, o5⟩ RP.out
          have CT : Xb ≠ T4 := by
            rcases hT4 with e | e
            · exact fun h => QC.out T4 e h.symm
            · have := hHeld.1.lt; omega
          have CG : Hid (g4 ≠ Xb) := by
            rcases hg4 with e | e
            · exact QC.out g4 e
            · have := hHeld.1.lt
              show g4 ≠ Xb
              omega
          have OO4 := hide O4
          have RC4 := hHeld.1.turn T4t CT
          have RZ4 := hide (RZ.out.turn T4t (by omega))
          have BW4 := hide (BW.out.trans (T4t.below (by omega) BW.out.size))
          refine PhaseIn.one (i := 31) (by kernel_rfl) rfl (by kernel_rfl) (fun K hK => ?_)
          refine push_in _ _ rfl rfl rfl hrun ?_
          refine hK _ _ (fun h => absurd h (by decide)) ?_
          clear hK K hrun O4 T4t hHeld OO RZ BW RP hT4 hg4 CT SZ3 hlT4
          try simp only [Act.put, List.setIfInBounds_toArray, List.set]
          refine PhaseIn.late (i := 32) (v := ?_) (by kernel_rfl) rfl 83 (by rfl) (by omega) (Or.inl ⟨by kernel_rfl, ?_⟩) ?_
          rotate_left
          · intro w' hSw
            go_simp
            first | done | with_reducible rfl
          try simp only [Act.put, List.setIfInBounds_toArray, List.set]
          have z2 := RC4.cell 2 _ rfl
          have f2 := RC4.soft 2
          refine PhaseIn.one (i := 33) (by kernel_rfl) rfl (by kernel_rfl) (fun K hK => ?_)
          unfold Oper.wpIn
          refine ⟨fun _ _ => trivial, ?_⟩
          go_simp
          have T5 := (Turn.refl Xb w4).setCell (p := ⟨Xb, 2, none⟩) rfl (.slice (some ⟨g4, 0, none⟩) (no + 1) c4)
          have RC5 := hide (RC4.set 2 (.slice (some ⟨g4, 0, none⟩) (no + 1) c4) (by simp) (show _ = [.int .i64 y0, .int .i64 y1, .slice (some ⟨g4, 0, none⟩) (no + 1) c4, .int .i64 y2, .int .i64 y3, .int .i64 y4, .int .i64 kk] from rfl))
          have OO5 : Hid (OwnO (w4.setCell ⟨Xb, 2, none⟩ (.slice (some ⟨g4, 0, none⟩) (no + 1) c4)) (w.heap.size + 1) (.slice (some ⟨g4, 0, none⟩) (no + 1) c4) (os ++ [⟨o0, o1, o2, ok, o5⟩])) := by
            have h := OO4.out
            have e := lenO h
            unfold OwnO at h ⊢
            rw [e] at h ⊢
            exact OwnF.apart (q := some ⟨g4, 0, none⟩) h T5 (fun G e => by injection e with e; injection e with e1; rw [← e1]; exact CG.out)
          have RZ5 := hide (RZ4.out.turn T5 (by have := CL.out; omega))
          have BW5 := hide (BW4.out.trans (T5.below (by have := CL.out; omega) BW4.out.size))
          have QC5 : Hid (∀ G, (some ⟨g4, 0, none⟩ : Option Addr) = some ⟨G, 0, none⟩ → G ≠ Xb) := fun G e => by cases e; exact CG.out
          have EOS5 : Hid (os ++ [⟨o0, o1, o2, ok, o5⟩] = opsR ys (j + 1)) := by
            show _ = _
            obtain ⟨x0, x1, x2, x5⟩ := AE.out
            rw [opsR_next, EOS.out]
            congr 2
            unfold opR
            rw [← EA.out.1, x0, x1, x2, x5, EOKK.out]
          have EA5 : Hid (aa + 6 = 7 + 6 * (j + 1) ∧ aa + 6 ≤ n) := by have := EA.out.1; exact ⟨by omega, by omega⟩
          refine hK _ _ (fun h => absurd h (by decide)) ?_
          clear hK K T5 RC4 OO4 RZ4 BW4 z2 f2
          try simp only [Act.put, List.setIfInBounds_toArray, List.set]
          generalize (w4.setCell ⟨Xb, 2, none⟩ (.slice (some ⟨g4, 0, none⟩) (no + 1) c4)) = w5 at RC5 OO5 RZ5 BW5 ⊢
          refine PhaseIn.done (by kernel_rfl) ?_ _
          go_wp2
          exact ⟨⟨aa + 6, j + 1, _, _, _, _, by go_num, EA5, EOS5, OO5, RC5, RZ5, BW5, QC5⟩, by simp [intOf]; omega⟩
        · have l0 : ¬ ((aa : Nat) : Int) < (n : Nat) := by omega
          have ej : (n - 7) / 6 = j := by omega
          have BE : (⟨y0, y1, os, y2, y3, y4, kk⟩ : Bk) = blkY ys ((n - 7) / 6) := by
            obtain ⟨x0, x1, x2, x3, x4⟩ := EE.out
            unfold blkY
            rw [x0, x1, x2, x3, x4, EK.out, ej, EOS.out]
          have BEH := hide BE
          obtain ⟨bs, hrow⟩ := rowO OO.out
          have HR := hide hrow
          have z0 := RC.out.cell 0 _ rfl
          have z1 := RC.out.cell 1 _ rfl
          have z2 := RC.out.cell 2 _ rfl
          have z3 := RC.out.cell 3 _ rfl
          have z4 := RC.out.cell 4 _ rfl
          have z5 := RC.out.cell 5 _ rfl
          have z6 := RC.out.cell 6 _ rfl
          clear hrow BE ea ea2 nj ej
          go_wp2_with fail
          refine (specIrOk (⟨y0, y1, os, y2, y3, y4, kk⟩ : Bk) [.int .i64 y0, .int .i64 y1, .slice qo no co, .int .i64 y2, .int .i64 y3, .int .i64 y4, .int .i64 kk] wr ⟨qo, co, bs, by unfold bv; rw [OL.out], by rw [OL.out]; exact HR.out⟩).mono ?_
          rintro r v ⟨rfl, hb⟩
          obtain ⟨Bo, wo, wB⟩ := own_wo (OO.out.below hb)
          have WO := hide wo
          have WB : Hid (os = [] ∨ (w.heap.size + 1 ≤ Bo ∧ Bo < v.heap.size)) := wB
          replace RC := hide (RC.out.below hb)
          replace RZ := hide (RZ.out.below hb)
          replace BW := hide (BW.out.trans (hb.mono BW.out.size))
          clear hb wo wB OO HR z0 z1 z2 z3 z4 z5 z6
          rw [BEH.out]
          cases eo : okB (blkY ys ((n - 7) / 6)) with
          | false =>
            obtain rfl : ro = false := by rw [EOK.out]; exact eo
            obtain rfl := NO2.out rfl
            clear eo RC WO WB
            go_wp2_with (refine lay7 rfl rfl _ _ rfl w.heap.size _ _ _ _ _ _ _ RZ.out rfl _ _ _ _ _ _ _ _ _ rfl ?_; intro p1 RX TX; refine Hid.out ?_)
            have FIN := hide (NG.out v BW p1 TX)
            clear TX RZ BW
            refine hide ?_
            have y0 := RX.out.cell 0 _ rfl
            have y1 := RX.out.cell 1 _ rfl
            have y2 := RX.out.cell 2 _ rfl
            have y3 := RX.out.cell 3 _ rfl
            have y4 := RX.out.cell 4 _ rfl
            have y5 := RX.out.cell 5 _ rfl
            have y6 := RX.out.cell 6 _ rfl
            go_wp2
            exact bodyPost_ret (v := .tuple #[.agg #[.int .i64 0, .int .i64 0, .slice none 0 0, .int .i64 0, .int .i64 0, .int .i64 0, .int .i64 0], .bool false]) (by simp [results, Tryd.results17, go_sem, y0, y1, y2, y3, y4, y5, y6]) rfl ⟨_, rfl, FIN.out⟩
          | true =>
            obtain rfl : ro = true := by rw [EOK.out]; exact eo
            have RB2 := hide (ERB.out eo)
            clear eo
            have z0 := RC.out.cell 0 _ rfl
            have z1 := RC.out.cell 1 _ rfl
            have z2 := RC.out.cell 2 _ rfl
            have z3 := RC.out.cell 3 _ rfl
            have z4 := RC.out.cell 4 _ rfl
            have z5 := RC.out.cell 5 _ rfl
            have z6 := RC.out.cell 6 _ rfl
            go_wp2_with (refine lay7 rfl rfl _ _ rfl w.heap.size _ _ _ _ _ _ _ RZ.out rfl _ _ _ _ _ _ _ _ _ rfl ?_; intro p1 RX TX; refine Hid.out ?_)
            have FIN : Hid (blkR.ow p1 (New w p1) [.int .i64 y0, .int .i64 y1, .slice qo no co, .int .i64 y2, .int .i64 y3, .int .i64 y4, .int .i64 kk] (toT rb) ∧ Below w.heap.size w p1) := by
              refine ⟨?_, BW.out.trans (TX.out.below (Nat.le_refl _) BW.out.size)⟩
              rw [RB2.out, ← BEH.out]
              have h := ow_read (b := (⟨y0, y1, os, y2, y3, y4, kk⟩ : Bk)) (A := New w p1) (q' := qo) (c' := co) (B := Bo) (w := p1) (by have e := OL.out; simp only []; rw [e]; exact wo_turn WO.out TX.out (WB.out.imp id (fun h => by omega))) (WB.out.imp id (fun h => ⟨by omega, by have := TX.out.size; omega⟩))
              simp only [] at h
              rw [OL.out] at h
              exact h
            clear TX RZ WO WB RC BW z0 z1 z2 z3 z4 z5 z6
            refine hide ?_
            have x0 := RX.out.cell 0 _ rfl
            have x1 := RX.out.cell 1 _ rfl
            have x2 := RX.out.cell 2 _ rfl
            have x3 := RX.out.cell 3 _ rfl
            have x4 := RX.out.cell 4 _ rfl
            have x5 := RX.out.cell 5 _ rfl
            have x6 := RX.out.cell 6 _ rfl
            go_wp2
            exact bodyPost_ret (v := .tuple #[.agg #[.int .i64 y0, .int .i64 y1, .slice qo no co, .int .i64 y2, .int .i64 y3, .int .i64 y4, .int .i64 kk], .bool true]) (by simp [results, Tryd.results17, go_sem, x0, x1, x2, x3, x4, x5, x6]) rfl ⟨_, rfl, FIN.out⟩
end Go.Proofs.YtkeelacobknfbaaDoor.Wr
