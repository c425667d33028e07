/-
  Our own hand, the program's words, asked, onward.
-/
import Derived.Test.YtflhehofgplcoaaDoorOiA
namespace Go.Proofs.YtflhehofgplcoaaDoor.Op
set_option linter.unusedVariables false
set_option linter.unusedSimpArgs false
open Go.ChangeShapes Go.WideShapes Go.ChangeAt Go.RowKit IntS Flat Irk
open Ir Dt
open Mch (Rec)
open Pol (Keep)
/-- Five cells stored into a box. -/
theorem rec_five {Z : Nat} {w : World} {c0 c1 c2 c3 c4 : Value} (h : Rec Z [c0, c1, c2, c3, c4] w) (a b c d e : Value) : Rec Z [a, b, c, d, e] (set5 w Z 0 a b c d e) := by
  have := ((((h.set 0 a (by simp) (show _ = [a, c1, c2, c3, c4] from rfl)).set 1 b (by simp) (show _ = [a, b, c2, c3, c4] from rfl)).set 2 c (by simp) (show _ = [a, b, c, c3, c4] from rfl)).set 3 d (by simp) (show _ = [a, b, c, d, c4] from rfl)).set 4 e (by simp) (show _ = [a, b, c, d, e] from rfl)
  exact this
set_option maxRecDepth 8000 in
set_option maxHeartbeats 16000000 in
theorem words (mx my : Nat) (kx xx yx vx tx ky xy yy vy ty : Int) (pc ln en bx by_ bk : Int) (ops : List Opn) (Z g n c : Nat) (w : World) (hB : Rec Z [.int .i64 pc, .int .i64 ln, .slice (some ⟨g, 0, none⟩) n c, .int .i64 en, .int .i64 bx, .int .i64 by_, .int .i64 bk] w) (hO : Ow w g n c ops) (hx : ops[mx]? = some ⟨kx, xx, yx, vx, tx⟩) (hy : ops[my]? = some ⟨ky, xy, yy, vy, ty⟩) :
    Calls Tryd.prog 61 #[.pointer (some ⟨Z, 0, none⟩), .int .i64 mx, .int .i64 my] w fun e w' => e = .returned (.tuple #[.int .i64 vx, .int .i64 vy, .bool (kx == 1 && ky == 1)]) ∧ Below w.heap.size w w' := by
  have lx := (List.getElem?_eq_some_iff.1 hx).1
  have ly := (List.getElem?_eq_some_iff.1 hy).1
  rw [hO.len] at lx ly
  have lx2 : ((mx : Nat) : Int) < (n : Nat) := by omega
  have ly2 : ((my : Nat) : Int) < (n : Nat) := by omega
  have h2 := hO.le
  have h3 := hO.mx
  unfold maxLen at h3
  have HX := hide hx
  have HY := hide hy
  have RB := hide hB
  have WO := hide hO
  clear hx hy hB hO
  go_enter Tryd.func61, Tryd.ntmps61
  go_wp2_with fail
  refine (wpIn_wide (n := 0)).1 ?_
  have bA : Below w.heap.size w w.drew := (Below.refl _ _).drew
  replace RB := hide (RB.out.below bA)
  replace WO := hide (WO.out.below bA)
  have BW := hide bA
  clear bA
  refine PhaseIn.region (S := fun v => (Rec Z [.int .i64 pc, .int .i64 ln, .slice (some ⟨g, 0, none⟩) n c, .int .i64 en, .int .i64 bx, .int .i64 by_, .int .i64 bk] v ∧ Ow v g n c ops)) 20 (by kernel_rfl) ?_
  generalize w.drew = d1 at RB WO BW ⊢
  have hHeld : Rec Z [.int .i64 pc, .int .i64 ln, .slice (some ⟨g, 0, none⟩) n c, .int .i64 en, .int .i64 bx, .int .i64 by_, .int .i64 bk] d1 ∧ Ow d1 g n c ops := ⟨RB.out, WO.out⟩
  refine PhaseIn.takeD (i := 0) (v := ?_) [0, 1, 2, 3, 4, 6, 7, 18, 19] 11 rfl (by rfl) (by kernel_rfl) (by kernel_rfl) (by kernel_rfl) (by kernel_rfl) (by kernel_rfl) (fun _ _ _ h => h) (Or.inl ⟨by kernel_rfl, ?_⟩) hHeld ?_
  rotate_left
  · intro w' hSw
    (try dsimp only at hSw)
    go_simp
    first | done | with_reducible rfl
  try simp only [Act.put, List.setIfInBounds_toArray, List.set]
  refine PhaseIn.takeD (i := 1) (v := ?_) [1, 2, 3, 4, 6, 7, 18, 19] 12 rfl (by rfl) (by kernel_rfl) (by kernel_rfl) (by kernel_rfl) (by kernel_rfl) (by kernel_rfl) (fun _ _ _ h => h) (Or.inl ⟨by kernel_rfl, ?_⟩) hHeld ?_
  rotate_left
  · intro w' hSw
    (try dsimp only at hSw)
    go_simp
    first | done | with_reducible rfl
  try simp only [Act.put, List.setIfInBounds_toArray, List.set]
  refine PhaseIn.takeD (i := 2) (v := ?_) [2, 3, 4, 6, 7, 18, 19] 13 rfl (by rfl) (by kernel_rfl) (by kernel_rfl) (by kernel_rfl) (by kernel_rfl) (by kernel_rfl) (fun _ _ _ h => h) (Or.inl ⟨by kernel_rfl, ?_⟩) hHeld ?_
  rotate_left
  · intro w' hSw
    (try dsimp only at hSw)
    go_simp
    first | done | with_reducible rfl
  try simp only [Act.put, List.setIfInBounds_toArray, List.set]
  refine PhaseIn.takeD (i := 3) (v := ?_) [3, 4, 6, 7, 18, 19] 14 rfl (by rfl) (by kernel_rfl) (by kernel_rfl) (by kernel_rfl) (by kernel_rfl) (by kernel_rfl) (fun _ _ _ h => h) (Or.inl ⟨by kernel_rfl, ?_⟩) hHeld ?_
  rotate_left
  · intro w' hSw
    (try dsimp only at hSw)
    go_simp
    first | done | with_reducible rfl
  try simp only [Act.put, List.setIfInBounds_toArray, List.set]
  refine PhaseIn.takeD (i := 4) (v := ?_) [4, 6, 7, 18, 19] 15 rfl (by rfl) (by kernel_rfl) (by kernel_rfl) (by kernel_rfl) (by kernel_rfl) (by kernel_rfl) (fun _ _ _ h => h) (Or.inl ⟨by kernel_rfl, ?_⟩) hHeld ?_
  rotate_left
  · intro w' hSw
    (try dsimp only at hSw)
    have z2 := hSw.1.cell 2 _ rfl
    go_simp
    first | done | with_reducible rfl
  try simp only [Act.put, List.setIfInBounds_toArray, List.set]
  refine PhaseIn.takeD (i := 5) (v := ?_) [5, 6, 7, 18, 19] 16 rfl (by rfl) (by kernel_rfl) (by kernel_rfl) (by kernel_rfl) (by kernel_rfl) (by kernel_rfl) (fun _ _ _ h => h) (Or.inl ⟨by kernel_rfl, ?_⟩) hHeld ?_
  rotate_left
  · intro w' hSw
    (try dsimp only at hSw)
    go_simp
    first | done | with_reducible rfl
  try simp only [Act.put, List.setIfInBounds_toArray, List.set]
  refine PhaseIn.takeD (i := 6) (v := ?_) [6, 7, 18, 19] 17 rfl (by rfl) (by kernel_rfl) (by kernel_rfl) (by kernel_rfl) (by kernel_rfl) (by kernel_rfl) (fun _ _ _ h => h) (Or.inl ⟨by kernel_rfl, ?_⟩) hHeld ?_
  rotate_left
  · intro w' hSw
    (try dsimp only at hSw)
    go_simp
    first | done | with_reducible rfl
  try simp only [Act.put, List.setIfInBounds_toArray, List.set]
  refine PhaseIn.takeD (i := 7) (v := ?_) [7, 18, 19] 18 rfl (by rfl) (by kernel_rfl) (by kernel_rfl) (by kernel_rfl) (by kernel_rfl) (by kernel_rfl) (fun _ _ _ h => h) (Or.inl ⟨by kernel_rfl, ?_⟩) hHeld ?_
  rotate_left
  · intro w' hSw
    (try dsimp only at hSw)
    obtain ⟨c0, c1, c2, c3, c4⟩ := (hSw.2.at_ mx _ HX.out).1
    go_simp
    first | done | with_reducible rfl
  try simp only [Act.put, List.setIfInBounds_toArray, List.set]
  refine PhaseIn.takeD (i := 8) (v := ?_) [8, 9, 10, 11, 12, 14, 15, 19] 19 rfl (by rfl) (by kernel_rfl) (by kernel_rfl) (by kernel_rfl) (by kernel_rfl) (by kernel_rfl) (fun _ _ _ h => h) (Or.inl ⟨by kernel_rfl, ?_⟩) hHeld ?_
  rotate_left
  · intro w' hSw
    (try dsimp only at hSw)
    go_simp
    first | done | with_reducible rfl
  try simp only [Act.put, List.setIfInBounds_toArray, List.set]
  refine PhaseIn.takeD (i := 9) (v := ?_) [9, 10, 11, 12, 14, 15, 19] 20 rfl (by rfl) (by kernel_rfl) (by kernel_rfl) (by kernel_rfl) (by kernel_rfl) (by kernel_rfl) (fun _ _ _ h => h) (Or.inl ⟨by kernel_rfl, ?_⟩) hHeld ?_
  rotate_left
  · intro w' hSw
    (try dsimp only at hSw)
    go_simp
    first | done | with_reducible rfl
  try simp only [Act.put, List.setIfInBounds_toArray, List.set]
  refine PhaseIn.takeD (i := 10) (v := ?_) [10, 11, 12, 14, 15, 19] 21 rfl (by rfl) (by kernel_rfl) (by kernel_rfl) (by kernel_rfl) (by kernel_rfl) (by kernel_rfl) (fun _ _ _ h => h) (Or.inl ⟨by kernel_rfl, ?_⟩) hHeld ?_
  rotate_left
  · intro w' hSw
    (try dsimp only at hSw)
    go_simp
    first | done | with_reducible rfl
  try simp only [Act.put, List.setIfInBounds_toArray, List.set]
  refine PhaseIn.takeD (i := 11) (v := ?_) [11, 12, 14, 15, 19] 22 rfl (by rfl) (by kernel_rfl) (by kernel_rfl) (by kernel_rfl) (by kernel_rfl) (by kernel_rfl) (fun _ _ _ h => h) (Or.inl ⟨by kernel_rfl, ?_⟩) hHeld ?_
  rotate_left
  · intro w' hSw
    (try dsimp only at hSw)
    go_simp
    first | done | with_reducible rfl
  try simp only [Act.put, List.setIfInBounds_toArray, List.set]
  refine PhaseIn.takeD (i := 12) (v := ?_) [12, 14, 15, 19] 23 rfl (by rfl) (by kernel_rfl) (by kernel_rfl) (by kernel_rfl) (by kernel_rfl) (by kernel_rfl) (fun _ _ _ h => h) (Or.inl ⟨by kernel_rfl, ?_⟩) hHeld ?_
  rotate_left
  · intro w' hSw
    (try dsimp only at hSw)
    have z2 := hSw.1.cell 2 _ rfl
    go_simp
    first | done | with_reducible rfl
  try simp only [Act.put, List.setIfInBounds_toArray, List.set]
  refine PhaseIn.takeD (i := 13) (v := ?_) [13, 14, 15, 19] 24 rfl (by rfl) (by kernel_rfl) (by kernel_rfl) (by kernel_rfl) (by kernel_rfl) (by kernel_rfl) (fun _ _ _ h => h) (Or.inl ⟨by kernel_rfl, ?_⟩) hHeld ?_
  rotate_left
  · intro w' hSw
    (try dsimp only at hSw)
    go_simp
    first | done | with_reducible rfl
  try simp only [Act.put, List.setIfInBounds_toArray, List.set]
  refine PhaseIn.takeD (i := 14) (v := ?_) [14, 15, 19] 25 rfl (by rfl) (by kernel_rfl) (by kernel_rfl) (by kernel_rfl) (by kernel_rfl) (by kernel_rfl) (fun _ _ _ h => h) (Or.inl ⟨by kernel_rfl, ?_⟩) hHeld ?_
  rotate_left
  · intro w' hSw
    (try dsimp only at hSw)
    go_simp
    first | done | with_reducible rfl
  try simp only [Act.put, List.setIfInBounds_toArray, List.set]
  refine PhaseIn.takeD (i := 15) (v := ?_) [15, 19] 26 rfl (by rfl) (by kernel_rfl) (by kernel_rfl) (by kernel_rfl) (by kernel_rfl) (by kernel_rfl) (fun _ _ _ h => h) (Or.inl ⟨by kernel_rfl, ?_⟩) hHeld ?_
  rotate_left
  · intro w' hSw
    (try dsimp only at hSw)
    obtain ⟨c0, c1, c2, c3, c4⟩ := (hSw.2.at_ my _ HY.out).1
    go_simp
    first | done | with_reducible rfl
  try simp only [Act.put, List.setIfInBounds_toArray, List.set]
  clear hHeld
  have LZ : Hid (Z < d1.heap.size ∧ g < d1.heap.size) := ⟨RB.out.lt, WO.out.lt⟩
  have SZ : Hid (w.heap.size ≤ d1.heap.size) := BW.out.size
  refine PhaseIn.two (i := 16) (j := 17) (by kernel_rfl) rfl rfl (by kernel_rfl) (by kernel_rfl) (fun K hK => ?_) (fun K hK => ?_)
  · unfold Oper.wpIn
    refine ⟨fun _ _ => trivial, ?_⟩
    go_simp
    have bN : Below d1.heap.size d1 (d1.alloc (.cells #[.int .i64 0, .int .i64 0, .int .i64 0, .int .i64 0, .int .i64 0] 41)) := (Below.refl _ _).alloc (Nat.le_refl _) _
    have N9 := hide (Rec.new d1 [.int .i64 0, .int .i64 0, .int .i64 0, .int .i64 0, .int .i64 0] 41)
    replace RB := hide (RB.out.below bN)
    replace WO := hide (WO.out.below bN)
    replace BW := hide (BW.out.trans (bN.mono BW.out.size))
    refine hK _ _ (fun _ => ⟨RB.out, WO.out⟩) ?_
    obtain ⟨bN9, eN9⟩ : ∃ z, d1.heap.size = z := ⟨_, rfl⟩
    have LN9 : Hid (w.heap.size ≤ bN9 ∧ Z ≠ bN9 ∧ g ≠ bN9 ∧ True) := ⟨by rw [← eN9]; exact SZ.out, by rw [← eN9]; have := LZ.out.1; omega, by rw [← eN9]; have := LZ.out.2; omega, trivial⟩
    rw [eN9] at N9 ⊢
    clear bN hK K
    try simp only [Act.put, List.setIfInBounds_toArray, List.set]
    generalize d1.alloc (.cells #[.int .i64 0, .int .i64 0, .int .i64 0, .int .i64 0, .int .i64 0] 41) = d2 at RB WO BW N9  ⊢
    replace LZ : Hid (Z < d2.heap.size ∧ g < d2.heap.size) := ⟨RB.out.lt, WO.out.lt⟩
    replace SZ : Hid (w.heap.size ≤ d2.heap.size) := BW.out.size
    have MN9 : Hid (bN9 < d2.heap.size) := N9.out.lt
    clear eN9
    refine PhaseIn.one (i := 17) (by kernel_rfl) rfl (by kernel_rfl) (fun K hK => ?_)
    unfold Oper.wpIn
    refine ⟨fun _ _ => trivial, ?_⟩
    go_simp
    have bN : Below d2.heap.size d2 (d2.alloc (.cells #[.int .i64 0, .int .i64 0, .int .i64 0, .int .i64 0, .int .i64 0] 41)) := (Below.refl _ _).alloc (Nat.le_refl _) _
    have N10 := hide (Rec.new d2 [.int .i64 0, .int .i64 0, .int .i64 0, .int .i64 0, .int .i64 0] 41)
    replace RB := hide (RB.out.below bN)
    replace WO := hide (WO.out.below bN)
    replace BW := hide (BW.out.trans (bN.mono BW.out.size))
    replace N9 := hide (N9.out.below bN)
    refine hK _ _ (fun _ => ⟨RB.out, WO.out⟩) ?_
    obtain ⟨bN10, eN10⟩ : ∃ z, d2.heap.size = z := ⟨_, rfl⟩
    have LN10 : Hid (w.heap.size ≤ bN10 ∧ Z ≠ bN10 ∧ g ≠ bN10 ∧ bN9 ≠ bN10 ∧ True) := ⟨by rw [← eN10]; exact SZ.out, by rw [← eN10]; have := LZ.out.1; omega, by rw [← eN10]; have := LZ.out.2; omega, by rw [← eN10]; have := MN9.out; omega, trivial⟩
    rw [eN10] at N10 ⊢
    clear bN hK K
    try simp only [Act.put, List.setIfInBounds_toArray, List.set]
    generalize d2.alloc (.cells #[.int .i64 0, .int .i64 0, .int .i64 0, .int .i64 0, .int .i64 0] 41) = d3 at RB WO BW N10 N9 ⊢
    replace LZ : Hid (Z < d3.heap.size ∧ g < d3.heap.size) := ⟨RB.out.lt, WO.out.lt⟩
    replace SZ : Hid (w.heap.size ≤ d3.heap.size) := BW.out.size
    have MN10 : Hid (bN10 < d3.heap.size) := N10.out.lt
    replace MN9 : Hid (bN9 < d3.heap.size) := N9.out.lt
    clear eN10
    refine PhaseIn.one (i := 18) (by kernel_rfl) rfl (by kernel_rfl) (fun K hK => ?_)
    have z0 := N9.out.cell 0 _ rfl
    have z1 := N9.out.cell 1 _ rfl
    have z2 := N9.out.cell 2 _ rfl
    have z3 := N9.out.cell 3 _ rfl
    have z4 := N9.out.cell 4 _ rfl
    have s0 := N9.out.soft 0
    have s1 := N9.out.soft 1
    have s2 := N9.out.soft 2
    have s3 := N9.out.soft 3
    have s4 := N9.out.soft 4
    unfold Oper.wpIn
    refine ⟨fun _ _ => trivial, ?_⟩
    go_simp
    have tN := set5_turn d3 bN9 0 (.int .i64 kx) (.int .i64 xx) (.int .i64 yx) (.int .i64 vx) (.int .i64 tx)
    have rN := rec_five N9.out (.int .i64 kx) (.int .i64 xx) (.int .i64 yx) (.int .i64 vx) (.int .i64 tx)
    have RB' := RB.out.turn tN LN9.out.2.1
    have WO' := WO.out.turn tN LN9.out.2.2.1
    have BW' := BW.out.trans (tN.below LN9.out.1 BW.out.size)
    have N10' := N10.out.turn tN (by have h1 := LN9.out; have h2 := LN10.out; omega)
    unfold set5 at tN rN RB' WO' BW' N10'
    refine hK _ _ (fun _ => ⟨RB', WO'⟩) ?_
    try simp only [Act.put, List.setIfInBounds_toArray, List.set]
    generalize (((((d3.setCell ⟨bN9, 0, none⟩ (.int .i64 kx)).setCell ⟨bN9, 1, none⟩ (.int .i64 xx)).setCell ⟨bN9, 2, none⟩ (.int .i64 yx)).setCell ⟨bN9, 3, none⟩ (.int .i64 vx)).setCell ⟨bN9, 4, none⟩ (.int .i64 tx)) = d4 at rN RB' WO' BW' N10' ⊢
    replace N9 := hide rN
    replace RB := hide RB'
    replace WO := hide WO'
    replace BW := hide BW'
    replace N10 := hide N10'
    clear tN rN RB' WO' BW' z0 z1 z2 z3 z4 s0 s1 s2 s3 s4 hK K N10'
    replace LZ : Hid (Z < d4.heap.size ∧ g < d4.heap.size) := ⟨RB.out.lt, WO.out.lt⟩
    replace SZ : Hid (w.heap.size ≤ d4.heap.size) := BW.out.size
    replace MN9 : Hid (bN9 < d4.heap.size) := N9.out.lt
    replace MN10 : Hid (bN10 < d4.heap.size) := N10.out.lt
    refine PhaseIn.one (i := 19) (by kernel_rfl) rfl (by kernel_rfl) (fun K hK => ?_)
    have z0 := N10.out.cell 0 _ rfl
    have z1 := N10.out.cell 1 _ rfl
    have z2 := N10.out.cell 2 _ rfl
    have z3 := N10.out.cell 3 _ rfl
    have z4 := N10.out.cell 4 _ rfl
    have s0 := N10.out.soft 0
    have s1 := N10.out.soft 1
    have s2 := N10.out.soft 2
    have s3 := N10.out.soft 3
    have s4 := N10.out.soft 4
    unfold Oper.wpIn
    refine ⟨fun _ _ => trivial, ?_⟩
    go_simp
    have tN := set5_turn d4 bN10 0 (.int .i64 ky) (.int .i64 xy) (.int .i64 yy) (.int .i64 vy) (.int .i64 ty)
    have rN := rec_five N10.out (.int .i64 ky) (.int .i64 xy) (.int .i64 yy) (.int .i64 vy) (.int .i64 ty)
    have RB' := RB.out.turn tN LN10.out.2.1
    have WO' := WO.out.turn tN LN10.out.2.2.1
    have BW' := BW.out.trans (tN.below LN10.out.1 BW.out.size)
    have N9' := N9.out.turn tN (by have h1 := LN9.out; have h2 := LN10.out; omega)
    unfold set5 at tN rN RB' WO' BW' N9'
    refine hK _ _ (fun _ => ⟨RB', WO'⟩) ?_
    try simp only [Act.put, List.setIfInBounds_toArray, List.set]
    generalize (((((d4.setCell ⟨bN10, 0, none⟩ (.int .i64 ky)).setCell ⟨bN10, 1, none⟩ (.int .i64 xy)).setCell ⟨bN10, 2, none⟩ (.int .i64 yy)).setCell ⟨bN10, 3, none⟩ (.int .i64 vy)).setCell ⟨bN10, 4, none⟩ (.int .i64 ty)) = d5 at rN RB' WO' BW' N9' ⊢
    replace N10 := hide rN
    replace RB := hide RB'
    replace WO := hide WO'
    replace BW := hide BW'
    replace N9 := hide N9'
    clear tN rN RB' WO' BW' z0 z1 z2 z3 z4 s0 s1 s2 s3 s4 hK K N9'
    replace LZ : Hid (Z < d5.heap.size ∧ g < d5.heap.size) := ⟨RB.out.lt, WO.out.lt⟩
    replace SZ : Hid (w.heap.size ≤ d5.heap.size) := BW.out.size
    replace MN10 : Hid (bN10 < d5.heap.size) := N10.out.lt
    replace MN9 : Hid (bN9 < d5.heap.size) := N9.out.lt
    refine PhaseIn.done (by kernel_rfl) ?_ _
    have p0 := N9.out.cell 0 _ rfl
    have p3 := N9.out.cell 3 _ rfl
    have q0 := N10.out.cell 0 _ rfl
    have q3 := N10.out.cell 3 _ rfl
    have BD := hide (BW.out.drew)
    cases e1 : (kx == 1) with
    | false =>
      go_wp2_with fail
      go_still (by kernel_rfl)
      go_wp2
      exact bodyPost_ret (v := .tuple #[.int .i64 vx, .int .i64 vy, .bool false]) (by simp [results, Tryd.results61, go_sem]) rfl ⟨by first | rfl | (rw [e1]; rfl), BD.out⟩
    | true =>
      go_wp2_with fail
      go_still (by kernel_rfl)
      go_wp2
      exact bodyPost_ret (v := .tuple #[.int .i64 vx, .int .i64 vy, .bool (ky == 1)]) (by simp [results, Tryd.results61, go_sem]) rfl ⟨by first | rfl | (rw [e1]; rfl), BD.out⟩
  · unfold Oper.wpIn
    refine ⟨fun _ _ => trivial, ?_⟩
    go_simp
    have bN : Below d1.heap.size d1 (d1.alloc (.cells #[.int .i64 0, .int .i64 0, .int .i64 0, .int .i64 0, .int .i64 0] 41)) := (Below.refl _ _).alloc (Nat.le_refl _) _
    have N10 := hide (Rec.new d1 [.int .i64 0, .int .i64 0, .int .i64 0, .int .i64 0, .int .i64 0] 41)
    replace RB := hide (RB.out.below bN)
    replace WO := hide (WO.out.below bN)
    replace BW := hide (BW.out.trans (bN.mono BW.out.size))
    refine hK _ _ (fun _ => ⟨RB.out, WO.out⟩) ?_
    obtain ⟨bN10, eN10⟩ : ∃ z, d1.heap.size = z := ⟨_, rfl⟩
    have LN10 : Hid (w.heap.size ≤ bN10 ∧ Z ≠ bN10 ∧ g ≠ bN10 ∧ True) := ⟨by rw [← eN10]; exact SZ.out, by rw [← eN10]; have := LZ.out.1; omega, by rw [← eN10]; have := LZ.out.2; omega, trivial⟩
    rw [eN10] at N10 ⊢
    clear bN hK K
    try simp only [Act.put, List.setIfInBounds_toArray, List.set]
    generalize d1.alloc (.cells #[.int .i64 0, .int .i64 0, .int .i64 0, .int .i64 0, .int .i64 0] 41) = d2 at RB WO BW N10  ⊢
    replace LZ : Hid (Z < d2.heap.size ∧ g < d2.heap.size) := ⟨RB.out.lt, WO.out.lt⟩
    replace SZ : Hid (w.heap.size ≤ d2.heap.size) := BW.out.size
    have MN10 : Hid (bN10 < d2.heap.size) := N10.out.lt
    clear eN10
    refine PhaseIn.one (i := 16) (by kernel_rfl) rfl (by kernel_rfl) (fun K hK => ?_)
    unfold Oper.wpIn
    refine ⟨fun _ _ => trivial, ?_⟩
    go_simp
    have bN : Below d2.heap.size d2 (d2.alloc (.cells #[.int .i64 0, .int .i64 0, .int .i64 0, .int .i64 0, .int .i64 0] 41)) := (Below.refl _ _).alloc (Nat.le_refl _) _
    have N9 := hide (Rec.new d2 [.int .i64 0, .int .i64 0, .int .i64 0, .int .i64 0, .int .i64 0] 41)
    replace RB := hide (RB.out.below bN)
    replace WO := hide (WO.out.below bN)
    replace BW := hide (BW.out.trans (bN.mono BW.out.size))
    replace N10 := hide (N10.out.below bN)
    refine hK _ _ (fun _ => ⟨RB.out, WO.out⟩) ?_
    obtain ⟨bN9, eN9⟩ : ∃ z, d2.heap.size = z := ⟨_, rfl⟩
    have LN9 : Hid (w.heap.size ≤ bN9 ∧ Z ≠ bN9 ∧ g ≠ bN9 ∧ bN10 ≠ bN9 ∧ True) := ⟨by rw [← eN9]; exact SZ.out, by rw [← eN9]; have := LZ.out.1; omega, by rw [← eN9]; have := LZ.out.2; omega, by rw [← eN9]; have := MN10.out; omega, trivial⟩
    rw [eN9] at N9 ⊢
    clear bN hK K
    try simp only [Act.put, List.setIfInBounds_toArray, List.set]
    generalize d2.alloc (.cells #[.int .i64 0, .int .i64 0, .int .i64 0, .int .i64 0, .int .i64 0] 41) = d3 at RB WO BW N9 N10 ⊢
    replace LZ : Hid (Z < d3.heap.size ∧ g < d3.heap.size) := ⟨RB.out.lt, WO.out.lt⟩
    replace SZ : Hid (w.heap.size ≤ d3.heap.size) := BW.out.size
    have MN9 : Hid (bN9 < d3.heap.size) := N9.out.lt
    replace MN10 : Hid (bN10 < d3.heap.size) := N10.out.lt
    clear eN9
    refine PhaseIn.one (i := 18) (by kernel_rfl) rfl (by kernel_rfl) (fun K hK => ?_)
    have z0 := N9.out.cell 0 _ rfl
    have z1 := N9.out.cell 1 _ rfl
    have z2 := N9.out.cell 2 _ rfl
    have z3 := N9.out.cell 3 _ rfl
    have z4 := N9.out.cell 4 _ rfl
    have s0 := N9.out.soft 0
    have s1 := N9.out.soft 1
    have s2 := N9.out.soft 2
    have s3 := N9.out.soft 3
    have s4 := N9.out.soft 4
    unfold Oper.wpIn
    refine ⟨fun _ _ => trivial, ?_⟩
    go_simp
    have tN := set5_turn d3 bN9 0 (.int .i64 kx) (.int .i64 xx) (.int .i64 yx) (.int .i64 vx) (.int .i64 tx)
    have rN := rec_five N9.out (.int .i64 kx) (.int .i64 xx) (.int .i64 yx) (.int .i64 vx) (.int .i64 tx)
    have RB' := RB.out.turn tN LN9.out.2.1
    have WO' := WO.out.turn tN LN9.out.2.2.1
    have BW' := BW.out.trans (tN.below LN9.out.1 BW.out.size)
    have N10' := N10.out.turn tN (by have h1 := LN9.out; have h2 := LN10.out; omega)
    unfold set5 at tN rN RB' WO' BW' N10'
    refine hK _ _ (fun _ => ⟨RB', WO'⟩) ?_
    try simp only [Act.put, List.setIfInBounds_toArray, List.set]
    generalize (((((d3.setCell ⟨bN9, 0, none⟩ (.int .i64 kx)).setCell ⟨bN9, 1, none⟩ (.int .i64 xx)).setCell ⟨bN9, 2, none⟩ (.int .i64 yx)).setCell ⟨bN9, 3, none⟩ (.int .i64 vx)).setCell ⟨bN9, 4, none⟩ (.int .i64 tx)) = d4 at rN RB' WO' BW' N10' ⊢
    replace N9 := hide rN
    replace RB := hide RB'
    replace WO := hide WO'
    replace BW := hide BW'
    replace N10 := hide N10'
    clear tN rN RB' WO' BW' z0 z1 z2 z3 z4 s0 s1 s2 s3 s4 hK K N10'
    replace LZ : Hid (Z < d4.heap.size ∧ g < d4.heap.size) := ⟨RB.out.lt, WO.out.lt⟩
    replace SZ : Hid (w.heap.size ≤ d4.heap.size) := BW.out.size
    replace MN9 : Hid (bN9 < d4.heap.size) := N9.out.lt
    replace MN10 : Hid (bN10 < d4.heap.size) := N10.out.lt
    refine PhaseIn.one (i := 19) (by kernel_rfl) rfl (by kernel_rfl) (fun K hK => ?_)
    have z0 := N10.out.cell 0 _ rfl
    have z1 := N10.out.cell 1 _ rfl
    have z2 := N10.out.cell 2 _ rfl
    have z3 := N10.out.cell 3 _ rfl
    have z4 := N10.out.cell 4 _ rfl
    have s0 := N10.out.soft 0
    have s1 := N10.out.soft 1
    have s2 := N10.out.soft 2
    have s3 := N10.out.soft 3
    have s4 := N10.out.soft 4
    unfold Oper.wpIn
    refine ⟨fun _ _ => trivial, ?_⟩
    go_simp
    have tN := set5_turn d4 bN10 0 (.int .i64 ky) (.int .i64 xy) (.int .i64 yy) (.int .i64 vy) (.int .i64 ty)
    have rN := rec_five N10.out (.int .i64 ky) (.int .i64 xy) (.int .i64 yy) (.int .i64 vy) (.int .i64 ty)
    have RB' := RB.out.turn tN LN10.out.2.1
    have WO' := WO.out.turn tN LN10.out.2.2.1
    have BW' := BW.out.trans (tN.below LN10.out.1 BW.out.size)
    have N9' := N9.out.turn tN (by have h1 := LN9.out; have h2 := LN10.out; omega)
    unfold set5 at tN rN RB' WO' BW' N9'
    refine hK _ _ (fun _ => ⟨RB', WO'⟩) ?_
    try simp only [Act.put, List.setIfInBounds_toArray, List.set]
    generalize (((((d4.setCell ⟨bN10, 0, none⟩ (.int .i64 ky)).setCell ⟨bN10, 1, none⟩ (.int .i64 xy)).setCell ⟨bN10, 2, none⟩ (.int .i64 yy)).setCell ⟨bN10, 3, none⟩ (.int .i64 vy)).setCell ⟨bN10, 4, none⟩ (.int .i64 ty)) = d5 at rN RB' WO' BW' N9' ⊢
    replace N10 := hide rN
    replace RB := hide RB'
    replace WO := hide WO'
    replace BW := hide BW'
    replace N9 := hide N9'
    clear tN rN RB' WO' BW' z0 z1 z2 z3 z4 s0 s1 s2 s3 s4 hK K N9'
    replace LZ : Hid (Z < d5.heap.size ∧ g < d5.heap.size) := ⟨RB.out.lt, WO.out.lt⟩
    replace SZ : Hid (w.heap.size ≤ d5.heap.size) := BW.out.size
    replace MN10 : Hid (bN10 < d5.heap.size) := N10.out.lt
    replace MN9 : Hid (bN9 < d5.heap.size) := N9.out.lt
    refine PhaseIn.done (by kernel_rfl) ?_ _
    have p0 := N9.out.cell 0 _ rfl
    have p3 := N9.out.cell 3 _ rfl
    have q0 := N10.out.cell 0 _ rfl
    have q3 := N10.out.cell 3 _ rfl
    have BD := hide (BW.out.drew)
    cases e1 : (kx == 1) with
    | false =>
      go_wp2_with fail
      go_still (by kernel_rfl)
      go_wp2
      exact bodyPost_ret (v := .tuple #[.int .i64 vx, .int .i64 vy, .bool false]) (by simp [results, Tryd.results61, go_sem]) rfl ⟨by first | rfl | (rw [e1]; rfl), BD.out⟩
    | true =>
      go_wp2_with fail
      go_still (by kernel_rfl)
      go_wp2
      exact bodyPost_ret (v := .tuple #[.int .i64 vx, .int .i64 vy, .bool (ky == 1)]) (by simp [results, Tryd.results61, go_sem]) rfl ⟨by first | rfl | (rw [e1]; rfl), BD.out⟩
def askP (rel vx vy : Int) (kn : Bool) (k bh : Int) : Int := if (kn && Wrd.wrel rel vx vy) = true then k else bh
set_option maxRecDepth 8000 in
set_option maxHeartbeats 16000000 in
theorem asked (rel : Int) (mx my : Nat) (kx xx yx vx tx ky xy yy vy ty : Int) (pc ln en bk : Int) (ops : List Opn) (Z g n c : Nat) (w : World) (hB : Rec Z [.int .i64 pc, .int .i64 ln, .slice (some ⟨g, 0, none⟩) n c, .int .i64 en, .int .i64 (mx : Int), .int .i64 (my : Int), .int .i64 bk] w) (hO : Ow w g n c ops) (hx : ops[mx]? = some ⟨kx, xx, yx, vx, tx⟩) (hy : ops[my]? = some ⟨ky, xy, yy, vy, ty⟩) (p0 : 0 ≤ pc) (p1 : pc ≤ 64) (n0 : 0 ≤ ln) (n1 : ln ≤ 8) :
    Calls Tryd.prog 78 #[.pointer (some ⟨Z, 0, none⟩), .int .i64 rel] w fun e w' => e = .returned (.tuple #[.int .i64 (askP rel vx vy (kx == 1 && ky == 1) bk (pc + ln)), .bool (kx == 1 && ky == 1)]) ∧ Below w.heap.size w w' := by
  have RB := hide hB
  have WO := hide hO
  have HX := hide hx
  have HY := hide hy
  clear hx hy hB hO
  obtain ⟨kn, ek⟩ : ∃ z, (kx == 1 && ky == 1) = z := ⟨_, rfl⟩
  rw [ek]
  have EK := hide ek
  have wr1 : IntKind.i64.wrap (pc + ln) = pc + ln := IntWalk.i64_in _ ⟨by omega, by omega⟩
  clear ek
  go_enter Tryd.func78, Tryd.ntmps78
  go_wp2_with fail
  refine (wpIn_wide (n := 0)).1 ?_
  have bA : Below w.heap.size w w.drew := (Below.refl _ _).drew
  replace RB := hide (RB.out.below bA)
  replace WO := hide (WO.out.below bA)
  have BW := hide bA
  clear bA
  refine PhaseIn.region (S := fun v => Rec Z [.int .i64 pc, .int .i64 ln, .slice (some ⟨g, 0, none⟩) n c, .int .i64 en, .int .i64 (mx : Int), .int .i64 (my : Int), .int .i64 bk] v ∧ Ow v g n c ops) 19 (by kernel_rfl) ?_
  generalize w.drew = d1 at RB WO BW ⊢
  have hHeld : Rec Z [.int .i64 pc, .int .i64 ln, .slice (some ⟨g, 0, none⟩) n c, .int .i64 en, .int .i64 (mx : Int), .int .i64 (my : Int), .int .i64 bk] d1 ∧ Ow d1 g n c ops := ⟨RB.out, WO.out⟩
  refine PhaseIn.takeD (i := 0) (v := ?_) [0, 11, 12, 13, 14, 15, 16, 17, 18] 10 rfl (by rfl) (by kernel_rfl) (by kernel_rfl) (by kernel_rfl) (by kernel_rfl) (by kernel_rfl) (fun _ _ _ h => h) (Or.inl ⟨by kernel_rfl, ?_⟩) hHeld ?_
  rotate_left
  · intro w' hSw
    (try dsimp only at hSw)
    go_simp
    first | done | with_reducible rfl
  try simp only [Act.put, List.setIfInBounds_toArray, List.set]
  refine PhaseIn.takeD (i := 1) (v := ?_) [1, 2, 3, 4, 5, 11, 12, 13, 14, 15, 16, 17, 18] 11 rfl (by rfl) (by kernel_rfl) (by kernel_rfl) (by kernel_rfl) (by kernel_rfl) (by kernel_rfl) (fun _ _ _ h => h) (Or.inl ⟨by kernel_rfl, ?_⟩) hHeld ?_
  rotate_left
  · intro w' hSw
    (try dsimp only at hSw)
    go_simp
    first | done | with_reducible rfl
  try simp only [Act.put, List.setIfInBounds_toArray, List.set]
  refine PhaseIn.takeD (i := 2) (v := ?_) [2, 3, 4, 5, 11, 12, 13, 14, 15, 16, 17, 18] 12 rfl (by rfl) (by kernel_rfl) (by kernel_rfl) (by kernel_rfl) (by kernel_rfl) (by kernel_rfl) (fun _ _ _ h => h) (Or.inl ⟨by kernel_rfl, ?_⟩) hHeld ?_
  rotate_left
  · intro w' hSw
    (try dsimp only at hSw)
    go_simp
    first | done | with_reducible rfl
  try simp only [Act.put, List.setIfInBounds_toArray, List.set]
  refine PhaseIn.takeD (i := 3) (v := ?_) [3, 4, 5, 11, 12, 13, 14, 15, 16, 17, 18] 13 rfl (by rfl) (by kernel_rfl) (by kernel_rfl) (by kernel_rfl) (by kernel_rfl) (by kernel_rfl) (fun _ _ _ h => h) (Or.inl ⟨by kernel_rfl, ?_⟩) hHeld ?_
  rotate_left
  · intro w' hSw
    (try dsimp only at hSw)
    go_simp
    first | done | with_reducible rfl
  try simp only [Act.put, List.setIfInBounds_toArray, List.set]
  refine PhaseIn.takeD (i := 4) (v := ?_) [4, 5, 11, 12, 13, 14, 15, 16, 17, 18] 14 rfl (by rfl) (by kernel_rfl) (by kernel_rfl) (by kernel_rfl) (by kernel_rfl) (by kernel_rfl) (fun _ _ _ h => h) (Or.inl ⟨by kernel_rfl, ?_⟩) hHeld ?_
  rotate_left
  · intro w' hSw
    (try dsimp only at hSw)
    go_simp
    first | done | with_reducible rfl
  try simp only [Act.put, List.setIfInBounds_toArray, List.set]
  refine PhaseIn.takeD (i := 5) (v := ?_) [5, 11, 12, 13, 14, 15, 16, 17, 18] 15 rfl (by rfl) (by kernel_rfl) (by kernel_rfl) (by kernel_rfl) (by kernel_rfl) (by kernel_rfl) (fun _ _ _ h => h) (Or.inl ⟨by kernel_rfl, ?_⟩) hHeld ?_
  rotate_left
  · intro w' hSw
    (try dsimp only at hSw)
    have z4 := hSw.1.cell 4 _ rfl
    go_simp
    first | done | with_reducible rfl
  try simp only [Act.put, List.setIfInBounds_toArray, List.set]
  refine PhaseIn.takeD (i := 6) (v := ?_) [6, 7, 8, 9, 10, 11, 12, 13, 14, 15, 16, 17, 18] 16 rfl (by rfl) (by kernel_rfl) (by kernel_rfl) (by kernel_rfl) (by kernel_rfl) (by kernel_rfl) (fun _ _ _ h => h) (Or.inl ⟨by kernel_rfl, ?_⟩) hHeld ?_
  rotate_left
  · intro w' hSw
    (try dsimp only at hSw)
    go_simp
    first | done | with_reducible rfl
  try simp only [Act.put, List.setIfInBounds_toArray, List.set]
  refine PhaseIn.takeD (i := 7) (v := ?_) [7, 8, 9, 10, 11, 12, 13, 14, 15, 16, 17, 18] 17 rfl (by rfl) (by kernel_rfl) (by kernel_rfl) (by kernel_rfl) (by kernel_rfl) (by kernel_rfl) (fun _ _ _ h => h) (Or.inl ⟨by kernel_rfl, ?_⟩) hHeld ?_
  rotate_left
  · intro w' hSw
    (try dsimp only at hSw)
    go_simp
    first | done | with_reducible rfl
  try simp only [Act.put, List.setIfInBounds_toArray, List.set]
  refine PhaseIn.takeD (i := 8) (v := ?_) [8, 9, 10, 11, 12, 13, 14, 15, 16, 17, 18] 18 rfl (by rfl) (by kernel_rfl) (by kernel_rfl) (by kernel_rfl) (by kernel_rfl) (by kernel_rfl) (fun _ _ _ h => h) (Or.inl ⟨by kernel_rfl, ?_⟩) hHeld ?_
  rotate_left
  · intro w' hSw
    (try dsimp only at hSw)
    go_simp
    first | done | with_reducible rfl
  try simp only [Act.put, List.setIfInBounds_toArray, List.set]
  refine PhaseIn.takeD (i := 9) (v := ?_) [9, 10, 11, 12, 13, 14, 15, 16, 17, 18] 19 rfl (by rfl) (by kernel_rfl) (by kernel_rfl) (by kernel_rfl) (by kernel_rfl) (by kernel_rfl) (fun _ _ _ h => h) (Or.inl ⟨by kernel_rfl, ?_⟩) hHeld ?_
  rotate_left
  · intro w' hSw
    (try dsimp only at hSw)
    go_simp
    first | done | with_reducible rfl
  try simp only [Act.put, List.setIfInBounds_toArray, List.set]
  refine PhaseIn.takeD (i := 10) (v := ?_) [10, 11, 12, 13, 14, 15, 16, 17, 18] 20 rfl (by rfl) (by kernel_rfl) (by kernel_rfl) (by kernel_rfl) (by kernel_rfl) (by kernel_rfl) (fun _ _ _ h => h) (Or.inl ⟨by kernel_rfl, ?_⟩) hHeld ?_
  rotate_left
  · intro w' hSw
    (try dsimp only at hSw)
    have z5 := hSw.1.cell 5 _ rfl
    go_simp
    first | done | with_reducible rfl
  try simp only [Act.put, List.setIfInBounds_toArray, List.set]
  refine PhaseIn.one (i := 11) (by kernel_rfl) rfl (by kernel_rfl) (fun K hK => ?_)
  unfold Oper.wpIn
  refine ⟨fun _ _ => trivial, ?_⟩
  go_simp
  refine ⟨rfl, (callsIn_wide.2 (words mx my kx xx yx vx tx ky xy yy vy ty pc ln en (mx : Int) (my : Int) bk ops Z g n c _ RB.out WO.out HX.out HY.out)).mono ?_⟩
  rintro e d2 ⟨rfl, hb⟩
  replace RB := hide (RB.out.below hb)
  replace WO := hide (WO.out.below hb)
  replace BW := hide (BW.out.trans (hb.mono BW.out.size))
  clear hb hHeld
  have hHeld : Rec Z [.int .i64 pc, .int .i64 ln, .slice (some ⟨g, 0, none⟩) n c, .int .i64 en, .int .i64 (mx : Int), .int .i64 (my : Int), .int .i64 bk] d2 ∧ Ow d2 g n c ops := ⟨RB.out, WO.out⟩
  refine hK _ _ (fun _ => hHeld) ?_
  clear hK K
  try simp only [Act.put, List.setIfInBounds_toArray, List.set]
  rw [EK.out]
  refine PhaseIn.takeD (i := 12) (v := ?_) [12, 13, 14, 15, 16, 17, 18] 9 rfl (by rfl) (by kernel_rfl) (by kernel_rfl) (by kernel_rfl) (by kernel_rfl) (by kernel_rfl) (fun _ _ _ h => h) (Or.inl ⟨by kernel_rfl, ?_⟩) hHeld ?_
  rotate_left
  · intro w' hSw
    (try dsimp only at hSw)
    go_simp
    first | done | with_reducible rfl
  try simp only [Act.put, List.setIfInBounds_toArray, List.set]
  refine PhaseIn.takeD (i := 13) (v := ?_) [13, 16, 17, 18] 22 rfl (by rfl) (by kernel_rfl) (by kernel_rfl) (by kernel_rfl) (by kernel_rfl) (by kernel_rfl) (fun _ _ _ h => h) (Or.inl ⟨by kernel_rfl, ?_⟩) hHeld ?_
  rotate_left
  · intro w' hSw
    (try dsimp only at hSw)
    go_simp
    first | done | with_reducible rfl
  try simp only [Act.put, List.setIfInBounds_toArray, List.set]
  refine PhaseIn.takeD (i := 14) (v := ?_) [14, 17, 18] 23 rfl (by rfl) (by kernel_rfl) (by kernel_rfl) (by kernel_rfl) (by kernel_rfl) (by kernel_rfl) (fun _ _ _ h => h) (Or.inl ⟨by kernel_rfl, ?_⟩) hHeld ?_
  rotate_left
  · intro w' hSw
    (try dsimp only at hSw)
    go_simp
    first | done | with_reducible rfl
  try simp only [Act.put, List.setIfInBounds_toArray, List.set]
  refine PhaseIn.takeD (i := 15) (v := ?_) [15, 18] 24 rfl (by rfl) (by kernel_rfl) (by kernel_rfl) (by kernel_rfl) (by kernel_rfl) (by kernel_rfl) (fun _ _ _ h => h) (Or.inl ⟨by kernel_rfl, ?_⟩) hHeld ?_
  rotate_left
  · intro w' hSw
    (try dsimp only at hSw)
    go_simp
    first | done | with_reducible rfl
  try simp only [Act.put, List.setIfInBounds_toArray, List.set]
  refine PhaseIn.takeD (i := 16) (v := ?_) [16, 17, 18] 6 rfl (by rfl) (by kernel_rfl) (by kernel_rfl) (by kernel_rfl) (by kernel_rfl) (by kernel_rfl) (fun _ _ _ h => h) (Or.inl ⟨by kernel_rfl, ?_⟩) hHeld ?_
  rotate_left
  · intro w' hSw
    (try dsimp only at hSw)
    go_simp
    first | done | with_reducible rfl
  try simp only [Act.put, List.setIfInBounds_toArray, List.set]
  refine PhaseIn.takeD (i := 17) (v := ?_) [17, 18] 7 rfl (by rfl) (by kernel_rfl) (by kernel_rfl) (by kernel_rfl) (by kernel_rfl) (by kernel_rfl) (fun _ _ _ h => h) (Or.inl ⟨by kernel_rfl, ?_⟩) hHeld ?_
  rotate_left
  · intro w' hSw
    (try dsimp only at hSw)
    go_simp
    first | done | with_reducible rfl
  try simp only [Act.put, List.setIfInBounds_toArray, List.set]
  refine PhaseIn.takeD (i := 18) (v := ?_) [18] 8 rfl (by rfl) (by kernel_rfl) (by kernel_rfl) (by kernel_rfl) (by kernel_rfl) (by kernel_rfl) (fun _ _ _ h => h) (Or.inl ⟨by kernel_rfl, ?_⟩) hHeld ?_
  rotate_left
  · intro w' hSw
    (try dsimp only at hSw)
    go_simp
    first | done | with_reducible rfl
  try simp only [Act.put, List.setIfInBounds_toArray, List.set]
  refine PhaseIn.done (by kernel_rfl) ?_ _
  clear hHeld
  cases kn with
  | false =>
    have z0 := RB.out.cell 0 _ rfl
    have z1 := RB.out.cell 1 _ rfl
    have BD := hide BW.out.drew
    go_wp2_with fail
    go_still (by kernel_rfl)
    go_wp2
    exact bodyPost_ret (v := .tuple #[.int .i64 (pc + ln), .bool false]) (by simp [results, Tryd.results78, go_sem, wr1]) rfl ⟨rfl, BD.out⟩
  | true =>
    go_wp2_with fail
    refine (Wrd.implRel rel vx vy _).mono ?_
    rintro e d3 ⟨rfl, rfl⟩
    cases er : Wrd.wrel rel vx vy with
    | true =>
      have EA : Hid (askP rel vx vy true bk (pc + ln) = bk) := show _ = _ by unfold askP; rw [er]; rfl
      have z6 := RB.out.cell 6 _ rfl
      clear er
      go_wp2
      exact bodyPost_ret (v := .tuple #[.int .i64 bk, .bool true]) (by simp [results, Tryd.results78, go_sem, wr1]) rfl ⟨by rw [EA.out], BW.out⟩
    | false =>
      have EA : Hid (askP rel vx vy true bk (pc + ln) = pc + ln) := show _ = _ by unfold askP; rw [er]; rfl
      have z0 := RB.out.cell 0 _ rfl
      have z1 := RB.out.cell 1 _ rfl
      have BD := hide BW.out.drew
      clear er
      go_wp2_with fail
      go_still (by kernel_rfl)
      go_wp2
      exact bodyPost_ret (v := .tuple #[.int .i64 (pc + ln), .bool true]) (by simp [results, Tryd.results78, go_sem, wr1]) rfl ⟨by rw [EA.out], BD.out⟩
theorem known_some {ops : List Opn} {m : Nat} {o : Opn} (h : ops[m]? = some o) : (knownO ops (m : Int)).isSome = (o.kd == 1) ∧ (∀ v, knownO ops (m : Int) = some v → v = o.k ∧ o.kd = 1) := by
  rw [known_in h]
  by_cases e : o.kd = 1
  · rw [if_pos e, e]; exact ⟨rfl, fun v hv => ⟨(Option.some.inj hv).symm, rfl⟩⟩
  · rw [if_neg e, beq_eq_false_iff_ne.2 e]; exact ⟨rfl, fun v hv => by cases hv⟩
/-- What the program asks of two words that are known is what the model does. -/
theorem ask_fold {pc ln bk : Int} {ops : List Opn} {mx my : Nat} {ox oy : Opn} (en rel : Int) (he : (en = 3 ∧ rel = 1) ∨ (en = 4 ∧ rel = 2)) (hx : ops[mx]? = some ox) (hy : ops[my]? = some oy) (wd : ∀ k v, knownO ops k = some v → 0 ≤ v ∧ v < 65536) :
    (foldK ⟨pc, ln, ops, en, mx, my, bk⟩).isSome = (ox.kd == 1 && oy.kd == 1) ∧ ∀ k, foldK ⟨pc, ln, ops, en, mx, my, bk⟩ = some k → askP rel ox.k oy.k (ox.kd == 1 && oy.kd == 1) bk (pc + ln) = k := by
  have w1 := wd mx
  have w2 := wd my
  unfold foldK
  simp only []
  rw [if_neg (by omega), if_pos (by omega)]
  rw [known_in hx] at w1 ⊢
  rw [known_in hy] at w2 ⊢
  by_cases e1 : ox.kd = 1
  · by_cases e2 : oy.kd = 1
    · rw [if_pos e1] at w1 ⊢
      rw [if_pos e2] at w2 ⊢
      rw [e1, e2]
      refine ⟨rfl, fun k hk => ?_⟩
      have a1 := w1 _ rfl
      have a2 := w2 _ rfl
      simp only [] at hk
      obtain rfl := Option.some.inj hk
      unfold askP
      rcases he with ⟨rfl, rfl⟩ | ⟨rfl, rfl⟩
      · rw [Wrd.wrel1 a1 a2]
        by_cases h : ox.k = oy.k
        · simp [h]
        · simp [h]
      · rw [Wrd.wrel2 a1 a2]
        by_cases h : ox.k < oy.k
        · simp [h]
        · simp [h]
    · rw [if_pos e1, if_neg e2, beq_eq_false_iff_ne.2 e2]
      refine ⟨by simp, fun k hk => by cases hk⟩
  · rw [if_neg e1, beq_eq_false_iff_ne.2 e1]
    refine ⟨by simp, fun k hk => by cases hk⟩
set_option maxRecDepth 8000 in
set_option maxHeartbeats 16000000 in
theorem onward1 (pc ln bx by_ bk : Int) (ops : List Opn) (Z : Nat) (q : Option Addr) (n c : Nat) (w : World) (h : Hd w Z q n c ⟨pc, ln, ops, 1, bx, by_, bk⟩) (he : endB ops 1 bx by_ bk = true) (wd : ∀ k v, knownO ops k = some v → 0 ≤ v ∧ v < 65536) (p0 : 0 ≤ pc) (p1 : pc ≤ 64) (n0 : 0 ≤ ln) (n1 : ln ≤ 8) :
    Calls Tryd.prog 63 #[.pointer (some ⟨Z, 0, none⟩)] w fun e w' => ∃ p, e = .returned (.tuple #[.int .i64 p, .bool (foldK ⟨pc, ln, ops, 1, bx, by_, bk⟩).isSome]) ∧ (∀ k, foldK ⟨pc, ln, ops, 1, bx, by_, bk⟩ = some k → p = k) ∧ Below w.heap.size w w' := by
  have BX := h.box
  simp only [] at BX
  have RB := hide BX
  clear BX
  have HF : foldK ⟨pc, ln, ops, 1, bx, by_, bk⟩ = none := rfl
  rw [HF]
  clear h he wd HF
  have z3 := RB.out.cell 3 _ rfl
  go_enter Tryd.func63, Tryd.ntmps63
  go_wp2
  exact bodyPost_ret (v := .tuple #[.int .i64 0, .bool false]) (by simp [results, Tryd.results63, go_sem]) rfl ⟨0, rfl, (fun k hk => by cases hk), Below.refl _ _⟩
set_option maxRecDepth 8000 in
set_option maxHeartbeats 16000000 in
theorem onward2 (pc ln bx by_ bk : Int) (ops : List Opn) (Z : Nat) (q : Option Addr) (n c : Nat) (w : World) (h : Hd w Z q n c ⟨pc, ln, ops, 2, bx, by_, bk⟩) (he : endB ops 2 bx by_ bk = true) (wd : ∀ k v, knownO ops k = some v → 0 ≤ v ∧ v < 65536) (p0 : 0 ≤ pc) (p1 : pc ≤ 64) (n0 : 0 ≤ ln) (n1 : ln ≤ 8) :
    Calls Tryd.prog 63 #[.pointer (some ⟨Z, 0, none⟩)] w fun e w' => ∃ p, e = .returned (.tuple #[.int .i64 p, .bool (foldK ⟨pc, ln, ops, 2, bx, by_, bk⟩).isSome]) ∧ (∀ k, foldK ⟨pc, ln, ops, 2, bx, by_, bk⟩ = some k → p = k) ∧ Below w.heap.size w w' := by
  have BX := h.box
  simp only [] at BX
  have RB := hide BX
  clear BX
  obtain ⟨mx, ox, rfl, lx, hx, -⟩ := val_get ((end_parts he).2.1 (by decide))
  rw [h.ops.len] at lx
  obtain ⟨g, rfl, WO0⟩ := h.ops.some lx
  simp only [] at WO0
  have WO := hide WO0
  clear WO0
  have KS := hide (known_some hx)
  have HF : foldK ⟨pc, ln, ops, 2, mx, by_, bk⟩ = knownO ops mx := rfl
  rw [HF]
  have HX := hide hx
  obtain ⟨kn, ek⟩ : ∃ z, (knownO ops (mx : Int)).isSome = z := ⟨_, rfl⟩
  obtain ⟨ko, eo⟩ : ∃ z, knownO ops (mx : Int) = z := ⟨_, rfl⟩
  rw [eo] at KS ek ⊢
  rw [ek] at KS ⊢
  obtain ⟨ok, oxx, oy, okk, ot⟩ := ox
  simp only [] at KS
  have EKN : Hid ((ok == 1 && ok == 1) = kn) := show _ = _ by rw [KS.out.1]; simp
  clear h he wd HF hx eo ek
  have z3 := RB.out.cell 3 _ rfl
  go_enter Tryd.func63, Tryd.ntmps63
  go_wp2_with fail
  clear z3
  refine (wpIn_wide (n := 0)).1 ?_
  have bA : Below w.heap.size w w.drew := (Below.refl _ _).drew
  replace RB := hide (RB.out.below bA)
  replace WO := hide (WO.out.below bA)
  have BW := hide bA
  clear bA
  refine PhaseIn.region (S := fun v => Rec Z [.int .i64 pc, .int .i64 ln, .slice (some ⟨g, 0, none⟩) n c, .int .i64 2, .int .i64 (mx : Int), .int .i64 by_, .int .i64 bk] v ∧ Ow v g n c ops) 19 (by kernel_rfl) ?_
  generalize w.drew = d1 at RB WO BW ⊢
  have hHeld : Rec Z [.int .i64 pc, .int .i64 ln, .slice (some ⟨g, 0, none⟩) n c, .int .i64 2, .int .i64 (mx : Int), .int .i64 by_, .int .i64 bk] d1 ∧ Ow d1 g n c ops := ⟨RB.out, WO.out⟩
  refine PhaseIn.takeD (i := 0) (v := ?_) [0, 11, 12, 13, 14, 15, 16, 17, 18] 15 rfl (by rfl) (by kernel_rfl) (by kernel_rfl) (by kernel_rfl) (by kernel_rfl) (by kernel_rfl) (fun _ _ _ h => h) (Or.inl ⟨by kernel_rfl, ?_⟩) hHeld ?_
  rotate_left
  · intro w' hSw
    (try dsimp only at hSw)
    go_simp
    first | done | with_reducible rfl
  try simp only [Act.put, List.setIfInBounds_toArray, List.set]
  refine PhaseIn.takeD (i := 1) (v := ?_) [1, 2, 3, 4, 5, 11, 12, 13, 14, 15, 16, 17, 18] 16 rfl (by rfl) (by kernel_rfl) (by kernel_rfl) (by kernel_rfl) (by kernel_rfl) (by kernel_rfl) (fun _ _ _ h => h) (Or.inl ⟨by kernel_rfl, ?_⟩) hHeld ?_
  rotate_left
  · intro w' hSw
    (try dsimp only at hSw)
    go_simp
    first | done | with_reducible rfl
  try simp only [Act.put, List.setIfInBounds_toArray, List.set]
  refine PhaseIn.takeD (i := 2) (v := ?_) [2, 3, 4, 5, 11, 12, 13, 14, 15, 16, 17, 18] 17 rfl (by rfl) (by kernel_rfl) (by kernel_rfl) (by kernel_rfl) (by kernel_rfl) (by kernel_rfl) (fun _ _ _ h => h) (Or.inl ⟨by kernel_rfl, ?_⟩) hHeld ?_
  rotate_left
  · intro w' hSw
    (try dsimp only at hSw)
    go_simp
    first | done | with_reducible rfl
  try simp only [Act.put, List.setIfInBounds_toArray, List.set]
  refine PhaseIn.takeD (i := 3) (v := ?_) [3, 4, 5, 11, 12, 13, 14, 15, 16, 17, 18] 18 rfl (by rfl) (by kernel_rfl) (by kernel_rfl) (by kernel_rfl) (by kernel_rfl) (by kernel_rfl) (fun _ _ _ h => h) (Or.inl ⟨by kernel_rfl, ?_⟩) hHeld ?_
  rotate_left
  · intro w' hSw
    (try dsimp only at hSw)
    go_simp
    first | done | with_reducible rfl
  try simp only [Act.put, List.setIfInBounds_toArray, List.set]
  refine PhaseIn.takeD (i := 4) (v := ?_) [4, 5, 11, 12, 13, 14, 15, 16, 17, 18] 19 rfl (by rfl) (by kernel_rfl) (by kernel_rfl) (by kernel_rfl) (by kernel_rfl) (by kernel_rfl) (fun _ _ _ h => h) (Or.inl ⟨by kernel_rfl, ?_⟩) hHeld ?_
  rotate_left
  · intro w' hSw
    (try dsimp only at hSw)
    go_simp
    first | done | with_reducible rfl
  try simp only [Act.put, List.setIfInBounds_toArray, List.set]
  refine PhaseIn.takeD (i := 5) (v := ?_) [5, 11, 12, 13, 14, 15, 16, 17, 18] 20 rfl (by rfl) (by kernel_rfl) (by kernel_rfl) (by kernel_rfl) (by kernel_rfl) (by kernel_rfl) (fun _ _ _ h => h) (Or.inl ⟨by kernel_rfl, ?_⟩) hHeld ?_
  rotate_left
  · intro w' hSw
    (try dsimp only at hSw)
    have z4 := hSw.1.cell 4 _ rfl
    go_simp
    first | done | with_reducible rfl
  try simp only [Act.put, List.setIfInBounds_toArray, List.set]
  refine PhaseIn.takeD (i := 6) (v := ?_) [6, 7, 8, 9, 10, 11, 12, 13, 14, 15, 16, 17, 18] 21 rfl (by rfl) (by kernel_rfl) (by kernel_rfl) (by kernel_rfl) (by kernel_rfl) (by kernel_rfl) (fun _ _ _ h => h) (Or.inl ⟨by kernel_rfl, ?_⟩) hHeld ?_
  rotate_left
  · intro w' hSw
    (try dsimp only at hSw)
    go_simp
    first | done | with_reducible rfl
  try simp only [Act.put, List.setIfInBounds_toArray, List.set]
  refine PhaseIn.takeD (i := 7) (v := ?_) [7, 8, 9, 10, 11, 12, 13, 14, 15, 16, 17, 18] 22 rfl (by rfl) (by kernel_rfl) (by kernel_rfl) (by kernel_rfl) (by kernel_rfl) (by kernel_rfl) (fun _ _ _ h => h) (Or.inl ⟨by kernel_rfl, ?_⟩) hHeld ?_
  rotate_left
  · intro w' hSw
    (try dsimp only at hSw)
    go_simp
    first | done | with_reducible rfl
  try simp only [Act.put, List.setIfInBounds_toArray, List.set]
  refine PhaseIn.takeD (i := 8) (v := ?_) [8, 9, 10, 11, 12, 13, 14, 15, 16, 17, 18] 23 rfl (by rfl) (by kernel_rfl) (by kernel_rfl) (by kernel_rfl) (by kernel_rfl) (by kernel_rfl) (fun _ _ _ h => h) (Or.inl ⟨by kernel_rfl, ?_⟩) hHeld ?_
  rotate_left
  · intro w' hSw
    (try dsimp only at hSw)
    go_simp
    first | done | with_reducible rfl
  try simp only [Act.put, List.setIfInBounds_toArray, List.set]
  refine PhaseIn.takeD (i := 9) (v := ?_) [9, 10, 11, 12, 13, 14, 15, 16, 17, 18] 24 rfl (by rfl) (by kernel_rfl) (by kernel_rfl) (by kernel_rfl) (by kernel_rfl) (by kernel_rfl) (fun _ _ _ h => h) (Or.inl ⟨by kernel_rfl, ?_⟩) hHeld ?_
  rotate_left
  · intro w' hSw
    (try dsimp only at hSw)
    go_simp
    first | done | with_reducible rfl
  try simp only [Act.put, List.setIfInBounds_toArray, List.set]
  refine PhaseIn.takeD (i := 10) (v := ?_) [10, 11, 12, 13, 14, 15, 16, 17, 18] 25 rfl (by rfl) (by kernel_rfl) (by kernel_rfl) (by kernel_rfl) (by kernel_rfl) (by kernel_rfl) (fun _ _ _ h => h) (Or.inl ⟨by kernel_rfl, ?_⟩) hHeld ?_
  rotate_left
  · intro w' hSw
    (try dsimp only at hSw)
    have z4 := hSw.1.cell 4 _ rfl
    go_simp
    first | done | with_reducible rfl
  try simp only [Act.put, List.setIfInBounds_toArray, List.set]
  refine PhaseIn.one (i := 11) (by kernel_rfl) rfl (by kernel_rfl) (fun K hK => ?_)
  unfold Oper.wpIn
  refine ⟨fun _ _ => trivial, ?_⟩
  go_simp
  refine ⟨rfl, (callsIn_wide.2 (words mx mx ok oxx oy okk ot ok oxx oy okk ot pc ln 2 (mx : Int) by_ bk ops Z g n c _ RB.out WO.out HX.out HX.out)).mono ?_⟩
  rintro e d2 ⟨rfl, hb⟩
  replace RB := hide (RB.out.below hb)
  replace WO := hide (WO.out.below hb)
  replace BW := hide (BW.out.trans (hb.mono BW.out.size))
  clear hb hHeld
  have hHeld : Rec Z [.int .i64 pc, .int .i64 ln, .slice (some ⟨g, 0, none⟩) n c, .int .i64 2, .int .i64 (mx : Int), .int .i64 by_, .int .i64 bk] d2 ∧ Ow d2 g n c ops := ⟨RB.out, WO.out⟩
  refine hK _ _ (fun _ => hHeld) ?_
  clear hK K
  try simp only [Act.put, List.setIfInBounds_toArray, List.set]
  rw [EKN.out]
  refine PhaseIn.takeD (i := 12) (v := ?_) [12, 13, 14, 15, 16, 17, 18] 14 rfl (by rfl) (by kernel_rfl) (by kernel_rfl) (by kernel_rfl) (by kernel_rfl) (by kernel_rfl) (fun _ _ _ h => h) (Or.inl ⟨by kernel_rfl, ?_⟩) hHeld ?_
  rotate_left
  · intro w' hSw
    (try dsimp only at hSw)
    go_simp
    first | done | with_reducible rfl
  try simp only [Act.put, List.setIfInBounds_toArray, List.set]
  refine PhaseIn.takeD (i := 13) (v := ?_) [13, 16, 17, 18] 27 rfl (by rfl) (by kernel_rfl) (by kernel_rfl) (by kernel_rfl) (by kernel_rfl) (by kernel_rfl) (fun _ _ _ h => h) (Or.inl ⟨by kernel_rfl, ?_⟩) hHeld ?_
  rotate_left
  · intro w' hSw
    (try dsimp only at hSw)
    go_simp
    first | done | with_reducible rfl
  try simp only [Act.put, List.setIfInBounds_toArray, List.set]
  refine PhaseIn.takeD (i := 14) (v := ?_) [14, 17, 18] 28 rfl (by rfl) (by kernel_rfl) (by kernel_rfl) (by kernel_rfl) (by kernel_rfl) (by kernel_rfl) (fun _ _ _ h => h) (Or.inl ⟨by kernel_rfl, ?_⟩) hHeld ?_
  rotate_left
  · intro w' hSw
    (try dsimp only at hSw)
    go_simp
    first | done | with_reducible rfl
  try simp only [Act.put, List.setIfInBounds_toArray, List.set]
  refine PhaseIn.takeD (i := 15) (v := ?_) [15, 18] 29 rfl (by rfl) (by kernel_rfl) (by kernel_rfl) (by kernel_rfl) (by kernel_rfl) (by kernel_rfl) (fun _ _ _ h => h) (Or.inl ⟨by kernel_rfl, ?_⟩) hHeld ?_
  rotate_left
  · intro w' hSw
    (try dsimp only at hSw)
    go_simp
    first | done | with_reducible rfl
  try simp only [Act.put, List.setIfInBounds_toArray, List.set]
  refine PhaseIn.takeD (i := 16) (v := ?_) [16, 17, 18] 4 rfl (by rfl) (by kernel_rfl) (by kernel_rfl) (by kernel_rfl) (by kernel_rfl) (by kernel_rfl) (fun _ _ _ h => h) (Or.inl ⟨by kernel_rfl, ?_⟩) hHeld ?_
  rotate_left
  · intro w' hSw
    (try dsimp only at hSw)
    go_simp
    first | done | with_reducible rfl
  try simp only [Act.put, List.setIfInBounds_toArray, List.set]
  refine PhaseIn.takeD (i := 17) (v := ?_) [17, 18] 5 rfl (by rfl) (by kernel_rfl) (by kernel_rfl) (by kernel_rfl) (by kernel_rfl) (by kernel_rfl) (fun _ _ _ h => h) (Or.inl ⟨by kernel_rfl, ?_⟩) hHeld ?_
  rotate_left
  · intro w' hSw
    (try dsimp only at hSw)
    go_simp
    first | done | with_reducible rfl
  try simp only [Act.put, List.setIfInBounds_toArray, List.set]
  refine PhaseIn.takeD (i := 18) (v := ?_) [18] 6 rfl (by rfl) (by kernel_rfl) (by kernel_rfl) (by kernel_rfl) (by kernel_rfl) (by kernel_rfl) (fun _ _ _ h => h) (Or.inl ⟨by kernel_rfl, ?_⟩) hHeld ?_
  rotate_left
  · intro w' hSw
    (try dsimp only at hSw)
    go_simp
    first | done | with_reducible rfl
  try simp only [Act.put, List.setIfInBounds_toArray, List.set]
  refine PhaseIn.done (by kernel_rfl) ?_ _
  clear hHeld
  go_wp2
  exact bodyPost_ret (v := .tuple #[.int .i64 okk, .bool kn]) (by simp [results, Tryd.results63, go_sem]) rfl ⟨okk, rfl, fun k hk => (KS.out.2 k hk).1.symm, BW.out⟩
set_option maxRecDepth 8000 in
set_option maxHeartbeats 16000000 in
theorem onward3 (pc ln bx by_ bk : Int) (ops : List Opn) (Z : Nat) (q : Option Addr) (n c : Nat) (w : World) (h : Hd w Z q n c ⟨pc, ln, ops, 3, bx, by_, bk⟩) (he : endB ops 3 bx by_ bk = true) (wd : ∀ k v, knownO ops k = some v → 0 ≤ v ∧ v < 65536) (p0 : 0 ≤ pc) (p1 : pc ≤ 64) (n0 : 0 ≤ ln) (n1 : ln ≤ 8) :
    Calls Tryd.prog 63 #[.pointer (some ⟨Z, 0, none⟩)] w fun e w' => ∃ p, e = .returned (.tuple #[.int .i64 p, .bool (foldK ⟨pc, ln, ops, 3, bx, by_, bk⟩).isSome]) ∧ (∀ k, foldK ⟨pc, ln, ops, 3, bx, by_, bk⟩ = some k → p = k) ∧ Below w.heap.size w w' := by
  have BX := h.box
  simp only [] at BX
  have RB := hide BX
  clear BX
  obtain ⟨mx, ox, rfl, lx, hx, -⟩ := val_get ((end_parts he).2.1 (by decide))
  rw [h.ops.len] at lx
  obtain ⟨g, rfl, WO0⟩ := h.ops.some lx
  simp only [] at WO0
  have WO := hide WO0
  clear WO0
  obtain ⟨my, oy, rfl, ly, hy, -⟩ := val_get ((end_parts he).2.2.2.1 (by decide))
  obtain ⟨f1, f2⟩ := ask_fold (pc := pc) (ln := ln) (bk := bk) 3 1 (by decide) hx hy wd
  rw [f1]
  obtain ⟨kx, xx, yx, vx, tx⟩ := ox
  obtain ⟨ky, xy, yy, vy, ty⟩ := oy
  simp only [] at f1 f2 hx hy ⊢
  have F2 := hide f2
  have ASK := hide (asked 1 mx my kx xx yx vx tx ky xy yy vy ty pc ln 3 bk ops Z g n c w RB.out WO.out hx hy p0 p1 n0 n1)
  clear h he wd f1 f2 hx hy WO
  have z3 := RB.out.cell 3 _ rfl
  go_enter Tryd.func63, Tryd.ntmps63
  go_wp2_with fail
  refine ASK.out.mono ?_
  rintro e u ⟨rfl, hb⟩
  clear ASK z3 RB
  have BW := hide hb
  clear hb
  go_wp2
  exact bodyPost_ret (v := .tuple #[.int .i64 (askP 1 vx vy (kx == 1 && ky == 1) bk (pc + ln)), .bool (kx == 1 && ky == 1)]) (by simp [results, Tryd.results63, go_sem]) rfl ⟨_, rfl, F2.out, BW.out⟩
set_option maxRecDepth 8000 in
set_option maxHeartbeats 16000000 in
theorem onward4 (pc ln bx by_ bk : Int) (ops : List Opn) (Z : Nat) (q : Option Addr) (n c : Nat) (w : World) (h : Hd w Z q n c ⟨pc, ln, ops, 4, bx, by_, bk⟩) (he : endB ops 4 bx by_ bk = true) (wd : ∀ k v, knownO ops k = some v → 0 ≤ v ∧ v < 65536) (p0 : 0 ≤ pc) (p1 : pc ≤ 64) (n0 : 0 ≤ ln) (n1 : ln ≤ 8) :
    Calls Tryd.prog 63 #[.pointer (some ⟨Z, 0, none⟩)] w fun e w' => ∃ p, e = .returned (.tuple #[.int .i64 p, .bool (foldK ⟨pc, ln, ops, 4, bx, by_, bk⟩).isSome]) ∧ (∀ k, foldK ⟨pc, ln, ops, 4, bx, by_, bk⟩ = some k → p = k) ∧ Below w.heap.size w w' := by
  have BX := h.box
  simp only [] at BX
  have RB := hide BX
  clear BX
  obtain ⟨mx, ox, rfl, lx, hx, -⟩ := val_get ((end_parts he).2.1 (by decide))
  rw [h.ops.len] at lx
  obtain ⟨g, rfl, WO0⟩ := h.ops.some lx
  simp only [] at WO0
  have WO := hide WO0
  clear WO0
  obtain ⟨my, oy, rfl, ly, hy, -⟩ := val_get ((end_parts he).2.2.2.1 (by decide))
  obtain ⟨f1, f2⟩ := ask_fold (pc := pc) (ln := ln) (bk := bk) 4 2 (by decide) hx hy wd
  rw [f1]
  obtain ⟨kx, xx, yx, vx, tx⟩ := ox
  obtain ⟨ky, xy, yy, vy, ty⟩ := oy
  simp only [] at f1 f2 hx hy ⊢
  have F2 := hide f2
  have ASK := hide (asked 2 mx my kx xx yx vx tx ky xy yy vy ty pc ln 4 bk ops Z g n c w RB.out WO.out hx hy p0 p1 n0 n1)
  clear h he wd f1 f2 hx hy WO
  have z3 := RB.out.cell 3 _ rfl
  go_enter Tryd.func63, Tryd.ntmps63
  go_wp2_with fail
  refine ASK.out.mono ?_
  rintro e u ⟨rfl, hb⟩
  clear ASK z3 RB
  have BW := hide hb
  clear hb
  go_wp2
  exact bodyPost_ret (v := .tuple #[.int .i64 (askP 2 vx vy (kx == 1 && ky == 1) bk (pc + ln)), .bool (kx == 1 && ky == 1)]) (by simp [results, Tryd.results63, go_sem]) rfl ⟨_, rfl, F2.out, BW.out⟩
theorem onward (b : Bk) (Z : Nat) (q : Option Addr) (n c : Nat) (w : World) (h : Hd w Z q n c b) (he : endB b.ops b.en b.x b.y b.k = true) (wd : ∀ k v, knownO b.ops k = some v → 0 ≤ v ∧ v < 65536) (p0 : 0 ≤ b.pc) (p1 : b.pc ≤ 64) (n0 : 0 ≤ b.ln) (n1 : b.ln ≤ 8) :
    Calls Tryd.prog 63 #[.pointer (some ⟨Z, 0, none⟩)] w fun e w' => ∃ p, e = .returned (.tuple #[.int .i64 p, .bool (foldK b).isSome]) ∧ (∀ k, foldK b = some k → p = k) ∧ Below w.heap.size w w' := by
  obtain ⟨pc, ln, ops, en, bx, by_, bk⟩ := b
  have hk := (end_parts he).1
  simp only [] at hk he wd p0 p1 n0 n1
  have : en = 1 ∨ en = 2 ∨ en = 3 ∨ en = 4 := by omega
  rcases this with rfl | rfl | rfl | rfl
  · exact onward1 pc ln bx by_ bk ops Z q n c w h he wd p0 p1 n0 n1
  · exact onward2 pc ln bx by_ bk ops Z q n c w h he wd p0 p1 n0 n1
  · exact onward3 pc ln bx by_ bk ops Z q n c w h he wd p0 p1 n0 n1
  · exact onward4 pc ln bx by_ bk ops Z q n c w h he wd p0 p1 n0 n1
end Go.Proofs.YtflhehofgplcoaaDoor.Op
