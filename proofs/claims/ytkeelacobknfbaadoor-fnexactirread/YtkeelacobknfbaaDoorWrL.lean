/-
  Bytes: the specification's l11Num and IrRead.
-/
import Derived.Test.YtkeelacobknfbaaDoorWrJ
namespace Go.Proofs.YtkeelacobknfbaaDoor.Wr
set_option linter.unusedVariables false
set_option linter.unusedSimpArgs false
open Go.ChangeShapes Go.WideShapes Go.ChangeAt Go.RowKit IntS Flat
open Ir Push
open Mch (Rec)
open Irk (flatO flatO_app)
open Dt (blkR toT bkOf New)
/-- The bytes of a list, in a block from a place on. -/
def CY (B off : Nat) (ys : List Int) (v : World) : Prop := ∀ (i : Nat) y, ys[i]? = some y → v.cell? ⟨B, off + i, none⟩ = some (.int .u8 y)
theorem CY.below {B off : Nat} {ys : List Int} {w w' : World} (h : CY B off ys w) (hb : Below w.heap.size w w') : CY B off ys w' := fun i y hy => cell_below hb (h i y hy)
theorem CY.low {B off lo : Nat} {ys : List Int} {w w' : World} (h : CY B off ys w) (hb : Below lo w w') (hB : ys = [] ∨ B < lo) : CY B off ys w' := fun i y hy => by
  rcases hB with e | e
  · rw [e] at hy; simp at hy
  · rw [World.cell?_of_block (w := w) (a := ⟨B, off + i, none⟩) (hb.block B e)]
    exact h i y hy
theorem at_of {ys : List Int} {i : Nat} {y : Int} (h : ys[i]? = some y) : atY ys i = y := by unfold atY; rw [List.getD_eq_getElem?_getD, h]; rfl
set_option maxRecDepth 8000 in
set_option maxHeartbeats 4000000 in
theorem l11Num (ys : List Int) (B off n c : Nat) (v : Int) (p : Nat) (w : World) (h : CY B off ys w) (hl : ys.length = n) (hc : n ≤ c) (hm : c ≤ maxLen) (hy : ∀ y ∈ ys, 0 ≤ y ∧ y < 256) (hv : v = (p : Int)) (hp : p + 1 < n) :
    Calls Tryd.prog 44 #[.slice (some ⟨B, off, none⟩) n c, .int .i64 v] w fun r w' => r = .returned (.int .i64 (atY ys p * 256 + atY ys (p + 1))) ∧ Below w.heap.size w w' := by
  subst hv
  obtain ⟨a, ea⟩ : ∃ y, ys[p]? = some y := ⟨_, List.getElem?_eq_getElem (by omega)⟩
  obtain ⟨b, eb⟩ : ∃ y, ys[p + 1]? = some y := ⟨_, List.getElem?_eq_getElem (by omega)⟩
  rw [at_of ea, at_of eb]
  have c1 := h p a ea
  have c2 := h (p + 1) b eb
  obtain ⟨a0, a1⟩ := hy a (List.mem_of_getElem? ea)
  obtain ⟨b0, b1⟩ := hy b (List.mem_of_getElem? eb)
  unfold maxLen at hm
  have l1 : ((p : Nat) : Int) < (n : Nat) := by omega
  have l2 : ((p : Nat) : Int) + 1 < (n : Nat) := by omega
  have BW : Hid (Below w.heap.size w w.drew) := (Below.refl _ _).drew
  have wa : IntKind.i64.wrap a = a := by rw [IntKind.wrap_i64]; omega
  have wb : IntKind.i64.wrap b = b := by rw [IntKind.wrap_i64]; omega
  have wm : IntKind.i64.wrap (a * 256) = a * 256 := by rw [IntKind.wrap_i64]; omega
  have wp : IntKind.i64.wrap ((p : Int) + 1) = (p : Int) + 1 := by rw [IntKind.wrap_i64]; omega
  have zp : (0 : Int) ≤ (p : Int) + 1 := by omega
  have ws : IntKind.i64.wrap (a * 256 + b) = a * 256 + b := by rw [IntKind.wrap_i64]; omega
  have EA := hide ea
  have EB := hide eb
  clear hy hl ea eb c1 c2
  have H := hide h
  clear h
  go_enter Tryd.func44, Tryd.ntmps44
  go_wp2_with fail
  refine (wpIn_wide (n := 0)).1 ?_
  refine PhaseIn.region (S := fun v => CY B off ys v) 14 (by kernel_rfl) ?_
  have hHeld : CY B off ys w.drew := H.out.below (Below.refl _ _).drew
  generalize w.drew = d1 at hHeld BW ⊢
  refine PhaseIn.takeD (i := 0) (v := ?_) [0, 2, 3, 4, 5, 12, 13] 5 rfl (by rfl) (by kernel_rfl) (by kernel_rfl) (by kernel_rfl) (by kernel_rfl) (by kernel_rfl) (fun _ _ _ h => h) (Or.inl ⟨by kernel_rfl, ?_⟩) hHeld ?_
  rotate_left
  · intro w' hSw
    (try dsimp only at hSw)
    go_simp
    first | done | with_reducible rfl
  try simp only [Act.put, List.setIfInBounds_toArray, List.set]
  refine PhaseIn.takeD (i := 1) (v := ?_) [1, 2, 3, 4, 5, 12, 13] 6 rfl (by rfl) (by kernel_rfl) (by kernel_rfl) (by kernel_rfl) (by kernel_rfl) (by kernel_rfl) (fun _ _ _ h => h) (Or.inl ⟨by kernel_rfl, ?_⟩) hHeld ?_
  rotate_left
  · intro w' hSw
    (try dsimp only at hSw)
    go_simp
    first | done | with_reducible rfl
  try simp only [Act.put, List.setIfInBounds_toArray, List.set]
  refine PhaseIn.takeD (i := 2) (v := ?_) [2, 3, 4, 5, 12, 13] 7 rfl (by rfl) (by kernel_rfl) (by kernel_rfl) (by kernel_rfl) (by kernel_rfl) (by kernel_rfl) (fun _ _ _ h => h) (Or.inl ⟨by kernel_rfl, ?_⟩) hHeld ?_
  rotate_left
  · intro w' hSw
    (try dsimp only at hSw)
    go_simp
    first | done | with_reducible rfl
  try simp only [Act.put, List.setIfInBounds_toArray, List.set]
  refine PhaseIn.takeD (i := 3) (v := ?_) [3, 4, 5, 12, 13] 8 rfl (by rfl) (by kernel_rfl) (by kernel_rfl) (by kernel_rfl) (by kernel_rfl) (by kernel_rfl) (fun _ _ _ h => h) (Or.inl ⟨by kernel_rfl, ?_⟩) hHeld ?_
  rotate_left
  · intro w' hSw
    (try dsimp only at hSw)
    have z := hSw p a EA.out
    go_simp
    first | done | with_reducible rfl
  try simp only [Act.put, List.setIfInBounds_toArray, List.set]
  refine PhaseIn.takeD (i := 4) (v := ?_) [4, 5, 12, 13] 9 rfl (by rfl) (by kernel_rfl) (by kernel_rfl) (by kernel_rfl) (by kernel_rfl) (by kernel_rfl) (fun _ _ _ h => h) (Or.inl ⟨by kernel_rfl, ?_⟩) hHeld ?_
  rotate_left
  · intro w' hSw
    (try dsimp only at hSw)
    go_simp
    first | done | with_reducible rfl
  try simp only [Act.put, List.setIfInBounds_toArray, List.set]
  try simp only [wa]
  refine PhaseIn.takeD (i := 5) (v := ?_) [5, 12, 13] 10 rfl (by rfl) (by kernel_rfl) (by kernel_rfl) (by kernel_rfl) (by kernel_rfl) (by kernel_rfl) (fun _ _ _ h => h) (Or.inl ⟨by kernel_rfl, ?_⟩) hHeld ?_
  rotate_left
  · intro w' hSw
    (try dsimp only at hSw)
    go_simp
    first | done | with_reducible rfl
  try simp only [Act.put, List.setIfInBounds_toArray, List.set]
  try simp only [wm]
  refine PhaseIn.takeD (i := 6) (v := ?_) [6, 9, 10, 11, 12, 13] 11 rfl (by rfl) (by kernel_rfl) (by kernel_rfl) (by kernel_rfl) (by kernel_rfl) (by kernel_rfl) (fun _ _ _ h => h) (Or.inl ⟨by kernel_rfl, ?_⟩) hHeld ?_
  rotate_left
  · intro w' hSw
    (try dsimp only at hSw)
    go_simp
    first | done | with_reducible rfl
  try simp only [Act.put, List.setIfInBounds_toArray, List.set]
  refine PhaseIn.takeD (i := 7) (v := ?_) [7, 8, 9, 10, 11, 12, 13] 12 rfl (by rfl) (by kernel_rfl) (by kernel_rfl) (by kernel_rfl) (by kernel_rfl) (by kernel_rfl) (fun _ _ _ h => h) (Or.inl ⟨by kernel_rfl, ?_⟩) hHeld ?_
  rotate_left
  · intro w' hSw
    (try dsimp only at hSw)
    go_simp
    first | done | with_reducible rfl
  try simp only [Act.put, List.setIfInBounds_toArray, List.set]
  refine PhaseIn.takeD (i := 8) (v := ?_) [8, 9, 10, 11, 12, 13] 13 rfl (by rfl) (by kernel_rfl) (by kernel_rfl) (by kernel_rfl) (by kernel_rfl) (by kernel_rfl) (fun _ _ _ h => h) (Or.inl ⟨by kernel_rfl, ?_⟩) hHeld ?_
  rotate_left
  · intro w' hSw
    (try dsimp only at hSw)
    go_simp
    first | done | with_reducible rfl
  try simp only [Act.put, List.setIfInBounds_toArray, List.set]
  try simp only [wp]
  refine PhaseIn.takeD (i := 9) (v := ?_) [9, 10, 11, 12, 13] 14 rfl (by rfl) (by kernel_rfl) (by kernel_rfl) (by kernel_rfl) (by kernel_rfl) (by kernel_rfl) (fun _ _ _ h => h) (Or.inl ⟨by kernel_rfl, ?_⟩) hHeld ?_
  rotate_left
  · intro w' hSw
    (try dsimp only at hSw)
    go_simp
    first | done | with_reducible rfl
  try simp only [Act.put, List.setIfInBounds_toArray, List.set]
  refine PhaseIn.takeD (i := 10) (v := ?_) [10, 11, 12, 13] 15 rfl (by rfl) (by kernel_rfl) (by kernel_rfl) (by kernel_rfl) (by kernel_rfl) (by kernel_rfl) (fun _ _ _ h => h) (Or.inl ⟨by kernel_rfl, ?_⟩) hHeld ?_
  rotate_left
  · intro w' hSw
    (try dsimp only at hSw)
    have z := hSw (p + 1) b EB.out
    go_simp
    first | done | with_reducible rfl
  try simp only [Act.put, List.setIfInBounds_toArray, List.set]
  refine PhaseIn.takeD (i := 11) (v := ?_) [11, 12, 13] 16 rfl (by rfl) (by kernel_rfl) (by kernel_rfl) (by kernel_rfl) (by kernel_rfl) (by kernel_rfl) (fun _ _ _ h => h) (Or.inl ⟨by kernel_rfl, ?_⟩) hHeld ?_
  rotate_left
  · intro w' hSw
    (try dsimp only at hSw)
    go_simp
    first | done | with_reducible rfl
  try simp only [Act.put, List.setIfInBounds_toArray, List.set]
  try simp only [wb]
  refine PhaseIn.takeD (i := 12) (v := ?_) [12, 13] 17 rfl (by rfl) (by kernel_rfl) (by kernel_rfl) (by kernel_rfl) (by kernel_rfl) (by kernel_rfl) (fun _ _ _ h => h) (Or.inl ⟨by kernel_rfl, ?_⟩) hHeld ?_
  rotate_left
  · intro w' hSw
    (try dsimp only at hSw)
    go_simp
    first | done | with_reducible rfl
  try simp only [Act.put, List.setIfInBounds_toArray, List.set]
  try simp only [ws]
  refine PhaseIn.takeD (i := 13) (v := ?_) [13] 4 rfl (by rfl) (by kernel_rfl) (by kernel_rfl) (by kernel_rfl) (by kernel_rfl) (by kernel_rfl) (fun _ _ _ h => h) (Or.inl ⟨by kernel_rfl, ?_⟩) hHeld ?_
  rotate_left
  · intro w' hSw
    (try dsimp only at hSw)
    go_simp
    first | done | with_reducible rfl
  try simp only [Act.put, List.setIfInBounds_toArray, List.set]
  refine PhaseIn.done (by kernel_rfl) ?_ _
  go_wp2
  go_ret
  exact ⟨rfl, BW.out⟩
end Go.Proofs.YtkeelacobknfbaaDoor.Wr
