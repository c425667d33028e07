/-
  Contracts of the laws' own markTrmPoly and heldTrmPoly: what is marked is held, and nothing else has turned.
-/
import Derived.Test.YtlgpnogeoaoidaaPolK
namespace Go.Proofs.Ytlgpnogeoaoidaa.Pol
open Go.ChangeShapes Go.WideShapes Go.ChangeAt Go.RowKit IntS
/-- The number at which a part's marks begin. -/
def offs (ps : List Mono) (j : Nat) : Int := (j : Int) + (tot (ps.take j) : Int)
theorem offs_next {ps : List Mono} {j : Nat} {x : Mono} (h : ps[j]? = some x) : offs ps (j + 1) = offs ps j + 1 + (x.2.length : Int) := by
  unfold offs
  rw [tot_next h]
  omega
def markAt (ps : List Mono) (k : Int) (j : Nat) (x : Mono) : Mono := (k + offs ps j, marks (k + offs ps j + 1) x.2.length)
/-- A sum whose parts are marked up to a place. -/
def mixP (ps : List Mono) (k : Int) (n : Nat) : List Mono := ps.mapIdx fun j x => if j < n then markAt ps k j x else x
def markP (ps : List Mono) (k : Int) : List Mono := ps.mapIdx fun j x => markAt ps k j x
theorem mark_at {ps : List Mono} {k : Int} {j : Nat} {x : Mono} (h : ps[j]? = some x) : (markP ps k)[j]? = some (markAt ps k j x) := by unfold markP; rw [List.getElem?_mapIdx, h]; rfl
theorem mix_at {ps : List Mono} {k : Int} {n j : Nat} {x : Mono} (h : ps[j]? = some x) : (mixP ps k n)[j]? = some (if j < n then markAt ps k j x else x) := by unfold mixP; rw [List.getElem?_mapIdx, h]; rfl
theorem mix_len (ps : List Mono) (k : Int) (n : Nat) : (mixP ps k n).length = ps.length := by unfold mixP; rw [List.length_mapIdx]
theorem mark_len (ps : List Mono) (k : Int) : (markP ps k).length = ps.length := by unfold markP; rw [List.length_mapIdx]
theorem mix_none {ps : List Mono} {k : Int} {n j : Nat} (h : ps[j]? = none) : (mixP ps k n)[j]? = none := by unfold mixP; rw [List.getElem?_mapIdx, h]; rfl
theorem mix_zero (ps : List Mono) (k : Int) : mixP ps k 0 = ps := by
  apply List.ext_getElem?
  intro j
  cases h : ps[j]? with
  | none => exact mix_none h
  | some x => rw [mix_at h, if_neg (by omega)]
theorem mix_whole (ps : List Mono) (k : Int) : mixP ps k ps.length = markP ps k := by
  apply List.ext_getElem?
  intro j
  cases h : ps[j]? with
  | none => rw [mix_none h]; unfold markP; rw [List.getElem?_mapIdx, h]; rfl
  | some x => rw [mix_at h, mark_at h, if_pos (List.getElem?_eq_some_iff.1 h).1]
theorem mix_next {ps : List Mono} {k : Int} {n : Nat} {x : Mono} (h : ps[n]? = some x) : (mixP ps k n).set n (markAt ps k n x) = mixP ps k (n + 1) := by
  apply List.ext_getElem?
  intro j
  by_cases e : j = n
  · subst e
    rw [List.getElem?_set_self (by rw [mix_len]; exact (List.getElem?_eq_some_iff.1 h).1), mix_at h, if_pos (by omega)]
  · rw [List.getElem?_set_ne (fun e2 => e e2.symm)]
    cases h2 : ps[j]? with
    | none => rw [mix_none h2, mix_none h2]
    | some y =>
      rw [mix_at h2, mix_at h2]
      by_cases e3 : j < n
      · rw [if_pos e3, if_pos (by omega)]
      · rw [if_neg e3, if_neg (by omega)]
theorem set_at {ps : List Mono} {j i : Nat} {x y z : Mono} (hx : ps[j]? = some x) (h : (ps.set j y)[i]? = some z) : (i = j ∧ z = y) ∨ (i ≠ j ∧ ps[i]? = some z) := by
  by_cases e : i = j
  · subst e
    rw [List.getElem?_set_self (List.getElem?_eq_some_iff.1 hx).1] at h
    exact Or.inl ⟨rfl, (Option.some.inj h).symm⟩
  · rw [List.getElem?_set_ne (fun e2 => e e2.symm)] at h
    exact Or.inr ⟨e, h⟩
theorem WP.coef {w : World} {lo hi : Nat} {a : Option Addr} {G cap : Nat} {g : Nat → Nat} {s : Nat → Value} {ps : List Mono} (h : WP w lo hi a G cap g s ps) {j : Nat} {x : Mono} (hx : ps[j]? = some x) (n : Int) : WP (w.setCell ⟨G, j * 2, none⟩ (.int .i64 n)) lo hi a G cap g s (ps.set j (n, x.2)) := by
  have hG := h.at_.resolve_left (fun e => by rw [e] at hx; simp at hx)
  have sz : (w.setCell ⟨G, j * 2, none⟩ (.int .i64 n)).heap.size = w.heap.size := by simp [World.setCell]
  refine ⟨by rw [List.length_set]; exact h.le, h.mx, h.nl, Or.inr ⟨hG.1, hG.2.1, hG.2.2.1, by rw [sz]; exact hG.2.2.2⟩, fun i z hz => ?_, fun i i' z z' hi hz hz' => ?_⟩
  · have far (p : Addr) (q0 : p ≠ ⟨G, j * 2, none⟩) : (w.setCell ⟨G, j * 2, none⟩ (.int .i64 n)).cell? p = w.cell? p := World.cell?_setCell_other _ _ _ _ (fun e => q0 e.symm)
    rcases set_at hx hz with ⟨rfl, rfl⟩ | ⟨e, hz2⟩
    · obtain ⟨k1, k2, k3, k4, k5⟩ := h.cells i x hx
      refine ⟨World.cell?_setCell_same w _ _ k1, (World.frozen?_setCell ..).trans k2, ?_, ?_, k5⟩
      · rw [far _ (fun e2 => by have : i * 2 + 1 = i * 2 := congrArg Addr.off e2; omega)]; exact k3
      · rcases k5 with k5 | k5
        · obtain ⟨q, c2, o2, h1, h2, h3, hz0, _⟩ := k4
          exact ⟨q, c2, o2, h1, h2, h3, hz0, Or.inl k5⟩
        · exact other_row k4 _ _ (fun e2 => k5.2.2 e2.symm)
    · obtain ⟨k1, k2, k3, k4, k5⟩ := h.cells i z hz2
      refine ⟨?_, (World.frozen?_setCell ..).trans k2, ?_, ?_, k5⟩
      · rw [far _ (fun e2 => by have : i * 2 = j * 2 := congrArg Addr.off e2; omega)]; exact k1
      · rw [far _ (fun e2 => by have : i * 2 + 1 = j * 2 := congrArg Addr.off e2; omega)]; exact k3
      · rcases k5 with k5 | k5
        · obtain ⟨q, c2, o2, h1, h2, h3, hz0, _⟩ := k4
          exact ⟨q, c2, o2, h1, h2, h3, hz0, Or.inl k5⟩
        · exact other_row k4 _ _ (fun e2 => k5.2.2 e2.symm)
  · obtain ⟨y, hy, ey⟩ : ∃ y, ps[i]? = some y ∧ y.2 = z.2 := by
      rcases set_at hx hz with ⟨rfl, rfl⟩ | ⟨e, hz2⟩
      · exact ⟨x, hx, rfl⟩
      · exact ⟨z, hz2, rfl⟩
    obtain ⟨y', hy', ey'⟩ : ∃ y, ps[i']? = some y ∧ y.2 = z'.2 := by
      rcases set_at hx hz' with ⟨rfl, rfl⟩ | ⟨e, hz2⟩
      · exact ⟨x, hx, rfl⟩
      · exact ⟨z', hz2, rfl⟩
    rw [← ey, ← ey']
    exact h.apart i i' y y' hi hy hy'
theorem WP.atoms {w w' : World} {lo hi : Nat} {a : Option Addr} {G cap : Nat} {g : Nat → Nat} {s : Nat → Value} {ps : List Mono} (h : WP w lo hi a G cap g s ps) {j : Nat} {x : Mono} (hx : ps[j]? = some x) {ys : List Int} (ht : Turn (g j) w w') (hR : WRow w' (g j) (s j) ys) (hl : ys.length = x.2.length) (hne : x.2 ≠ []) : WP w' lo hi a G cap g s (ps.set j (x.1, ys)) := by
  have hG := h.at_.resolve_left (fun e => by rw [e] at hx; simp at hx)
  have hj := (h.cells j x hx).2.2.2.2.resolve_left hne
  have eG := ht.block G hG.2.2.2 (fun e => hj.2.2 e.symm)
  refine ⟨by rw [List.length_set]; exact h.le, h.mx, h.nl, Or.inr ⟨hG.1, hG.2.1, hG.2.2.1, Nat.lt_of_lt_of_le hG.2.2.2 ht.size⟩, fun i z hz => ?_, fun i i' z z' hi hz hz' => ?_⟩
  · rcases set_at hx hz with ⟨rfl, rfl⟩ | ⟨e, hz2⟩
    · obtain ⟨k1, k2, k3, k4, k5⟩ := h.cells i x hx
      exact ⟨(World.cell?_of_block (w := w) (a := ⟨G, i * 2, none⟩) eG).trans k1, (World.frozen?_of_block (w := w) (a := ⟨G, i * 2, none⟩) eG).trans k2, (World.cell?_of_block (w := w) (a := ⟨G, i * 2 + 1, none⟩) eG).trans k3, hR, Or.inr hj⟩
    · obtain ⟨k1, k2, k3, k4, k5⟩ := h.cells i z hz2
      refine ⟨(World.cell?_of_block (w := w) (a := ⟨G, i * 2, none⟩) eG).trans k1, (World.frozen?_of_block (w := w) (a := ⟨G, i * 2, none⟩) eG).trans k2, (World.cell?_of_block (w := w) (a := ⟨G, i * 2 + 1, none⟩) eG).trans k3, ?_, k5⟩
      by_cases ez : z.2 = []
      · obtain ⟨q, c2, o2, h1, h2, h3, hz0, _⟩ := k4
        exact ⟨q, c2, o2, h1, h2, h3, hz0, Or.inl ez⟩
      · have : g i ≠ g j := by
          rcases Nat.lt_or_gt_of_ne e with e | e
          · exact ((h.apart i j z x e hz2 hx).resolve_left ez).resolve_left hne
          · exact Ne.symm (((h.apart j i x z e hx hz2).resolve_left hne).resolve_left ez)
        exact k4.turn ht this
  · obtain ⟨y, hy, ey⟩ : ∃ y, ps[i]? = some y ∧ (z.2 = [] ↔ y.2 = []) := by
      rcases set_at hx hz with ⟨rfl, rfl⟩ | ⟨e, hz2⟩
      · exact ⟨x, hx, by simp only []; rw [← List.length_eq_zero_iff, ← List.length_eq_zero_iff, hl]⟩
      · exact ⟨z, hz2, Iff.rfl⟩
    obtain ⟨y', hy', ey'⟩ : ∃ y, ps[i']? = some y ∧ (z'.2 = [] ↔ y.2 = []) := by
      rcases set_at hx hz' with ⟨rfl, rfl⟩ | ⟨e, hz2⟩
      · exact ⟨x, hx, by simp only []; rw [← List.length_eq_zero_iff, ← List.length_eq_zero_iff, hl]⟩
      · exact ⟨z', hz2, Iff.rfl⟩
    rw [ey, ey']
    exact h.apart i i' y y' hi hy hy'
theorem marks_zero (k : Int) : marks k 0 = [] := List.length_eq_zero_iff.1 (marks_len k 0)
end Go.Proofs.Ytlgpnogeoaoidaa.Pol
