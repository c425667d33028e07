/-
  Behind the first element of a row.
-/
import Derived.Test.YtnhpmbhphbphaaaGreatMpF
namespace Go.Proofs.YtnhpmbhphbphaaaGreat.Mch
set_option linter.unusedVariables false
set_option linter.unusedSimpArgs false
open Go.ChangeShapes Go.WideShapes Go.ChangeAt Go.RowKit IntS
theorem row_back {w : World} {B b o l k : Nat} {x : Int} {r : List Int} (h : Row w B (.slice (some ⟨b, o, none⟩) l k) (x :: r)) : Row w b (.slice (if k = 1 then some ⟨b, o, none⟩ else some ⟨b, o + 1, none⟩) r.length (k - 1)) r := by
  obtain ⟨a, c, off, hv, h2, h3, hz, h4⟩ := h
  cases hv
  rcases h4 with h4 | ⟨h4, h5⟩
  · cases h4
  cases h4
  simp only [List.length_cons] at h2
  by_cases hk : k = 1
  · have hr : r = [] := List.eq_nil_of_length_eq_zero (by omega)
    subst hr
    rw [if_pos hk]
    exact ⟨_, k - 1, o, rfl, by simp, by omega, (fun h => by cases h), Or.inr ⟨rfl, fun j z hz => by cases hz⟩⟩
  rw [if_neg hk]
  refine ⟨_, k - 1, o + 1, rfl, by omega, by omega, (fun h => by cases h), Or.inr ⟨rfl, fun j z hz => ?_⟩⟩
  rw [show o + 1 + j = o + (j + 1) by omega]
  exact h5 (j + 1) z hz
theorem laTail {w : World} {B B' b o l k : Nat} {v : Value} {x : Int} {r ys : List Int} (h : Row w B v ys) (h' : Row w B' (.slice (some ⟨b, o, none⟩) l k) (x :: r)) (e : ys = r) :
    Calls Tryz.prog 21 #[v, .slice (if k = 1 then some ⟨b, o, none⟩ else some ⟨b, o + 1, none⟩) r.length (k - 1)] w fun e w' => e = .returned (.bool true) ∧ Below w.heap.size w w' := by
  refine (La.laInts ys r B b _ _ w h (row_back h')).mono ?_
  rintro ee w' ⟨rfl, hb⟩
  exact ⟨by rw [e]; simp, hb⟩
end Go.Proofs.YtnhpmbhphbphaaaGreat.Mch
