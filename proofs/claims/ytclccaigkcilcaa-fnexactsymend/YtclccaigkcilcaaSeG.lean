/-
  How many marks a telling has, and its size behind SymEnd.
-/
import Derived.Test.YtclccaigkcilcaaSeC
namespace Go.Proofs.Ytclccaigkcilcaa.Dt
set_option linter.unusedVariables false
open Go.ChangeShapes Go.WideShapes Go.ChangeAt Go.RowKit IntS Pol
theorem sum_mono {β : Type} {f g : β → Nat} (h : ∀ x, f x ≤ g x) : ∀ xs : List β, sum f xs ≤ sum g xs
  | [] => Nat.le_refl _
  | x :: xs => by
    have h1 := h x
    have h2 := sum_mono h xs
    have e1 : sum f (x :: xs) = f x + sum f xs := by unfold sum; simp
    have e2 : sum g (x :: xs) = g x + sum g xs := by unfold sum; simp
    omega
theorem sum_plus {β : Type} (f : β → Nat) (c : Nat) : ∀ xs : List β, sum (fun x => c + f x) xs = c * xs.length + sum f xs
  | [] => by simp [sum]
  | x :: xs => by
    have h2 := sum_plus f c xs
    have e1 : sum (fun x => c + f x) (x :: xs) = (c + f x) + sum (fun x => c + f x) xs := by unfold sum; simp
    have e2 : sum f (x :: xs) = f x + sum f xs := by unfold sum; simp
    rw [e1, e2, h2, List.length_cons, Nat.mul_succ]
    omega
theorem poly_nx (p : List Mono) : polyK.nx p ≤ polyK.sz p := by
  have e1 : polyK.nx p = sum (fun x => 1 + intsK.nx x.2) p := rfl
  have e2 : polyK.sz p = p.length + sum (fun x => intsK.sz x.2) p := rfl
  have e3 : sum (fun x : Mono => 1 + intsK.nx x.2) p = 1 * p.length + sum (fun x => intsK.nx x.2) p := sum_plus (fun x : Mono => intsK.nx x.2) 1 p
  have e4 : sum (fun x : Mono => intsK.nx x.2) p ≤ sum (fun x => intsK.sz x.2) p := sum_mono (fun x => by rw [ints_nx, ints_sz]; exact Nat.le_refl _) p
  omega
theorem sums_nx (p : List (List Mono)) : sumsK.nx p ≤ sumsK.sz p := by
  have e1 : sumsK.nx p = sum polyK.nx p := rfl
  have e2 : sumsK.sz p = p.length + sum polyK.sz p := rfl
  have e4 := sum_mono poly_nx p
  omega
theorem ev_nx (e : Ev5) : evR.nx e ≤ 2 + evR.sz e := by
  obtain ⟨f0, f1, f2, f3, f4⟩ := e
  rw [evR_nx, evR_sz]
  have h1 := poly_nx f2
  have h2 := poly_nx f3
  have h3 := sums_nx f4
  omega
theorem evs_nx (p : List Ev5) : evsK.nx p ≤ 2 * evsK.sz p := by
  have e1 : evsK.nx p = sum evR.nx p := rfl
  have e2 : evsK.sz p = p.length + sum evR.sz p := rfl
  have e4 : sum evR.nx p ≤ 2 * p.length + sum evR.sz p := Nat.le_trans (sum_mono ev_nx p) (Nat.le_of_eq (sum_plus evR.sz 2 p))
  omega
theorem sym_nx (s : Sym6) : symR.nx s ≤ 2 * symR.sz s := by
  obtain ⟨x0, x1, a2, x3, x4, a5⟩ := s
  rw [symR_nx, symR_sz]
  have h1 := evs_nx x0
  have h2 := sums_nx x1
  have h3 := poly_nx x3
  have h4 := poly_nx x4
  omega
theorem symD_sz (d : Nat × Int) (s : Sym6) : symR.sz (symD d s) ≤ symR.sz s := by
  obtain ⟨x0, x1, a2, x3, x4, a5⟩ := s
  unfold symD
  have e0 : polyK.sz [] = 0 := rfl
  by_cases h0 : d.1 = 0
  · rw [if_pos h0]
    exact Nat.le_refl _
  rw [if_neg h0]
  by_cases h1 : d.1 = 1
  · rw [if_pos h1, symR_sz, symR_sz]
    simp only []
    omega
  · rw [if_neg h1, symR_sz, symR_sz]
    simp only []
    omega
theorem sym_end_sz (s : Sym6) (bh : Int) : symR.sz (symEndD s bh) ≤ symR.sz s := by
  unfold symEndD
  by_cases h : okP s.2.2.2.1 = false ∨ okP s.2.2.2.2.1 = false
  · rw [if_pos h, symR_sz]
    have e0 : polyK.sz [] = 0 := rfl
    have e1 : sumsK.sz [] = 0 := rfl
    have e2 : evsK.sz [] = 0 := rfl
    omega
  · rw [if_neg h]
    exact symD_sz _ _
end Go.Proofs.Ytclccaigkcilcaa.Dt
