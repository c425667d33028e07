/-
  What is kept: what its functions tell, as lists.
-/
import Derived.Test.YthlpndligadnjaaCaP
import Derived.Test.YthlpndligadnjaaDtC
namespace Go.Proofs.Ythlpndligadnjaa.Dt
set_option linter.unusedVariables false
open Go.ChangeShapes Go.WideShapes Go.ChangeAt Go.RowKit IntS Pol Push
/-- The place of the first one of which something is so; -1, if there is none. -/
def idx {β : Type} (p : β → Bool) : List β → Nat → Int
  | [], _ => -1
  | x :: r, k => if p x then (k : Int) else idx p r (k + 1)
theorem idx_end {β : Type} {p : β → Bool} {xs : List β} {k : Nat} (h : xs.length ≤ k) : idx p (xs.drop k) k = -1 := by rw [List.drop_eq_nil_of_le h]; rfl
theorem idx_step {β : Type} {p : β → Bool} {xs : List β} {k : Nat} {x : β} (h : xs[k]? = some x) : idx p (xs.drop k) k = if p x then (k : Int) else idx p (xs.drop (k + 1)) (k + 1) := by
  obtain ⟨hk, e⟩ := List.getElem?_eq_some_iff.1 h
  rw [List.drop_eq_getElem_cons hk, e]
  rfl
theorem idx_any {β : Type} {p : β → Bool} : ∀ (xs : List β) (k : Nat), decide (0 ≤ idx p xs k) = xs.any p
  | [], _ => rfl
  | x :: r, k => by
    unfold idx
    rw [List.any_cons]
    by_cases h : p x = true
    · rw [if_pos h, h, Bool.true_or]; exact decide_eq_true (by omega)
    · rw [if_neg h, idx_any r (k + 1)]; simp [h]
theorem any_end {β : Type} {p : β → Bool} {xs : List β} {k : Nat} (h : xs.length ≤ k) : (xs.drop k).any p = false := by rw [List.drop_eq_nil_of_le h]; rfl
theorem any_step {β : Type} {p : β → Bool} {xs : List β} {k : Nat} {x : β} (h : xs[k]? = some x) : (xs.drop k).any p = (p x || (xs.drop (k + 1)).any p) := by
  obtain ⟨hk, e⟩ := List.getElem?_eq_some_iff.1 h
  rw [List.drop_eq_getElem_cons hk, e]
  rfl
theorem filter_yes {β : Type} {p : β → Bool} {xs : List β} {k : Nat} {x : β} (h : xs[k]? = some x) (hp : p x = true) : (xs.take k).filter p ++ [x] = (xs.take (k + 1)).filter p := by
  rw [List.take_add_one, h, List.filter_append]
  simp [hp]
theorem filter_no {β : Type} {p : β → Bool} {xs : List β} {k : Nat} {x : β} (h : xs[k]? = some x) (hp : p x = false) : (xs.take k).filter p = (xs.take (k + 1)).filter p := by
  rw [List.take_add_one, h, List.filter_append]
  simp [hp]
theorem filter_len {β : Type} {p : β → Bool} {xs : List β} {k : Nat} : ((xs.take k).filter p).length ≤ k := Nat.le_trans (List.length_filter_le _ _) (by rw [List.length_take]; omega)
/-- Whether words stand at a place. -/
def thereB (ws mem : List Int) (pc : Int) : Bool := decide (0 ≤ pc ∧ (mem.drop pc.toNat).take ws.length = ws)
theorem there_at {ws mem : List Int} {pc : Nat} (h : ∀ k, k < ws.length → ∃ x, mem[pc + k]? = some x ∧ ws[k]? = some x) : thereB ws mem pc = true := by
  unfold thereB
  refine decide_eq_true ⟨by omega, ?_⟩
  rw [Int.toNat_natCast]
  apply List.ext_getElem?
  intro i
  by_cases hi : i < ws.length
  · obtain ⟨x, h1, h2⟩ := h i hi
    rw [List.getElem?_take, if_pos hi, List.getElem?_drop, h1, h2]
  · rw [List.getElem?_take, if_neg hi, List.getElem?_eq_none (by omega)]
theorem there_of {ws mem : List Int} {pc : Nat} (h : thereB ws mem pc = true) {k : Nat} (hk : k < ws.length) : ∃ x, mem[pc + k]? = some x ∧ ws[k]? = some x := by
  have h1 := (of_decide_eq_true h).2
  rw [Int.toNat_natCast] at h1
  have h2 := congrArg (fun l : List Int => l[k]?) h1
  simp only [List.getElem?_take, if_pos hk, List.getElem?_drop] at h2
  obtain ⟨x, hx⟩ : ∃ x, ws[k]? = some x := ⟨_, List.getElem?_eq_getElem hk⟩
  exact ⟨x, h2.trans hx, hx⟩
theorem there_neg {ws mem : List Int} {pc : Int} (h : pc < 0) : thereB ws mem pc = false := decide_eq_false (fun q => by omega)
theorem there_no {ws mem : List Int} {pc : Nat} {k : Nat} (hk : k < ws.length) (h : ∀ x, mem[pc + k]? = some x → ws[k]? ≠ some x) : thereB ws mem pc = false := by
  cases e : thereB ws mem pc with
  | false => rfl
  | true =>
    obtain ⟨x, h1, h2⟩ := there_of e hk
    exact absurd h2 (h x h1)
def putC (xs : List CT) (e : CT) : List CT := lastN 4 (xs.filter (fun x => x.2.1 != e.2.1) ++ [e])
def putP (xs : List PT) (e : PT) : List PT := lastN 3 (xs ++ [e])
def dropC (xs : List CT) (mem : List Int) : List CT := xs.filter (fun x => thereB x.1 mem x.2.1)
/-- What is behind the first so many of a list. -/
theorem LW.drop {β : Type} {R : Rw β} {w : World} {A : Nat → Prop} {a : Option Addr} {G off cap : Nat} {E : Nat → Nat → Prop} {xs : List β} (q : LW R w A a G off cap E xs) {d : Nat} (hd : d < xs.length) : LW R w A (some ⟨G, off + d * R.n, none⟩) G (off + d * R.n) (cap - d) (fun i => E (d + i)) (xs.drop d) := by
  have hG := q.at_.resolve_left (fun e => by rw [e] at hd; exact absurd hd (by simp))
  refine ⟨by rw [List.length_drop]; have := q.le; omega, by have := q.mx; omega, fun e => (by cases e), Or.inr ⟨rfl, hG.2⟩, fun i x hx => ?_, fun i j hij hj b h1 h2 => q.apart (d + i) (d + j) (by omega) (by rw [List.length_drop] at hj; omega) b h1 h2⟩
  rw [List.getElem?_drop] at hx
  obtain ⟨cs, k1, k2, k3, k4, k5⟩ := q.cells (d + i) x hx
  have e : off + d * R.n + i * R.n = off + (d + i) * R.n := by rw [Nat.add_mul]; omega
  exact ⟨cs, by rw [e]; exact k1, fun j hj hf => by rw [e]; exact k2 j hj hf, k3, k4, k5⟩
theorem LOw.drop {β : Type} {R : Rw β} {w : World} {A : Nat → Prop} {G n cap : Nat} {xs : List β} (h : LOw R w A (.slice (some ⟨G, 0, none⟩) n cap) xs) {d : Nat} (hd : d < xs.length) : LOw R w A (.slice (some ⟨G, d * R.n, none⟩) (n - d) (cap - d)) (xs.drop d) := by
  obtain ⟨a, G2, off, cap2, E, e, q⟩ := h
  have hG := q.at_.resolve_left (fun e => by rw [e] at hd; exact absurd hd (by simp))
  cases e
  obtain ⟨e1, -⟩ := hG
  cases e1
  refine ⟨_, G, 0 + d * R.n, cap - d, _, ?_, q.drop hd⟩
  rw [List.length_drop, Nat.zero_add]
/-- Rows of which something more is known. -/
def bd {β : Type} (R : Rw β) (p : β → Prop) : Rw β where
  n := R.n
  lf := R.lf
  rd := fun w cs x => R.rd w cs x ∧ p x
  ow := fun w A cs x => R.ow w A cs x ∧ p x
  sz := R.sz
  nx := R.nx
  mr := fun k x => x
  ln := fun h => R.ln h.1
  rb := fun h hb => ⟨R.rb h.1 hb, h.2⟩
  od := fun h => ⟨R.od h.1, h.2⟩
  ok := fun h hk hS => ⟨R.ok h.1 hk hS, h.2⟩
  ov := fun h h1 => ⟨R.ov h.1 h1, h.2⟩
theorem bd_rd {β : Type} {R : Rw β} {p : β → Prop} {w : World} {v : Value} {xs : List β} (h : LRd (bd R p) w v xs) : LRd R w v xs ∧ ∀ (i : Nat) x, xs[i]? = some x → p x := by
  obtain ⟨a, cap, B, off, h1, h2, h3, h4, h5⟩ := h
  rcases h5 with h5 | ⟨e, q⟩
  · subst h5
    exact ⟨⟨a, cap, B, off, h1, h2, h3, h4, Or.inl rfl⟩, fun i x hx => by simp at hx⟩
  · refine ⟨⟨a, cap, B, off, h1, h2, h3, h4, Or.inr ⟨e, fun i x hx => ?_⟩⟩, fun i x hx => ?_⟩
    · obtain ⟨cs, k1, k2⟩ := q i x hx
      exact ⟨cs, k1, k2.1⟩
    · obtain ⟨cs, k1, k2⟩ := q i x hx
      exact k2.2
end Go.Proofs.Ythlpndligadnjaa.Dt
