/-
  Plain data: contracts of the laws' own functions over lists of numbers, by kinds.
-/
import Derived.Test.YtlgpnogeoaoidaaDtN
import Derived.Test.YtlgpnogeoaoidaaShape
namespace Go.Proofs.Ytlgpnogeoaoidaa.Dt
set_option linter.unusedVariables false
set_option linter.unusedSimpArgs false
open Go.ChangeShapes Go.WideShapes Go.ChangeAt Go.RowKit IntS Pol
theorem LRd.form {β : Type} {R : Rw β} {w : World} {v : Value} {xs : List β} (h : LRd R w v xs) : ∃ a cap, v = .slice a xs.length cap ∧ xs.length ≤ cap ∧ cap ≤ maxLen := by
  obtain ⟨a, cap, B, off, h1, h2, h3, _⟩ := h
  exact ⟨a, cap, h1, h2, h3⟩
theorem sum_zero {β : Type} (xs : List β) : sum (fun _ => 0) xs = 0 := by
  unfold sum
  induction xs with
  | nil => rfl
  | cons x r ih => simpa using ih
theorem sum_ones {β : Type} (xs : List β) : sum (fun _ => 1) xs = xs.length := by
  unfold sum
  induction xs with
  | nil => rfl
  | cons x r ih =>
    simp only [List.map_cons, List.sum_cons, List.length_cons, ih]
    omega
theorem ints_sz (xs : List Int) : intsK.sz xs = xs.length := by
  show xs.length + sum (fun _ => 0) xs = _
  rw [sum_zero]
  rfl
theorem ints_nx (xs : List Int) : intsK.nx xs = xs.length := by
  show sum (fun _ => 1) xs = _
  rw [sum_ones]
theorem ints_mr (k : Int) (xs : List Int) : intsK.mr k xs = marks k xs.length := by
  show markL leaf k xs = _
  apply List.ext_getElem?
  intro i
  cases h : xs[i]? with
  | none =>
    have h1 := List.getElem?_eq_none_iff.1 h
    rw [List.getElem?_eq_none (by rw [markL_len]; exact h1), List.getElem?_eq_none (by rw [marks_len]; exact h1)]
  | some x =>
    have hi := (List.getElem?_eq_some_iff.1 h).1
    rw [markL_at h, marks_at hi]
    show some (k + ((sum (fun _ => 1) (xs.take i) : Nat) : Int)) = _
    rw [sum_ones, List.length_take, Nat.min_eq_left (by omega)]
theorem szIntS (xs : List Int) (v : Value) (left : Int) (w : World) (h : intsK.rd w v xs) (h0 : 0 ≤ left) (h1 : left ≤ 1048576) :
    Calls Try.prog 19 #[v, .int .i64 left] w fun e w' => ∃ r : Int, e = .returned (.int .i64 r) ∧ -1 ≤ r ∧ (0 ≤ r → r = left - intsK.sz xs) ∧ Below w.heap.size w w' := by
  obtain ⟨a, cap, rfl, h2, h3⟩ := LRd.form h
  rw [ints_sz]
  refine (IntS.szIntS xs.length cap a left w h2 h3 h0 h1).mono ?_
  rintro e u ⟨rfl, rfl⟩
  refine ⟨_, rfl, ?_, fun hr => ?_, Below.refl _ _⟩
  · split <;> omega
  · split at hr
    · omega
    · rw [if_neg (by assumption)]
theorem toIntS (xs : List Int) (v : Value) (w : World) (h : intsK.rd w v xs) (hs : intsK.sz xs ≤ 1048576) :
    Calls Try.prog 22 #[v] w fun e w' => ∃ g, e = .returned (.slice (some ⟨g, 0, none⟩) xs.length xs.length) ∧ intsK.ow w' (New w w') (.slice (some ⟨g, 0, none⟩) xs.length xs.length) xs ∧ Below w.heap.size w w' := by
  obtain ⟨B, hr⟩ := ints_to h
  rw [ints_sz] at hs
  refine (IntS.toIntS xs B v w hr hs).mono ?_
  rintro e u ⟨g, rfl, k1, k2, k3, hb⟩
  exact ⟨g, rfl, ints_ow k1 (Or.inr ⟨k2, k3⟩), hb⟩
theorem eqIntS (xs : List Int) (v v' : Value) (w : World) (h : intsK.rd w v xs) (h' : intsK.rd w v' xs) :
    Calls Try.prog 27 #[v, v'] w fun e w' => e = .returned (.bool true) ∧ Below w.heap.size w w' := by
  obtain ⟨B, hr⟩ := ints_to h
  obtain ⟨B', hr'⟩ := ints_to h'
  refine (IntS.eqIntS xs xs B B' v v' w hr hr').mono ?_
  rintro e u ⟨rfl, hb⟩
  exact ⟨by simp, hb⟩
theorem markIntS (xs : List Int) (k : Int) (A : Nat → Prop) (v : Value) (w : World) (h : intsK.ow w A v xs) (k0 : 0 ≤ k) (k1 : k + (intsK.nx xs : Int) ≤ 1000000000) :
    Calls Try.prog 28 #[v, .int .i64 k] w fun e w' => e = .returned (.int .i64 (k + (intsK.nx xs : Int))) ∧ intsK.ow w' A v (intsK.mr k xs) ∧ Keep A w w' := by
  obtain ⟨B, hr, hA⟩ := ints_wrow h
  rw [ints_nx] at k1 ⊢
  rw [ints_mr]
  by_cases e : xs = []
  · subst e
    have hr2 : WRow w w.heap.size v [] := by
      obtain ⟨a, cap, off, h1, h2, h3, hz, h4⟩ := hr
      exact ⟨a, cap, off, h1, h2, h3, hz, Or.inl rfl⟩
    refine (IntS.markIntS k [] w.heap.size v w hr2 k0 (by omega) (by simp)).mono ?_
    rintro e u ⟨rfl, q1, q2⟩
    refine ⟨rfl, ints_ow q1 (Or.inl rfl), ⟨q2.os, q2.tape, q2.output, q2.size, fun b hb _ => q2.block b hb (by omega)⟩⟩
  · have hA2 := hA.resolve_left e
    refine (IntS.markIntS k xs B v w hr k0 (by omega) (by omega)).mono ?_
    rintro e u ⟨rfl, q1, q2⟩
    exact ⟨rfl, ints_ow q1 (Or.inr hA2), (Keep.of_turn q2).mono (fun b _ (hb : b = B) => hb ▸ hA2)⟩
theorem heldIntS (xs : List Int) (k : Int) (v : Value) (w : World) (h : intsK.rd w v (intsK.mr k xs)) (k0 : 0 ≤ k) (k1 : k + (intsK.nx xs : Int) ≤ 1000000000) :
    Calls Try.prog 47 #[v, .int .i64 k] w fun e w' => e = .returned (.int .i64 (k + (intsK.nx xs : Int))) ∧ Below w.heap.size w w' := by
  rw [ints_mr] at h
  rw [ints_nx] at k1 ⊢
  obtain ⟨B, hr⟩ := ints_to h
  exact IntS.heldIntS k xs.length B v w hr k0 (by omega) (by omega)
theorem list_of {α : Type} {P : Nat → α → Prop} : ∀ n : Nat, (∀ i, i < n → ∃ x, P i x) → ∃ xs : List α, xs.length = n ∧ ∀ (i : Nat) x, xs[i]? = some x → P i x
  | 0, _ => ⟨[], rfl, fun i x h => by simp at h⟩
  | n + 1, h => by
    obtain ⟨xs, hl, hx⟩ := list_of n (fun i hi => h i (by omega))
    obtain ⟨y, hy⟩ := h n (by omega)
    refine ⟨xs ++ [y], by simp [hl], fun i x hi => ?_⟩
    by_cases e : i < n
    · rw [List.getElem?_append_left (by omega)] at hi
      exact hx i x hi
    · rw [List.getElem?_append_right (by omega)] at hi
      have : i = n := by
        have := (List.getElem?_eq_some_iff.1 hi).1
        simp at this; omega
      subst this
      rw [hl, Nat.sub_self] at hi
      obtain rfl := Option.some.inj (show some y = some x from hi)
      exact hy
theorem list_hold {β : Type} {R : Rw β} {P : Program} {w : World} {n : Nat} {T E : TypeId} {cs : List Value} (hu : P.underlying T = some (.slice E)) (hn : P.cellsOf E = R.n) (hpos : 0 < R.n) (h : Shape.Holds P w (n + 1) T cs) (hE : ∀ ys, Shape.Holds P w n E ys → ∃ x, R.rd w ys x) : ∃ v xs, cs = [v] ∧ LRd R w v xs := by
  rcases Shape.holds_slice (n := n) hu h with h | ⟨x, l, c, h, hl, hm, hx⟩
  · exact ⟨_, [], h, none, 0, 0, 0, rfl, Nat.le_refl _, by unfold maxLen; omega, fun _ => rfl, Or.inl rfl⟩
  · have hc (i : Nat) (hi : i < l) : ∃ y : β, ∃ ys, (∀ j, j < R.n → w.cell? (x.add (i * R.n + j)) = ys[j]?) ∧ ys.length = R.n ∧ R.rd w ys y := by
      obtain ⟨ys, h1, h2, h3⟩ := hx i (by omega)
      rw [hn] at h1 h2
      obtain ⟨y, hy⟩ := hE ys h3
      exact ⟨y, ys, h2, h1, hy⟩
    obtain ⟨xs, e, hxs⟩ := list_of l hc
    by_cases h0 : l = 0
    · subst h0
      exact ⟨_, [], h, some x, c, 0, 0, rfl, Nat.zero_le _, hm, (fun h => by cases h), Or.inl rfl⟩
    · obtain ⟨b, o, spot⟩ := x
      obtain ⟨_, ys, q1, q2, _⟩ := hc 0 (by omega)
      have hv0 := q1 0 (by omega)
      rw [List.getElem?_eq_getElem (by omega)] at hv0
      have hspot : spot = none := by simpa [Addr.add] using World.cell?_spot hv0
      subst hspot
      refine ⟨_, xs, h, some ⟨b, o, none⟩, c, b, o, by rw [e], by omega, hm, (fun h => by cases h), Or.inr ⟨rfl, fun i y hi => ?_⟩⟩
      obtain ⟨ys, q1, q2, q3⟩ := hxs i y hi
      refine ⟨ys, fun j v hv => ?_, q3⟩
      have hj := (List.getElem?_eq_some_iff.1 hv).1
      have := q1 j (by omega)
      rw [Go.WideShapes.add_plain] at this
      rw [Nat.add_assoc, this]
      exact hv
set_option maxRecDepth 8000 in
theorem intsK_hold {w : World} {n : Nat} {cs : List Value} (h : Shape.Holds Try.prog w (n + 2) 22 cs) : ∃ v xs, cs = [v] ∧ intsK.rd w v xs :=
  list_hold (R := leaf) (n := n + 1) Try.underlying22 (by kernel_rfl) (by decide) h (fun ys hy => by
    obtain ⟨v, e, _⟩ := Shape.holds_int (n := n) Try.underlying3 hy
    exact ⟨v, e⟩)
theorem three_fill {w u u' : World} {n : Nat} {A Z O O' : List Value} (h : Three w n A Z O u) (ht : Turn (n + 1 + 1) u u') (ho : Rec (n + 1 + 1) O' u') : Three w n A Z O' u' :=
  ⟨h.bw.trans (ht.below (by omega) (Nat.le_of_lt h.a.lt)), h.a.turn ht (by omega), h.z.turn ht (by omega), ho⟩
theorem intsK_len (k : Int) (xs : List Int) : (intsK.mr k xs).length = xs.length := markL_len xs k
theorem mr_len {β : Type} (R : Rw β) (k : Int) (xs : List β) : ((list R).mr k xs).length = xs.length := markL_len xs k
/-- A number that is not marked. -/
def keepleaf : Rw Int where
  n := 1
  lf := fun _ => True
  rd := fun _ cs x => cs = [.int .i64 x]
  ow := fun _ _ cs x => cs = [.int .i64 x]
  sz := fun _ => 0
  nx := fun _ => 0
  mr := fun _ x => x
  ln := fun h => by rw [h]; rfl
  rb := fun h _ => h
  od := fun h => h
  ok := fun h _ _ => h
  ov := fun h _ => h
/-- A number that is not marked, and more cells. -/
def keepi {β : Type} (R : Rw β) : Rw (Int × β) where
  n := R.n + 1
  lf := fun j => j = 0 ∨ R.lf (j - 1)
  rd := fun w cs x => ∃ vs, cs = .int .i64 x.1 :: vs ∧ R.rd w vs x.2
  ow := fun w A cs x => ∃ vs, cs = .int .i64 x.1 :: vs ∧ R.ow w A vs x.2
  sz := fun x => R.sz x.2
  nx := fun x => R.nx x.2
  mr := fun k x => (x.1, R.mr k x.2)
  ln := fun ⟨v, h, q⟩ => by rw [h, List.length_cons, R.ln q]
  rb := fun ⟨v, h, q⟩ hb => ⟨v, h, R.rb q hb⟩
  od := fun ⟨v, h, q⟩ => ⟨v, h, R.od q⟩
  ok := fun ⟨v, h, q⟩ hk hS => ⟨v, h, R.ok q hk hS⟩
  ov := fun ⟨v, h, q⟩ h1 => ⟨v, h, R.ov q h1⟩
end Go.Proofs.Ytlgpnogeoaoidaa.Dt
