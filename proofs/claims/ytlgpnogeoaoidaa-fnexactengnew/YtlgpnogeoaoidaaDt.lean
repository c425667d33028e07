/-
  Plain data of any depth: kinds of cells and of rows of cells, what it is to hold some, to own some, its size and its marks.
-/
import Derived.Test.YtlgpnogeoaoidaaRecR
namespace Go.Proofs.Ytlgpnogeoaoidaa.Dt
set_option linter.unusedVariables false
open Go.ChangeShapes Go.WideShapes Go.ChangeAt Go.RowKit IntS Pol
def CellsAt (w : World) (B p : Nat) (cs : List Value) : Prop := ∀ (j : Nat) v, cs[j]? = some v → w.cell? ⟨B, p + j, none⟩ = some v
theorem CellsAt.below {w w' : World} {B p : Nat} {cs : List Value} (h : CellsAt w B p cs) (hb : Below w.heap.size w w') : CellsAt w' B p cs := fun j v hv => cell_below hb (h j v hv)
theorem CellsAt.same {w w' : World} {B p : Nat} {cs : List Value} (h : CellsAt w B p cs) (e : w'.heap[B]? = w.heap[B]?) : CellsAt w' B p cs := fun j v hv => (World.cell?_of_block (w := w) (a := ⟨B, p + j, none⟩) e).trans (h j v hv)
/-- A kind of one cell that leads to a list. -/
structure Kd (α : Type) where
  rd : World → Value → α → Prop
  ow : World → (Nat → Prop) → Value → α → Prop
  sz : α → Nat
  nx : α → Nat
  mr : Int → α → α
  rb : ∀ {w w' : World} {v : Value} {x : α}, rd w v x → Below w.heap.size w w' → rd w' v x
  od : ∀ {w : World} {A : Nat → Prop} {v : Value} {x : α}, ow w A v x → rd w v x
  ok : ∀ {S A : Nat → Prop} {w w' : World} {v : Value} {x : α}, ow w A v x → Keep S w w' → (∀ b, A b → ¬ S b) → ow w' A v x
  ov : ∀ {w : World} {A A' : Nat → Prop} {v : Value} {x : α}, ow w A v x → (∀ b, A b → A' b) → ow w A' v x
/-- A kind of a row of cells: what a struct has, one behind the other. -/
structure Rw (β : Type) where
  n : Nat
  lf : Nat → Prop
  rd : World → List Value → β → Prop
  ow : World → (Nat → Prop) → List Value → β → Prop
  sz : β → Nat
  nx : β → Nat
  mr : Int → β → β
  ln : ∀ {w : World} {cs : List Value} {x : β}, rd w cs x → cs.length = n
  rb : ∀ {w w' : World} {cs : List Value} {x : β}, rd w cs x → Below w.heap.size w w' → rd w' cs x
  od : ∀ {w : World} {A : Nat → Prop} {cs : List Value} {x : β}, ow w A cs x → rd w cs x
  ok : ∀ {S A : Nat → Prop} {w w' : World} {cs : List Value} {x : β}, ow w A cs x → Keep S w w' → (∀ b, A b → ¬ S b) → ow w' A cs x
  ov : ∀ {w : World} {A A' : Nat → Prop} {cs : List Value} {x : β}, ow w A cs x → (∀ b, A b → A' b) → ow w A' cs x
theorem Kd.ob {α : Type} (K : Kd α) {A : Nat → Prop} {w w' : World} {v : Value} {x : α} (h : K.ow w A v x) (hb : Below w.heap.size w w') : K.ow w' A v x := K.ok h (Keep.of_below (S := fun _ => False) hb) (fun _ _ h => h)
theorem Rw.ob {α : Type} (K : Rw α) {A : Nat → Prop} {w w' : World} {v : List Value} {x : α} (h : K.ow w A v x) (hb : Below w.heap.size w w') : K.ow w' A v x := K.ok h (Keep.of_below (S := fun _ => False) hb) (fun _ _ h => h)
theorem Rw.ot {α : Type} (K : Rw α) {A : Nat → Prop} {T : Nat} {w w' : World} {v : List Value} {x : α} (h : K.ow w A v x) (ht : Turn T w w') (hT : ¬ A T) : K.ow w' A v x := K.ok h (Keep.of_turn ht) (fun b h1 (h3 : b = T) => hT (h3 ▸ h1))
theorem Kd.ot {α : Type} (K : Kd α) {A : Nat → Prop} {T : Nat} {w w' : World} {v : Value} {x : α} (h : K.ow w A v x) (ht : Turn T w w') (hT : ¬ A T) : K.ow w' A v x := K.ok h (Keep.of_turn ht) (fun b h1 (h3 : b = T) => hT (h3 ▸ h1))
/-- One number. -/
def leaf : Rw Int where
  n := 1
  lf := fun _ => True
  rd := fun _ cs x => cs = [.int .i64 x]
  ow := fun _ _ cs x => cs = [.int .i64 x]
  sz := fun _ => 0
  nx := fun _ => 1
  mr := fun k _ => k
  ln := fun h => by rw [h]; rfl
  rb := fun h _ => h
  od := fun h => h
  ok := fun h _ _ => h
  ov := fun h _ => h
/-- One cell that leads to a list. -/
def last {α : Type} (K : Kd α) : Rw α where
  n := 1
  lf := fun _ => False
  rd := fun w cs x => ∃ v, cs = [v] ∧ K.rd w v x
  ow := fun w A cs x => ∃ v, cs = [v] ∧ K.ow w A v x
  sz := K.sz
  nx := K.nx
  mr := K.mr
  ln := fun ⟨v, h, _⟩ => by rw [h]; rfl
  rb := fun ⟨v, h, q⟩ hb => ⟨v, h, K.rb q hb⟩
  od := fun ⟨v, h, q⟩ => ⟨v, h, K.od q⟩
  ok := fun ⟨v, h, q⟩ hk hS => ⟨v, h, K.ok q hk hS⟩
  ov := fun ⟨v, h, q⟩ h1 => ⟨v, h, K.ov q h1⟩
/-- A number, and more cells. -/
def int {β : Type} (R : Rw β) : Rw (Int × β) where
  n := R.n + 1
  lf := fun j => j = 0 ∨ R.lf (j - 1)
  rd := fun w cs x => ∃ vs, cs = .int .i64 x.1 :: vs ∧ R.rd w vs x.2
  ow := fun w A cs x => ∃ vs, cs = .int .i64 x.1 :: vs ∧ R.ow w A vs x.2
  sz := fun x => R.sz x.2
  nx := fun x => 1 + R.nx x.2
  mr := fun k x => (k, R.mr (k + 1) x.2)
  ln := fun ⟨v, h, q⟩ => by rw [h, List.length_cons, R.ln q]
  rb := fun ⟨v, h, q⟩ hb => ⟨v, h, R.rb q hb⟩
  od := fun ⟨v, h, q⟩ => ⟨v, h, R.od q⟩
  ok := fun ⟨v, h, q⟩ hk hS => ⟨v, h, R.ok q hk hS⟩
  ov := fun ⟨v, h, q⟩ h1 => ⟨v, h, R.ov q h1⟩
/-- A cell that leads to a list, and more cells. -/
def sub {α β : Type} (K : Kd α) (R : Rw β) : Rw (α × β) where
  n := R.n + 1
  lf := fun j => j ≠ 0 ∧ R.lf (j - 1)
  rd := fun w cs x => ∃ v vs, cs = v :: vs ∧ K.rd w v x.1 ∧ R.rd w vs x.2
  ow := fun w A cs x => ∃ (v : Value) (vs : List Value) (A1 A2 : Nat → Prop), cs = v :: vs ∧ (∀ b, A1 b → A b) ∧ (∀ b, A2 b → A b) ∧ (∀ b, A1 b → A2 b → False) ∧ K.ow w A1 v x.1 ∧ R.ow w A2 vs x.2
  sz := fun x => K.sz x.1 + R.sz x.2
  nx := fun x => K.nx x.1 + R.nx x.2
  mr := fun k x => (K.mr k x.1, R.mr (k + K.nx x.1) x.2)
  ln := fun ⟨v, vs, h, q, r⟩ => by rw [h, List.length_cons, R.ln r]
  rb := fun ⟨v, vs, h, q, r⟩ hb => ⟨v, vs, h, K.rb q hb, R.rb r hb⟩
  od := fun ⟨v, vs, A1, A2, h, _, _, _, q, r⟩ => ⟨v, vs, h, K.od q, R.od r⟩
  ok := fun ⟨v, vs, A1, A2, h, h1, h2, h3, q, r⟩ hk hS => ⟨v, vs, A1, A2, h, h1, h2, h3, K.ok q hk (fun b b1 => hS b (h1 b b1)), R.ok r hk (fun b b1 => hS b (h2 b b1))⟩
  ov := fun ⟨v, vs, A1, A2, h, h1, h2, h3, q, r⟩ k1 => ⟨v, vs, A1, A2, h, fun b hb => k1 b (h1 b hb), fun b hb => k1 b (h2 b hb), h3, q, r⟩
/-- The same row, as another type. -/
def via {β γ : Type} (f : γ → β) (g : β → γ) (R : Rw β) : Rw γ where
  n := R.n
  lf := R.lf
  rd := fun w cs x => R.rd w cs (f x)
  ow := fun w A cs x => R.ow w A cs (f x)
  sz := fun x => R.sz (f x)
  nx := fun x => R.nx (f x)
  mr := fun k x => g (R.mr k (f x))
  ln := R.ln
  rb := R.rb
  od := R.od
  ok := R.ok
  ov := R.ov
/-- How many of a list's first so many. -/
def sum {β : Type} (f : β → Nat) (xs : List β) : Nat := (xs.map f).sum
theorem sum_take {β : Type} {f : β → Nat} {xs : List β} {j : Nat} {x : β} (h : xs[j]? = some x) : sum f (xs.take (j + 1)) = sum f (xs.take j) + f x := by
  unfold sum
  rw [List.take_add_one, h]
  simp
theorem sum_le {β : Type} (f : β → Nat) (xs : List β) (j : Nat) : sum f (xs.take j) ≤ sum f xs := by
  have h : sum f xs = sum f (xs.take j) + sum f (xs.drop j) := by
    unfold sum
    conv => lhs; rw [← List.take_append_drop j xs]
    rw [List.map_append, List.sum_append]
  omega
theorem sum_one {β : Type} {f : β → Nat} {xs : List β} {j : Nat} {x : β} (h : xs[j]? = some x) : sum f (xs.take j) + f x ≤ sum f xs := by
  have h1 := sum_take (f := f) h
  have h2 := sum_le f xs (j + 1)
  omega
/-- A list that can be read. -/
def LRd {β : Type} (R : Rw β) (w : World) (v : Value) (xs : List β) : Prop :=
  ∃ (a : Option Addr) (cap B off : Nat), v = .slice a xs.length cap ∧ xs.length ≤ cap ∧ cap ≤ maxLen ∧ (a = none → cap = 0) ∧ (xs = [] ∨ (a = some ⟨B, off, none⟩ ∧ ∀ (i : Nat) x, xs[i]? = some x → ∃ cs, CellsAt w B (off + i * R.n) cs ∧ R.rd w cs x))
/-- A list in blocks of its own, all of a set; those of element i of the set E i. -/
structure LW {β : Type} (R : Rw β) (w : World) (A : Nat → Prop) (a : Option Addr) (G off cap : Nat) (E : Nat → Nat → Prop) (xs : List β) : Prop where
  le : xs.length ≤ cap
  mx : cap ≤ maxLen
  nl : a = none → cap = 0
  at_ : xs = [] ∨ (a = some ⟨G, off, none⟩ ∧ A G ∧ G < w.heap.size)
  cells : ∀ (i : Nat) x, xs[i]? = some x → ∃ cs, CellsAt w G (off + i * R.n) cs ∧ (∀ j, j < R.n → R.lf j → w.frozen? ⟨G, off + i * R.n + j, none⟩ = false) ∧ R.ow w (E i) cs x ∧ (∀ b, E i b → A b) ∧ ¬ E i G
  apart : ∀ i j : Nat, i < j → j < xs.length → ∀ b, E i b → E j b → False
def LOw {β : Type} (R : Rw β) (w : World) (A : Nat → Prop) (v : Value) (xs : List β) : Prop :=
  ∃ (a : Option Addr) (G off cap : Nat) (E : Nat → Nat → Prop), v = .slice a xs.length cap ∧ LW R w A a G off cap E xs
def markL {β : Type} (R : Rw β) (k : Int) (xs : List β) : List β := xs.mapIdx fun j x => R.mr (k + (sum R.nx (xs.take j) : Int)) x
def mixL {β : Type} (R : Rw β) (k : Int) (xs : List β) (n : Nat) : List β := xs.mapIdx fun j x => if j < n then R.mr (k + (sum R.nx (xs.take j) : Int)) x else x
section
variable {β : Type} {R : Rw β} {w w' : World}
theorem markL_at {xs : List β} {k : Int} {j : Nat} {x : β} (h : xs[j]? = some x) : (markL R k xs)[j]? = some (R.mr (k + (sum R.nx (xs.take j) : Int)) x) := by unfold markL; rw [List.getElem?_mapIdx, h]; rfl
theorem mixL_at {xs : List β} {k : Int} {n j : Nat} {x : β} (h : xs[j]? = some x) : (mixL R k xs n)[j]? = some (if j < n then R.mr (k + (sum R.nx (xs.take j) : Int)) x else x) := by unfold mixL; rw [List.getElem?_mapIdx, h]; rfl
theorem mixL_none {xs : List β} {k : Int} {n j : Nat} (h : xs[j]? = none) : (mixL R k xs n)[j]? = none := by unfold mixL; rw [List.getElem?_mapIdx, h]; rfl
theorem mixL_len (xs : List β) (k : Int) (n : Nat) : (mixL R k xs n).length = xs.length := by unfold mixL; rw [List.length_mapIdx]
theorem markL_len (xs : List β) (k : Int) : (markL R k xs).length = xs.length := by unfold markL; rw [List.length_mapIdx]
theorem mixL_zero (xs : List β) (k : Int) : mixL R k xs 0 = xs := by
  apply List.ext_getElem?
  intro i
  cases h : xs[i]? with
  | none => rw [mixL_none h]
  | some x => rw [mixL_at h, if_neg (by omega)]
theorem mixL_whole (xs : List β) (k : Int) : mixL R k xs xs.length = markL R k xs := by
  apply List.ext_getElem?
  intro i
  cases h : xs[i]? with
  | none => rw [mixL_none h]; unfold markL; rw [List.getElem?_mapIdx, h]; rfl
  | some x => rw [mixL_at h, markL_at h, if_pos (List.getElem?_eq_some_iff.1 h).1]
theorem mixL_next {xs : List β} {k : Int} {n : Nat} {x : β} (h : xs[n]? = some x) : (mixL R k xs n).set n (R.mr (k + (sum R.nx (xs.take n) : Int)) x) = mixL R k xs (n + 1) := by
  apply List.ext_getElem?
  intro i
  by_cases e : n = i
  · subst e
    rw [List.getElem?_set_self (by rw [mixL_len]; exact (List.getElem?_eq_some_iff.1 h).1), mixL_at h, if_pos (by omega)]
  · rw [List.getElem?_set_ne e]
    cases g : xs[i]? with
    | none => rw [mixL_none g, mixL_none g]
    | some y =>
      rw [mixL_at g, mixL_at g]
      by_cases e2 : i < n
      · rw [if_pos e2, if_pos (by omega)]
      · rw [if_neg e2, if_neg (by omega)]
theorem LRd.below {v : Value} {xs : List β} (h : LRd R w v xs) (hb : Below w.heap.size w w') : LRd R w' v xs := by
  obtain ⟨a, cap, B, off, h1, h2, h3, hz, h4⟩ := h
  exact ⟨a, cap, B, off, h1, h2, h3, hz, h4.imp id fun ⟨e, q⟩ => ⟨e, fun i x hx => let ⟨cs, c1, c2⟩ := q i x hx; ⟨cs, c1.below hb, R.rb c2 hb⟩⟩⟩
theorem LW.keep {S A : Nat → Prop} {a : Option Addr} {G off cap : Nat} {E : Nat → Nat → Prop} {xs : List β} (q : LW R w A a G off cap E xs) (hk : Keep S w w') (hS : ∀ b, A b → ¬ S b) : LW R w' A a G off cap E xs := by
  refine ⟨q.le, q.mx, q.nl, q.at_.imp id (fun q => ⟨q.1, q.2.1, Nat.lt_of_lt_of_le q.2.2 hk.size⟩), fun i x hx => ?_, q.apart⟩
  obtain ⟨cs, k1, k2, k3, k4, k5⟩ := q.cells i x hx
  have hG := q.at_.resolve_left (fun e => by rw [e] at hx; simp at hx)
  have e := hk.block G hG.2.2 (hS G hG.2.1)
  exact ⟨cs, k1.same e, fun j hj hf => (World.frozen?_of_block (w := w) (a := ⟨G, off + i * R.n + j, none⟩) e).trans (k2 j hj hf), R.ok k3 hk (fun b b1 => hS b (k4 b b1)), k4, k5⟩
theorem LW.wide {A A' : Nat → Prop} {a : Option Addr} {G off cap : Nat} {E : Nat → Nat → Prop} {xs : List β} (q : LW R w A a G off cap E xs) (hA : ∀ b, A b → A' b) : LW R w A' a G off cap E xs := by
  refine ⟨q.le, q.mx, q.nl, q.at_.imp id (fun q => ⟨q.1, hA _ q.2.1, q.2.2⟩), fun i x hx => ?_, q.apart⟩
  obtain ⟨cs, k1, k2, k3, k4, k5⟩ := q.cells i x hx
  exact ⟨cs, k1, k2, k3, fun b hb => hA b (k4 b hb), k5⟩
theorem LW.read {A : Nat → Prop} {a : Option Addr} {G off cap : Nat} {E : Nat → Nat → Prop} {xs : List β} (q : LW R w A a G off cap E xs) : LRd R w (.slice a xs.length cap) xs :=
  ⟨a, cap, G, off, rfl, q.le, q.mx, q.nl, q.at_.imp id (fun e => ⟨e.1, fun i x hx => by
    obtain ⟨cs, k1, k2, k3, _⟩ := q.cells i x hx
    exact ⟨cs, k1, R.od k3⟩⟩)⟩
/-- No more than block G, one row of it, and what is behind that turned. -/
theorem LW.mark {A : Nat → Prop} {a : Option Addr} {G off cap : Nat} {E : Nat → Nat → Prop} {xs : List β} (h : LW R w A a G off cap E xs) {j : Nat} {x x' : β} (ht : xs[j]? = some x) {cs : List Value}
    (hk : Keep (fun b => b = G ∨ E j b) w w') (hc : CellsAt w' G (off + j * R.n) cs) (far : ∀ o, (o < off + j * R.n ∨ off + j * R.n + R.n ≤ o) → w'.cell? ⟨G, o, none⟩ = w.cell? ⟨G, o, none⟩) (fr : ∀ o, w'.frozen? ⟨G, o, none⟩ = w.frozen? ⟨G, o, none⟩)
    (hx : R.ow w' (E j) cs x') : LW R w' A a G off cap E (xs.set j x') := by
  have hj := (List.getElem?_eq_some_iff.1 ht).1
  have hG := h.at_.resolve_left (fun e => by rw [e] at ht; simp at ht)
  refine ⟨by rw [List.length_set]; exact h.le, h.mx, h.nl, Or.inr ⟨hG.1, hG.2.1, Nat.lt_of_lt_of_le hG.2.2 hk.size⟩, fun i y hi => ?_, fun i i' e e' => h.apart i i' e (by rw [List.length_set] at e'; exact e')⟩
  by_cases e : j = i
  · subst e
    rw [List.getElem?_set_self hj] at hi
    obtain rfl := Option.some.inj hi
    obtain ⟨_, _, k2, _, k4⟩ := h.cells j x ht
    exact ⟨cs, hc, fun d hd hf => (fr _).trans (k2 d hd hf), hx, k4⟩
  · rw [List.getElem?_set_ne e] at hi
    have hil := (List.getElem?_eq_some_iff.1 hi).1
    obtain ⟨cs', k1, k2, k3, k4, k5⟩ := h.cells i y hi
    have hl := R.ln (R.od k3)
    refine ⟨cs', fun d v hv => ?_, fun d hd hf => (fr _).trans (k2 d hd hf), R.ok k3 hk (fun b h1 h3 => ?_), k4, k5⟩
    · have hd := (List.getElem?_eq_some_iff.1 hv).1
      refine (far _ ?_).trans (k1 d v hv)
      rcases Nat.lt_or_gt_of_ne e with e2 | e2
      · right
        have : (j + 1) * R.n ≤ i * R.n := Nat.mul_le_mul_right _ e2
        rw [Nat.succ_mul] at this
        omega
      · left
        have : (i + 1) * R.n ≤ j * R.n := Nat.mul_le_mul_right _ e2
        rw [Nat.succ_mul] at this
        omega
    · rcases h3 with h3 | h3
      · exact k5 (h3 ▸ h1)
      · rcases Nat.lt_or_gt_of_ne e with e2 | e2
        · exact h.apart j i e2 hil b h3 h1
        · exact h.apart i j e2 hj b h1 h3
end
/-- A list of rows. -/
def list {β : Type} (R : Rw β) : Kd (List β) where
  rd := LRd R
  ow := LOw R
  sz := fun xs => xs.length + sum R.sz xs
  nx := fun xs => sum R.nx xs
  mr := fun k xs => markL R k xs
  rb := LRd.below
  od := fun ⟨a, G, off, cap, E, e, q⟩ => by rw [e]; exact q.read
  ok := fun ⟨a, G, off, cap, E, e, q⟩ hk hS => ⟨a, G, off, cap, E, e, q.keep hk hS⟩
  ov := fun ⟨a, G, off, cap, E, e, q⟩ h1 => ⟨a, G, off, cap, E, e, q.wide h1⟩
theorem LOw.nil {β : Type} (R : Rw β) (w : World) (A : Nat → Prop) : LOw R w A (.slice none 0 0) [] := ⟨none, 0, 0, 0, fun _ _ => False, rfl, Nat.le_refl _, by unfold maxLen; omega, fun _ => rfl, Or.inl rfl, fun i x hx => by simp at hx, fun i j _ hj => by simp at hj⟩
/-- Cells that are stored one behind the other. -/
def setN (w : World) (B p : Nat) : List Value → World
  | [] => w
  | v :: vs => setN (w.setCell ⟨B, p, none⟩ v) B (p + 1) vs
theorem off_ne {B i j : Nat} (h : i ≠ j) : (⟨B, i, none⟩ : Addr) ≠ ⟨B, j, none⟩ := fun e => h (congrArg Addr.off e)
theorem setCell_size (w : World) (p : Addr) (x : Value) : (w.setCell p x).heap.size = w.heap.size := by simp [World.setCell]
theorem setN_size : ∀ (cs : List Value) (w : World) (B p : Nat), (setN w B p cs).heap.size = w.heap.size
  | [], _, _, _ => rfl
  | v :: vs, w, B, p => by unfold setN; rw [setN_size vs, setCell_size]
theorem setN_turn : ∀ (cs : List Value) (w : World) (B p : Nat), Turn B w (setN w B p cs)
  | [], w, B, _ => Turn.refl B w
  | v :: vs, w, B, p => by unfold setN; exact ((Turn.refl B w).setCell (p := ⟨B, p, none⟩) rfl v).trans (setN_turn vs _ B (p + 1))
theorem setN_soft : ∀ (cs : List Value) (w : World) (B p : Nat) (q : Addr), (setN w B p cs).frozen? q = w.frozen? q
  | [], _, _, _, _ => rfl
  | v :: vs, w, B, p, q => by unfold setN; rw [setN_soft vs, World.frozen?_setCell]
theorem setN_far : ∀ (cs : List Value) (w : World) (B p : Nat) (q : Addr), (∀ i, i < cs.length → q ≠ ⟨B, p + i, none⟩) → (setN w B p cs).cell? q = w.cell? q
  | [], _, _, _, _, _ => rfl
  | v :: vs, w, B, p, q, h => by
    unfold setN
    rw [setN_far vs _ B (p + 1) q (fun i hi => by have := h (i + 1) (by simp; omega); rw [show p + 1 + i = p + (i + 1) by omega]; exact this), World.cell?_setCell_other _ _ _ _ (fun e => h 0 (by simp) (by rw [Nat.add_zero]; exact e.symm))]
theorem setN_cells : ∀ (cs : List Value) (w : World) (B p : Nat), (∀ i, i < cs.length → ∃ y, w.cell? ⟨B, p + i, none⟩ = some y) → CellsAt (setN w B p cs) B p cs
  | [], _, _, _, _ => fun j v hv => by simp at hv
  | v :: vs, w, B, p, h => fun j u hu => by
    unfold setN
    obtain ⟨y, hy⟩ := h 0 (by simp)
    cases j with
    | zero =>
      obtain rfl := Option.some.inj (show some v = some u from hu)
      rw [setN_far vs _ B (p + 1) _ (fun i hi => off_ne (by omega))]
      exact World.cell?_setCell_same _ _ _ hy
    | succ j =>
      have := setN_cells vs (w.setCell ⟨B, p, none⟩ v) B (p + 1) (fun i hi => by
        obtain ⟨z, hz⟩ := h (i + 1) (by simp; omega)
        rw [show p + 1 + i = p + (i + 1) by omega]
        exact ⟨z, (World.cell?_setCell_other _ _ _ _ (off_ne (by omega))).trans hz⟩) j u (by simpa using hu)
      rw [show p + 1 + j = p + (j + 1) by omega] at this
      exact this
/-- The blocks that are new. -/
def New (w w' : World) (b : Nat) : Prop := w.heap.size ≤ b ∧ b < w'.heap.size
/-- Where a list has been filled up to a place. -/
structure Fill {β : Type} (R : Rw β) (w : World) (n : Nat) (xs : List β) (j : Nat) (u : World) : Prop where
  below : Below w.heap.size w u
  lt : w.heap.size < u.heap.size
  done : ∃ E : Nat → Nat → Prop, (∀ (i : Nat) x, i < j → xs[i]? = some x → ∃ cs, CellsAt u w.heap.size (i * R.n) cs ∧ R.ow u (E i) cs x ∧ ∀ b, E i b → w.heap.size < b ∧ b < u.heap.size) ∧ ∀ i i', i < i' → i' < j → ∀ b, E i b → E i' b → False
  left : ∀ i, i < n * R.n → ∃ y, u.cell? ⟨w.heap.size, i, none⟩ = some y
  soft : ∀ i, i < n * R.n → u.frozen? ⟨w.heap.size, i, none⟩ = false
theorem Fill.new {β : Type} (R : Rw β) (w : World) (n : Nat) (xs : List β) (t : TypeId) (zs : Array Value) (hz : zs.size = R.n) : Fill R w n xs 0 (w.alloc (.cells (madeCells zs (n * R.n)) t)) := by
  refine ⟨(Below.refl _ _).alloc (Nat.le_refl _) _, by simp, ⟨fun _ _ => False, fun i x hi => by omega, fun i i' _ hi => by omega⟩, fun i hi => ?_, fun i hi => by simp⟩
  rw [World.cell?_alloc_new]
  have : i < (madeCells zs (n * R.n)).size := by rw [size_madeCells]; exact hi
  exact ⟨_, Array.getElem?_eq_getElem this⟩
theorem row_le {i j n m : Nat} (h : i < j) : i * m + m ≤ j * m := by
  have : (i + 1) * m ≤ j * m := Nat.mul_le_mul_right _ h
  rw [Nat.succ_mul] at this
  exact this
theorem Fill.next {β : Type} {R : Rw β} {w u u' : World} {n j : Nat} {xs : List β} {x : β} {cs : List Value} (h : Fill R w n xs j u) (hj : j < n) (ht : xs[j]? = some x) (hb : Below u.heap.size u u') (hx : R.ow u' (New u u') cs x) :
    Fill R w n xs (j + 1) (setN u' w.heap.size (j * R.n) cs) := by
  have hl := h.lt
  have hs := hb.size
  have hc := R.ln (R.od hx)
  have rj := row_le (n := n) (m := R.n) hj
  have N := setN_cells cs u' w.heap.size (j * R.n) (fun i hi => by
    obtain ⟨y, hy⟩ := h.left (j * R.n + i) (by omega)
    exact ⟨y, cell_below hb hy⟩)
  have F := setN_far cs u' w.heap.size (j * R.n)
  have S := setN_soft cs u' w.heap.size (j * R.n)
  have U := setN_turn cs u' w.heap.size (j * R.n)
  have Z := setN_size cs u' w.heap.size (j * R.n)
  have BB : Below w.heap.size w (setN u' w.heap.size (j * R.n) cs) := (h.below.trans (hb.mono h.below.size)).trans (U.below (Nat.le_refl _) (by omega))
  generalize setN u' w.heap.size (j * R.n) cs = V at *
  obtain ⟨E, hd, hinc⟩ := h.done
  refine ⟨BB, by rw [Z]; omega, ⟨fun i => if i < j then E i else New u u', fun i z hi hz => ?_, fun i i' hi hi' b h1 h2 => ?_⟩, fun i hi => ?_, fun i hi => ?_⟩
  · by_cases e : i < j
    · simp only [if_pos e]
      obtain ⟨ds, k1, k2, k3⟩ := hd i z e hz
      have hdl := R.ln (R.od k2)
      have ri := row_le (n := n) (m := R.n) e
      refine ⟨ds, fun d v hv => ?_, R.ot (R.ob k2 hb) U (fun q => by have := (k3 _ q).1; omega), fun b hb2 => ⟨(k3 b hb2).1, by rw [Z]; have := (k3 b hb2).2; omega⟩⟩
      have hdd := (List.getElem?_eq_some_iff.1 hv).1
      exact (F _ (fun k hk => off_ne (by omega))).trans (cell_below hb (k1 d v hv))
    · obtain rfl : i = j := by omega
      rw [ht] at hz
      obtain rfl := Option.some.inj hz
      simp only [if_neg e]
      exact ⟨cs, N, R.ot hx U (fun q => by have := q.1; omega), fun b hb2 => ⟨by have := hb2.1; omega, by rw [Z]; exact hb2.2⟩⟩
  · by_cases e' : i' < j
    · simp only [if_pos e', if_pos (show i < j by omega)] at h1 h2
      exact hinc i i' hi e' b h1 h2
    · have : i < j := by omega
      simp only [if_neg e', if_pos this] at h1 h2
      obtain ⟨z, hz⟩ : ∃ z, xs[i]? = some z := ⟨_, List.getElem?_eq_getElem (by have := (List.getElem?_eq_some_iff.1 ht).1; omega)⟩
      obtain ⟨_, _, _, k3⟩ := hd i z (by omega) hz
      have := (k3 b h1).2
      have := h2.1
      omega
  · by_cases q : j * R.n ≤ i ∧ i < j * R.n + R.n
    · have := N (i - j * R.n) _ (List.getElem?_eq_getElem (by omega))
      rw [show j * R.n + (i - j * R.n) = i by omega] at this
      exact ⟨_, this⟩
    · rw [F _ (fun k hk => off_ne (by omega))]
      obtain ⟨y, hy⟩ := h.left i hi
      exact ⟨y, cell_below hb hy⟩
  · rw [S]
    have e := hb.block w.heap.size h.lt
    rw [World.frozen?_of_block (w := u) (a := ⟨w.heap.size, i, none⟩) e]
    exact h.soft i hi
theorem Fill.whole {β : Type} {R : Rw β} {w u : World} {n : Nat} {xs : List β} (h : Fill R w n xs n u) (hn : xs.length = n) (hm : n ≤ maxLen) : LOw R u (New w u) (.slice (some ⟨w.heap.size, 0, none⟩) n n) xs := by
  obtain ⟨E, hd, hinc⟩ := h.done
  refine ⟨some ⟨w.heap.size, 0, none⟩, w.heap.size, 0, n, E, by rw [hn], by omega, hm, (fun h => by cases h), Or.inr ⟨rfl, ⟨Nat.le_refl _, h.lt⟩, h.lt⟩, fun i x hx => ?_, fun i j hij hj => hinc i j hij (by omega)⟩
  have hi : i < n := by rw [← hn]; exact (List.getElem?_eq_some_iff.1 hx).1
  obtain ⟨cs, k1, k2, k3⟩ := hd i x hi hx
  have ri := row_le (n := n) (m := R.n) hi
  exact ⟨cs, by rw [Nat.zero_add]; exact k1, fun j hj _ => h.soft _ (by omega), k2, fun b hb => ⟨by have := (k3 b hb).1; omega, (k3 b hb).2⟩, fun q => by have := (k3 _ q).1; omega⟩
/-- A row of block G that is being written; all else of the block is as it was. -/
structure RowAt (w0 w : World) (G p n : Nat) (cs : List Value) : Prop where
  lt : G < w.heap.size
  at_ : CellsAt w G p cs
  len : cs.length = n
  far : ∀ o, (o < p ∨ p + n ≤ o) → w.cell? ⟨G, o, none⟩ = w0.cell? ⟨G, o, none⟩
  fr : ∀ o, w.frozen? ⟨G, o, none⟩ = w0.frozen? ⟨G, o, none⟩
theorem RowAt.set {w0 w : World} {G p n f q : Nat} {cs cs' : List Value} (h : RowAt w0 w G p n cs) (hf : f < n) (v : Value) (hq : q = p + f) (he : cs.set f v = cs') : RowAt w0 (w.setCell ⟨G, q, none⟩ v) G p n cs' := by
  subst hq
  subst he
  obtain ⟨y, hy⟩ : ∃ y, cs[f]? = some y := ⟨_, List.getElem?_eq_getElem (by rw [h.len]; exact hf)⟩
  refine ⟨by rw [setCell_size]; exact h.lt, fun j u hu => ?_, by rw [List.length_set]; exact h.len, fun o ho => ?_, fun o => (World.frozen?_setCell ..).trans (h.fr o)⟩
  · by_cases e : f = j
    · subst e
      rw [List.getElem?_set_self (by rw [h.len]; exact hf)] at hu
      obtain rfl := Option.some.inj hu
      exact World.cell?_setCell_same _ _ _ (h.at_ f y hy)
    · rw [List.getElem?_set_ne e] at hu
      rw [World.cell?_setCell_other _ _ _ _ (off_ne (by omega))]
      exact h.at_ j u hu
  · rw [World.cell?_setCell_other _ _ _ _ (off_ne (by omega))]
    exact h.far o ho
theorem RowAt.keep {S : Nat → Prop} {w0 w w' : World} {G p n : Nat} {cs : List Value} (h : RowAt w0 w G p n cs) (hk : Keep S w w') (hG : ¬ S G) : RowAt w0 w' G p n cs := by
  have e := hk.block G h.lt hG
  exact ⟨Nat.lt_of_lt_of_le h.lt hk.size, h.at_.same e, h.len, fun o ho => (World.cell?_of_block (w := w) (a := ⟨G, o, none⟩) e).trans (h.far o ho), fun o => (World.frozen?_of_block (w := w) (a := ⟨G, o, none⟩) e).trans (h.fr o)⟩
end Go.Proofs.Ytlgpnogeoaoidaa.Dt
