/-
  Slices of sums: what it is that one holds them, that the call made one; contracts of the laws' own eqTrmPolyS, markTrmPolyS, heldTrmPolyS.
-/
import Derived.Test.YtlgpnogeoaoidaaPolP
import Derived.Test.YtlgpnogeoaoidaaPolK
namespace Go.Proofs.Ytlgpnogeoaoidaa.Pol
set_option linter.unusedVariables false
set_option linter.unusedSimpArgs false
open Go.ChangeShapes Go.WideShapes Go.ChangeAt Go.RowKit IntS
/-- A slice that holds sums. -/
structure QRow (w : World) (B : Nat) (v : Value) (qs : List (List Mono)) : Prop where
  ex : ∃ a cap off, v = .slice a qs.length cap ∧ qs.length ≤ cap ∧ cap ≤ maxLen ∧ (a = none → cap = 0) ∧ (qs = [] ∨ (a = some ⟨B, off, none⟩ ∧ ∀ (i : Nat) p, qs[i]? = some p → ∃ q c b, w.cell? ⟨B, off + i, none⟩ = some (.slice q p.length c) ∧ PRow w b (.slice q p.length c) p))
theorem QRow.below {w w' : World} {B : Nat} {v : Value} {qs : List (List Mono)} (h : QRow w B v qs) (hb : Below w.heap.size w w') : QRow w' B v qs := by
  obtain ⟨a, cap, off, h1, h2, h3, hz, h4⟩ := h
  refine ⟨a, cap, off, h1, h2, h3, hz, h4.imp id fun ⟨e, q⟩ => ⟨e, fun i p hp => ?_⟩⟩
  obtain ⟨x, c, b, k1, k2⟩ := q i p hp
  exact ⟨x, c, b, cell_below hb k1, k2.below hb⟩
/-- Sums whose lists lie in blocks of their own, from block lo on, below hi. -/
structure WQ (w : World) (lo hi : Nat) (a : Option Addr) (G cap : Nat) (l h : Nat → Nat) (s : Nat → Value) (qs : List (List Mono)) : Prop where
  le : qs.length ≤ cap
  mx : cap ≤ maxLen
  nl : a = none → cap = 0
  at_ : qs = [] ∨ (a = some ⟨G, 0, none⟩ ∧ lo ≤ G ∧ G < hi ∧ G < w.heap.size)
  cells : ∀ (i : Nat) p, qs[i]? = some p → w.cell? ⟨G, i, none⟩ = some (s i) ∧ WPoly w (l i) (h i) (s i) p ∧ lo ≤ l i ∧ l i ≤ h i ∧ h i ≤ hi ∧ (h i ≤ G ∨ G < l i)
  apart : ∀ i j : Nat, i < j → j < qs.length → h i ≤ l j
structure WSums (w : World) (lo hi : Nat) (v : Value) (qs : List (List Mono)) : Prop where
  ex : ∃ (a : Option Addr) (G cap : Nat) (l h : Nat → Nat) (s : Nat → Value), v = .slice a qs.length cap ∧ WQ w lo hi a G cap l h s qs
theorem WSums.read {w : World} {lo hi : Nat} {v : Value} {qs : List (List Mono)} (h : WSums w lo hi v qs) : ∃ B, QRow w B v qs := by
  obtain ⟨a, G, cap, l, hh, s, h1, h⟩ := h
  refine ⟨G, a, cap, 0, h1, h.le, h.mx, h.nl, h.at_.imp id (fun q => ⟨q.1, fun i p hp => ?_⟩)⟩
  obtain ⟨k1, k2, _⟩ := h.cells i p hp
  obtain ⟨b, r⟩ := k2.read
  obtain ⟨q', _, c, _, _, e1, _⟩ := k2
  rw [e1] at k1 r
  rw [Nat.zero_add]
  exact ⟨q', c, b, k1, r⟩
theorem WQ.keep {S : Nat → Prop} {w w' : World} {lo hi : Nat} {a : Option Addr} {G cap : Nat} {l h : Nat → Nat} {s : Nat → Value} {qs : List (List Mono)} (q : WQ w lo hi a G cap l h s qs) (hk : Keep S w w') (hS : ∀ b, lo ≤ b → b < hi → ¬ S b) : WQ w' lo hi a G cap l h s qs := by
  refine ⟨q.le, q.mx, q.nl, q.at_.imp id (fun q => ⟨q.1, q.2.1, q.2.2.1, Nat.lt_of_lt_of_le q.2.2.2 hk.size⟩), fun i p hp => ?_, q.apart⟩
  obtain ⟨k1, k2, k3, k4, k5, k6⟩ := q.cells i p hp
  have hG := q.at_.resolve_left (fun e => by rw [e] at hp; simp at hp)
  have e := hk.block G hG.2.2.2 (hS G hG.2.1 hG.2.2.1)
  exact ⟨(World.cell?_of_block (w := w) (a := ⟨G, i, none⟩) e).trans k1, k2.keep hk (fun b h1 h2 => hS b (by omega) (by omega)), k3, k4, k5, k6⟩
theorem WSums.keep {S : Nat → Prop} {w w' : World} {lo hi : Nat} {v : Value} {qs : List (List Mono)} (q : WSums w lo hi v qs) (hk : Keep S w w') (hS : ∀ b, lo ≤ b → b < hi → ¬ S b) : WSums w' lo hi v qs := by
  obtain ⟨a, G, cap, l, h, s, h1, h2⟩ := q
  exact ⟨a, G, cap, l, h, s, h1, h2.keep hk hS⟩
theorem WSums.below {w w' : World} {lo hi : Nat} {v : Value} {qs : List (List Mono)} (h : WSums w lo hi v qs) (hb : Below w.heap.size w w') : WSums w' lo hi v qs := h.keep (Keep.of_below (S := fun _ => False) hb) (fun _ _ _ h => h)
theorem WSums.wide {w : World} {lo hi lo' hi' : Nat} {v : Value} {qs : List (List Mono)} (q : WSums w lo hi v qs) (hl : lo' ≤ lo) (hh : hi ≤ hi') : WSums w lo' hi' v qs := by
  obtain ⟨a, G, cap, l, h, s, h1, q⟩ := q
  refine ⟨a, G, cap, l, h, s, h1, q.le, q.mx, q.nl, q.at_.imp id (fun q => ⟨q.1, by omega, by omega, q.2.2.2⟩), fun i p hp => ?_, q.apart⟩
  obtain ⟨k1, k2, k3, k4, k5, k6⟩ := q.cells i p hp
  exact ⟨k1, k2, by omega, k4, by omega, k6⟩
theorem WQ.mark {w w' : World} {lo hi : Nat} {a : Option Addr} {G cap : Nat} {l h : Nat → Nat} {s : Nat → Value} {qs : List (List Mono)} (q : WQ w lo hi a G cap l h s qs) {j : Nat} {p p' : List Mono} (hp : qs[j]? = some p) (hk : Keep (fun b => l j ≤ b ∧ b < h j) w w') (hx : WPoly w' (l j) (h j) (s j) p') : WQ w' lo hi a G cap l h s (qs.set j p') := by
  have hj := (List.getElem?_eq_some_iff.1 hp).1
  have hG := q.at_.resolve_left (fun e => by rw [e] at hp; simp at hp)
  obtain ⟨_, _, q1, q2, q3, q4⟩ := q.cells j p hp
  have e := hk.block G hG.2.2.2 (fun h3 => by omega)
  refine ⟨by rw [List.length_set]; exact q.le, q.mx, q.nl, Or.inr ⟨hG.1, hG.2.1, hG.2.2.1, Nat.lt_of_lt_of_le hG.2.2.2 hk.size⟩, fun i x hi => ?_, fun i i' e e' => q.apart i i' e (by rw [List.length_set] at e'; exact e')⟩
  by_cases ej : j = i
  · subst ej
    rw [List.getElem?_set_self hj] at hi
    obtain rfl := Option.some.inj hi
    obtain ⟨k1, _, k3⟩ := q.cells j p hp
    exact ⟨(World.cell?_of_block (w := w) (a := ⟨G, j, none⟩) e).trans k1, hx, k3⟩
  · rw [List.getElem?_set_ne ej] at hi
    have hil := (List.getElem?_eq_some_iff.1 hi).1
    obtain ⟨k1, k2, k3, k4, k5, k6⟩ := q.cells i x hi
    have hap : h i ≤ l j ∨ h j ≤ l i := by
      by_cases e2 : i < j
      · exact Or.inl (q.apart i j e2 hj)
      · exact Or.inr (q.apart j i (by omega) hil)
    exact ⟨(World.cell?_of_block (w := w) (a := ⟨G, i, none⟩) e).trans k1, k2.keep hk (fun b h1 h2 h3 => by omega), k3, k4, k5, k6⟩
def totQ (qs : List (List Mono)) : Nat := (qs.map fun p => p.length + tot p).sum
def offQ (qs : List (List Mono)) (j : Nat) : Int := (totQ (qs.take j) : Int)
theorem totQ_take {qs : List (List Mono)} {j : Nat} {p : List Mono} (h : qs[j]? = some p) : totQ (qs.take (j + 1)) = totQ (qs.take j) + (p.length + tot p) := by
  unfold totQ
  rw [List.take_add_one, h]
  simp
theorem totQ_le (qs : List (List Mono)) (j : Nat) : totQ (qs.take j) ≤ totQ qs := by
  have h : totQ qs = totQ (qs.take j) + totQ (qs.drop j) := by
    unfold totQ
    conv => lhs; rw [← List.take_append_drop j qs]
    rw [List.map_append, List.sum_append]
  omega
theorem totQ_one {qs : List (List Mono)} {j : Nat} {p : List Mono} (h : qs[j]? = some p) : p.length + tot p ≤ totQ qs := by
  have h1 := totQ_take h
  have h2 := totQ_le qs (j + 1)
  omega
def markQ (qs : List (List Mono)) (k : Int) : List (List Mono) := qs.mapIdx fun j p => markP p (k + offQ qs j)
def mixQ (qs : List (List Mono)) (k : Int) (n : Nat) : List (List Mono) := qs.mapIdx fun j p => if j < n then markP p (k + offQ qs j) else p
theorem markQ_at {qs : List (List Mono)} {k : Int} {j : Nat} {p : List Mono} (h : qs[j]? = some p) : (markQ qs k)[j]? = some (markP p (k + offQ qs j)) := by unfold markQ; rw [List.getElem?_mapIdx, h]; rfl
theorem mixQ_at {qs : List (List Mono)} {k : Int} {n j : Nat} {p : List Mono} (h : qs[j]? = some p) : (mixQ qs k n)[j]? = some (if j < n then markP p (k + offQ qs j) else p) := by unfold mixQ; rw [List.getElem?_mapIdx, h]; rfl
theorem mixQ_len (qs : List (List Mono)) (k : Int) (n : Nat) : (mixQ qs k n).length = qs.length := by unfold mixQ; rw [List.length_mapIdx]
theorem markQ_len (qs : List (List Mono)) (k : Int) : (markQ qs k).length = qs.length := by unfold markQ; rw [List.length_mapIdx]
theorem mixQ_zero (qs : List (List Mono)) (k : Int) : mixQ qs k 0 = qs := by
  apply List.ext_getElem?
  intro j
  unfold mixQ
  rw [List.getElem?_mapIdx]
  cases qs[j]? <;> simp
theorem mixQ_whole (qs : List (List Mono)) (k : Int) : mixQ qs k qs.length = markQ qs k := by
  apply List.ext_getElem?
  intro j
  unfold mixQ markQ
  rw [List.getElem?_mapIdx, List.getElem?_mapIdx]
  cases e : qs[j]? with
  | none => rfl
  | some p =>
    have hj := (List.getElem?_eq_some_iff.1 e).1
    simp [hj]
theorem mixQ_next {qs : List (List Mono)} {k : Int} {n : Nat} {p : List Mono} (h : qs[n]? = some p) : (mixQ qs k n).set n (markP p (k + offQ qs n)) = mixQ qs k (n + 1) := by
  have hn := (List.getElem?_eq_some_iff.1 h).1
  apply List.ext_getElem?
  intro j
  by_cases e : n = j
  · subst e
    rw [List.getElem?_set_self (by rw [mixQ_len]; exact hn), mixQ_at h, if_pos (by omega)]
  · rw [List.getElem?_set_ne e]
    unfold mixQ
    rw [List.getElem?_mapIdx, List.getElem?_mapIdx]
    cases qs[j]? with
    | none => rfl
    | some x =>
      by_cases h1 : j < n
      · simp [h1, show j < n + 1 by omega]
      · simp [h1, show ¬ j < n + 1 by omega]
theorem offs_fullQ (ps : List Mono) : offs ps ps.length = (ps.length : Int) + (tot ps : Int) := by unfold offs; rw [List.take_length]
end Go.Proofs.Ytlgpnogeoaoidaa.Pol
