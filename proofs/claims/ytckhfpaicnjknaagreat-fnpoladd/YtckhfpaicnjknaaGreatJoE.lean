/-
  Contracts of the laws' own szTrmPoly, eqTrmPoly and toTrmPoly.
-/
import Derived.Test.YtckhfpaicnjknaaGreatJoI
import Derived.Test.YtckhfpaicnjknaaGreatShape
namespace Go.Proofs.YtckhfpaicnjknaaGreat.Pol
open Go.ChangeShapes Go.WideShapes Go.ChangeAt Go.RowKit IntS
/-- How many atoms there are. -/
def tot : List Mono → Nat
  | [] => 0
  | x :: r => x.2.length + tot r
theorem tot_app : ∀ a b : List Mono, tot (a ++ b) = tot a + tot b
  | [], b => by simp [tot]
  | x :: a, b => by simp [tot, tot_app a b]; omega
theorem tot_next {ps : List Mono} {k : Nat} {x : Mono} (h : ps[k]? = some x) : tot (ps.take (k + 1)) = tot (ps.take k) + x.2.length := by
  rw [List.take_add_one, h, tot_app]
  simp [tot]
theorem tot_le {ps : List Mono} (k : Nat) : tot (ps.take k) ≤ tot ps := by
  have := tot_app (ps.take k) (ps.drop k)
  rw [List.take_append_drop] at this
  omega
theorem tot_at {ps : List Mono} {k : Nat} {x : Mono} (h : ps[k]? = some x) : x.2.length ≤ tot ps := by
  have := tot_next h
  have := tot_le (ps := ps) (k + 1)
  omega
/-- A sum that is not too great. -/
def SmallP (ps : List Mono) : Prop := ps.length + tot ps ≤ 1048576
end Go.Proofs.YtckhfpaicnjknaaGreat.Pol
namespace Go.Proofs.YtckhfpaicnjknaaGreat.Pol
open Go.ChangeShapes Go.WideShapes Go.ChangeAt Go.RowKit IntS
/-- Where a list of parts has been filled up to a place. -/
structure FillP (w : World) (n : Nat) (ps : List Mono) (j : Nat) (u : World) : Prop where
  below : Below w.heap.size w u
  lt : w.heap.size < u.heap.size
  done : ∃ g : Nat → Nat, (∀ (i : Nat) x, i < j → ps[i]? = some x → u.cell? ⟨w.heap.size, i * 2, none⟩ = some (.int .i64 x.1) ∧ u.cell? ⟨w.heap.size, i * 2 + 1, none⟩ = some (.slice (some ⟨g i, 0, none⟩) x.2.length x.2.length) ∧ WRow u (g i) (.slice (some ⟨g i, 0, none⟩) x.2.length x.2.length) x.2 ∧ w.heap.size < g i ∧ g i < u.heap.size) ∧ ∀ i i', i < i' → i' < j → g i < g i'
  left : ∀ i, i < n * 2 → ∃ y, u.cell? ⟨w.heap.size, i, none⟩ = some y
  soft : ∀ i, i < n * 2 → u.frozen? ⟨w.heap.size, i, none⟩ = false
theorem fill_new (w : World) (n : Nat) (ps : List Mono) (t : TypeId) : FillP w n ps 0 (w.alloc (.cells (madeCells #[.int .i64 0, .slice none 0 0] (n * 2)) t)) := by
  refine ⟨(Below.refl _ _).alloc (Nat.le_refl _) _, by simp, ⟨fun _ => 0, fun i x hi => by omega, fun i i' _ hi => by omega⟩, fun i hi => ?_, fun i hi => by simp⟩
  rw [World.cell?_alloc_new]
  have : i < (madeCells #[Value.int .i64 0, .slice none 0 0] (n * 2)).size := by rw [size_madeCells]; exact hi
  exact ⟨_, Array.getElem?_eq_getElem this⟩
theorem FillP.next {w u u' : World} {n j g : Nat} {ps : List Mono} {x : Mono} (h : FillP w n ps j u) (hj : j < n) (hx : ps[j]? = some x) (hb : Below u.heap.size u u') (hR : WRow u' g (.slice (some ⟨g, 0, none⟩) x.2.length x.2.length) x.2) (g1 : u.heap.size ≤ g) (g2 : g < u'.heap.size) :
    FillP w n ps (j + 1) ((u'.setCell ⟨w.heap.size, j * 2, none⟩ (.int .i64 x.1)).setCell ⟨w.heap.size, j * 2 + 1, none⟩ (.slice (some ⟨g, 0, none⟩) x.2.length x.2.length)) := by
  have hl := h.lt
  have hs := hb.size
  obtain ⟨y0, c0⟩ := h.left (j * 2) (by omega)
  obtain ⟨y1, c1⟩ := h.left (j * 2 + 1) (by omega)
  have d0 := cell_below hb c0
  have d1 := cell_below hb c1
  have far (p : Addr) (q0 : p ≠ ⟨w.heap.size, j * 2, none⟩) (q1 : p ≠ ⟨w.heap.size, j * 2 + 1, none⟩) : ((u'.setCell ⟨w.heap.size, j * 2, none⟩ (.int .i64 x.1)).setCell ⟨w.heap.size, j * 2 + 1, none⟩ (.slice (some ⟨g, 0, none⟩) x.2.length x.2.length)).cell? p = u'.cell? p := by
    rw [World.cell?_setCell_other _ _ _ _ (fun e => q1 e.symm), World.cell?_setCell_other _ _ _ _ (fun e => q0 e.symm)]
  have n0 : ((u'.setCell ⟨w.heap.size, j * 2, none⟩ (.int .i64 x.1)).setCell ⟨w.heap.size, j * 2 + 1, none⟩ (.slice (some ⟨g, 0, none⟩) x.2.length x.2.length)).cell? ⟨w.heap.size, j * 2, none⟩ = some (.int .i64 x.1) := by
    rw [World.cell?_setCell_other _ _ _ _ (fun e => by have : j * 2 + 1 = j * 2 := congrArg Addr.off e; omega)]
    exact World.cell?_setCell_same u' _ _ d0
  have n1 : ((u'.setCell ⟨w.heap.size, j * 2, none⟩ (.int .i64 x.1)).setCell ⟨w.heap.size, j * 2 + 1, none⟩ (.slice (some ⟨g, 0, none⟩) x.2.length x.2.length)).cell? ⟨w.heap.size, j * 2 + 1, none⟩ = some (.slice (some ⟨g, 0, none⟩) x.2.length x.2.length) := by
    have d2 : (u'.setCell ⟨w.heap.size, j * 2, none⟩ (.int .i64 x.1)).cell? ⟨w.heap.size, j * 2 + 1, none⟩ = some y1 := by
      rw [World.cell?_setCell_other _ _ _ _ (fun e => by have : j * 2 = j * 2 + 1 := congrArg Addr.off e; omega)]
      exact d1
    exact World.cell?_setCell_same _ _ _ d2
  have hsz : ((u'.setCell ⟨w.heap.size, j * 2, none⟩ (.int .i64 x.1)).setCell ⟨w.heap.size, j * 2 + 1, none⟩ (.slice (some ⟨g, 0, none⟩) x.2.length x.2.length)).heap.size = u'.heap.size := by simp [World.setCell]
  obtain ⟨gs, hd, hinc⟩ := h.done
  refine ⟨((h.below.trans (hb.mono h.below.size)).setCell (Nat.le_refl _) _).setCell (Nat.le_refl _) _, by rw [hsz]; omega, ⟨fun i => if i < j then gs i else g, fun i z hi hz => ?_, fun i i' hi hi' => ?_⟩, fun i hi => ?_, fun i hi => ?_⟩
  · by_cases e : i < j
    · simp only [if_pos e]
      obtain ⟨k1, k2, k3, k4, k5⟩ := hd i z e hz
      refine ⟨?_, ?_, other_row (other_row (k3.below hb) _ _ (by show w.heap.size ≠ gs i; omega)) _ _ (by show w.heap.size ≠ gs i; omega), k4, by rw [hsz]; omega⟩
      · rw [far _ (fun e2 => by have : i * 2 = j * 2 := congrArg Addr.off e2; omega) (fun e2 => by have : i * 2 = j * 2 + 1 := congrArg Addr.off e2; omega)]
        exact cell_below hb k1
      · rw [far _ (fun e2 => by have : i * 2 + 1 = j * 2 := congrArg Addr.off e2; omega) (fun e2 => by have : i * 2 + 1 = j * 2 + 1 := congrArg Addr.off e2; omega)]
        exact cell_below hb k2
    · obtain rfl : i = j := by omega
      rw [hx] at hz
      obtain rfl := Option.some.inj hz
      simp only [if_neg e]
      exact ⟨n0, n1, other_row (other_row hR _ _ (by show w.heap.size ≠ g; omega)) _ _ (by show w.heap.size ≠ g; omega), by omega, by rw [hsz]; exact g2⟩
  · by_cases e' : i' < j
    · simp only [if_pos e', if_pos (show i < j by omega)]
      exact hinc i i' hi e'
    · have : i < j := by omega
      simp only [if_neg e', if_pos this]
      obtain ⟨z, hz⟩ : ∃ z, ps[i]? = some z := ⟨_, List.getElem?_eq_getElem (by have := (List.getElem?_eq_some_iff.1 hx).1; omega)⟩
      have := (hd i z (by omega) hz).2.2.2.2
      omega
  · by_cases q0 : i = j * 2
    · subst q0; exact ⟨_, n0⟩
    · by_cases q1 : i = j * 2 + 1
      · subst q1; exact ⟨_, n1⟩
      · rw [far _ (fun e => q0 (congrArg Addr.off e)) (fun e => q1 (congrArg Addr.off e))]
        obtain ⟨y, hy⟩ := h.left i hi
        exact ⟨y, cell_below hb hy⟩
  · rw [World.frozen?_setCell, World.frozen?_setCell]
    obtain ⟨y, hy⟩ := h.left i hi
    have e := hb.block w.heap.size h.lt
    rw [World.frozen?_of_block (w := u) (a := ⟨w.heap.size, i, none⟩) e]
    exact h.soft i hi
/-- A sum whose lists lie in blocks of their own, from block lo on, below hi. -/
structure WP (w : World) (lo hi : Nat) (a : Option Addr) (G cap : Nat) (g : Nat → Nat) (s : Nat → Value) (ps : List Mono) : Prop where
  le : ps.length ≤ cap
  mx : cap ≤ maxLen
  nl : a = none → cap = 0
  at_ : ps = [] ∨ (a = some ⟨G, 0, none⟩ ∧ lo ≤ G ∧ G < hi ∧ G < w.heap.size)
  cells : ∀ (i : Nat) x, ps[i]? = some x → w.cell? ⟨G, i * 2, none⟩ = some (.int .i64 x.1) ∧ w.frozen? ⟨G, i * 2, none⟩ = false ∧ w.cell? ⟨G, i * 2 + 1, none⟩ = some (s i) ∧ WRow w (g i) (s i) x.2 ∧ (x.2 = [] ∨ (lo ≤ g i ∧ g i < hi ∧ g i ≠ G))
  apart : ∀ (i j : Nat) x y, i < j → ps[i]? = some x → ps[j]? = some y → x.2 = [] ∨ y.2 = [] ∨ g i ≠ g j
structure WPoly (w : World) (lo hi : Nat) (v : Value) (ps : List Mono) : Prop where
  ex : ∃ (a : Option Addr) (G cap : Nat) (g : Nat → Nat) (s : Nat → Value), v = .slice a ps.length cap ∧ WP w lo hi a G cap g s ps
theorem WPoly.read {w : World} {lo hi : Nat} {v : Value} {ps : List Mono} (h : WPoly w lo hi v ps) : ∃ B, PRow w B v ps := by
  obtain ⟨a, G, cap, g, s, h1, h⟩ := h
  refine ⟨G, a, cap, 0, h1, h.le, h.mx, h.nl, h.at_.imp id (fun q => ⟨q.1, fun i x hx => ?_⟩)⟩
  obtain ⟨k1, k2, k3, k4, _⟩ := h.cells i x hx
  rw [Nat.zero_add]
  exact ⟨k1, s i, g i, k3, k4.row⟩
theorem FillP.whole {w u : World} {n : Nat} {ps : List Mono} (h : FillP w n ps n u) (hn : ps.length = n) (hm : n ≤ maxLen) : WPoly u w.heap.size u.heap.size (.slice (some ⟨w.heap.size, 0, none⟩) n n) ps := by
  obtain ⟨g, hd, hinc⟩ := h.done
  refine ⟨some ⟨w.heap.size, 0, none⟩, w.heap.size, n, g, fun i => .slice (some ⟨g i, 0, none⟩) (ps.getD i (0, [])).2.length (ps.getD i (0, [])).2.length, by rw [hn], by omega, hm, (fun h => by cases h), Or.inr ⟨rfl, Nat.le_refl _, h.lt, h.lt⟩, fun i x hx => ?_, fun i j x y hij hx hy => ?_⟩
  · have hi : i < n := by rw [← hn]; exact (List.getElem?_eq_some_iff.1 hx).1
    obtain ⟨k1, k2, k3, k4, k5⟩ := hd i x hi hx
    simp only [getD_part hx]
    exact ⟨k1, h.soft _ (by omega), k2, k3, Or.inr ⟨by omega, k5, by omega⟩⟩
  · have hj : j < n := by rw [← hn]; exact (List.getElem?_eq_some_iff.1 hy).1
    have := hinc i j hij hj
    exact Or.inr (Or.inr (by omega))
theorem make_monos (n : Nat) (hn : n ≤ 1048576) (w : World) : (Instr.makeSlice 23 (.int .i64 (n : Int)) (.int .i64 (n : Int))).run Tryz.prog w = .ok (.slice (some ⟨w.heap.size, 0, none⟩) n n) (w.alloc (.cells (madeCells #[.int .i64 0, .slice none 0 0] (n * 2)) 55)) := by
  have hinfo : (Tryz.prog.info? 55).map (fun i => (i.zero, i.size, i.bytes)) = some (some (.agg #[.int .i64 0, .slice none 0 0]), 2, 32) := by kernel_rfl
  obtain ⟨i, hi, hzz⟩ := Option.map_eq_some_iff.1 hinfo
  simp only [Prod.mk.injEq] at hzz
  obtain ⟨hz, hs, hb⟩ := hzz
  have hr := run_make (P := Tryz.prog) w 23 55 i _ Tryz.underlying23 hi hz .i64 .i64 n n (by omega) (Int.le_refl _) (by rw [hb]; omega) (by omega)
  simp only [Int.toNat_natCast, hs] at hr
  exact hr
end Go.Proofs.YtckhfpaicnjknaaGreat.Pol
namespace Go.Proofs.YtckhfpaicnjknaaGreat.Pol
open Go.ChangeShapes Go.WideShapes Go.ChangeAt Go.RowKit IntS
theorem row_keep2 {S : Nat → Prop} {w w' : World} {B : Nat} {v : Value} {xs : List Int} (h : WRow w B v xs) (hk : Keep S w w') (hB : xs = [] ∨ ¬ S B) : WRow w' B v xs := by
  rcases hB with hB | hB
  · obtain ⟨a, cap, off, h1, h2, h3, hz, _⟩ := h
    exact ⟨a, cap, off, h1, h2, h3, hz, Or.inl hB⟩
  · exact row_keep h hk hB
theorem WP.keep {S : Nat → Prop} {w w' : World} {lo hi : Nat} {a : Option Addr} {G cap : Nat} {g : Nat → Nat} {s : Nat → Value} {ps : List Mono} (h : WP w lo hi a G cap g s ps) (hk : Keep S w w') (hS : ∀ b, lo ≤ b → b < hi → ¬ S b) : WP w' lo hi a G cap g s ps := by
  refine ⟨h.le, h.mx, h.nl, h.at_.imp id (fun q => ⟨q.1, q.2.1, q.2.2.1, Nat.lt_of_lt_of_le q.2.2.2 hk.size⟩), fun i x hx => ?_, h.apart⟩
  obtain ⟨k1, k2, k3, k4, k5⟩ := h.cells i x hx
  have hG := h.at_.resolve_left (fun e => by rw [e] at hx; simp at hx)
  have e := hk.block G hG.2.2.2 (hS G hG.2.1 hG.2.2.1)
  exact ⟨(World.cell?_of_block (w := w) (a := ⟨G, i * 2, none⟩) e).trans k1, (World.frozen?_of_block (w := w) (a := ⟨G, i * 2, none⟩) e).trans k2, (World.cell?_of_block (w := w) (a := ⟨G, i * 2 + 1, none⟩) e).trans k3, row_keep2 k4 hk (k5.imp id (fun q => hS _ q.1 q.2.1)), k5⟩
theorem WPoly.keep {S : Nat → Prop} {w w' : World} {lo hi : Nat} {v : Value} {ps : List Mono} (h : WPoly w lo hi v ps) (hk : Keep S w w') (hS : ∀ b, lo ≤ b → b < hi → ¬ S b) : WPoly w' lo hi v ps := by
  obtain ⟨a, G, cap, g, s, h1, h2⟩ := h
  exact ⟨a, G, cap, g, s, h1, h2.keep hk hS⟩
theorem WPoly.below {w w' : World} {lo hi : Nat} {v : Value} {ps : List Mono} (h : WPoly w lo hi v ps) (hb : Below w.heap.size w w') : WPoly w' lo hi v ps := h.keep (Keep.of_below (S := fun _ => False) hb) (fun _ _ _ h => h)
theorem WPoly.nil (w : World) (lo hi : Nat) : WPoly w lo hi (.slice none 0 0) [] := ⟨none, 0, 0, fun _ => 0, fun _ => .slice none 0 0, rfl, Nat.le_refl _, by unfold maxLen; omega, fun _ => rfl, Or.inl rfl, fun i x hx => by simp at hx, fun i j x y _ hx => by simp at hx⟩
theorem nil_row (w : World) (B : Nat) : WRow w B (.slice none 0 0) [] := ⟨none, 0, 0, rfl, Nat.le_refl _, by unfold maxLen; omega, fun _ => rfl, Or.inl rfl⟩
theorem WPoly.wide {w : World} {lo hi lo' hi' : Nat} {v : Value} {ps : List Mono} (h : WPoly w lo hi v ps) (hl : lo' ≤ lo) (hh : hi ≤ hi') : WPoly w lo' hi' v ps := by
  obtain ⟨a, G, cap, g, s, h1, h⟩ := h
  refine ⟨a, G, cap, g, s, h1, h.le, h.mx, h.nl, h.at_.imp id (fun q => ⟨q.1, by omega, by omega, q.2.2.2⟩), fun i x hx => ?_, h.apart⟩
  obtain ⟨k1, k2, k3, k4, k5⟩ := h.cells i x hx
  exact ⟨k1, k2, k3, k4, k5.imp id (fun q => ⟨by omega, by omega, q.2.2⟩)⟩
theorem list_of {α : Type} {P : Nat → α → Prop} : ∀ n : Nat, (∀ i, i < n → ∃ x, P i x) → ∃ xs : List α, xs.length = n ∧ ∀ (i : Nat) x, xs[i]? = some x → P i x
  | 0, _ => ⟨[], rfl, fun i x h => by simp at h⟩
  | n + 1, h => by
    obtain ⟨xs, hl, hx⟩ := list_of n (fun i hi => h i (by omega))
    obtain ⟨y, hy⟩ := h n (by omega)
    refine ⟨xs ++ [y], by simp [hl], fun i x hi => ?_⟩
    by_cases e : i < n
    · rw [List.getElem?_append_left (by omega)] at hi
      exact hx i x hi
    · rw [List.getElem?_append_right (by omega)] at hi
      have : i = n := by
        have := (List.getElem?_eq_some_iff.1 hi).1
        simp at this; omega
      subst this
      rw [hl, Nat.sub_self] at hi
      obtain rfl := Option.some.inj (show some y = some x from hi)
      exact hy
set_option maxRecDepth 8000 in
theorem row_holds {w : World} {n : Nat} {cs : List Value} (h : Shape.Holds Tryz.prog w (n + 2) 28 cs) : ∃ v xs B, cs = [v] ∧ Row w B v xs := by
  rcases Shape.holds_slice (n := n + 1) Tryz.underlying28 h with h | ⟨x, l, c, h, hl, hm, hx⟩
  · exact ⟨_, [], 0, h, ⟨none, 0, 0, rfl, Nat.le_refl _, by unfold maxLen; omega, fun _ => rfl, Or.inl rfl⟩⟩
  · have hc (i : Nat) (hi : i < l) : ∃ v : Int, w.cell? (x.add i) = some (.int .i64 v) := by
      obtain ⟨xs, h1, h2, h3⟩ := hx i (by omega)
      obtain ⟨v, rfl, hv⟩ := Shape.holds_int (n := n) Tryz.underlying3 h3
      have e1 : Tryz.prog.cellsOf 3 = 1 := by kernel_rfl
      have h4 := h2 0 (by rw [e1]; omega)
      rw [e1, Nat.mul_one, Nat.add_zero] at h4
      exact ⟨v, h4⟩
    obtain ⟨xs, e, hxs⟩ := list_of l hc
    by_cases h0 : l = 0
    · subst h0
      refine ⟨_, [], 0, h, ⟨some x, c, 0, rfl, Nat.zero_le _, hm, (fun h => by cases h), Or.inl rfl⟩⟩
    · obtain ⟨b, o, spot⟩ := x
      obtain ⟨v0, hv0⟩ := hc 0 (by omega)
      have hspot : spot = none := by simpa [Addr.add] using World.cell?_spot hv0
      subst hspot
      refine ⟨_, xs, b, h, ⟨some ⟨b, o, none⟩, c, o, by rw [e], by omega, hm, (fun h => by cases h), Or.inr ⟨rfl, fun i x hi => ?_⟩⟩⟩
      rw [← Go.WideShapes.add_plain]
      exact hxs i x hi
theorem two {l : List Value} (h : l.length = 2) : ∃ a b, l = [a, b] := by
  match l, h with
  | [a, b], _ => exact ⟨a, b, rfl⟩
end Go.Proofs.YtckhfpaicnjknaaGreat.Pol
