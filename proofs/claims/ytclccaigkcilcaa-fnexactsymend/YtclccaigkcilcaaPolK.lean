/-
  The laws' own toTrmPoly; a sum that came in as plain data can be read.
-/
import Derived.Test.YtclccaigkcilcaaPolH
namespace Go.Proofs.Ytclccaigkcilcaa.Pol
open Go.ChangeShapes Go.WideShapes Go.ChangeAt Go.RowKit IntS
theorem row_keep2 {S : Nat → Prop} {w w' : World} {B : Nat} {v : Value} {xs : List Int} (h : WRow w B v xs) (hk : Keep S w w') (hB : xs = [] ∨ ¬ S B) : WRow w' B v xs := by
  rcases hB with hB | hB
  · obtain ⟨a, cap, off, h1, h2, h3, hz, _⟩ := h
    exact ⟨a, cap, off, h1, h2, h3, hz, Or.inl hB⟩
  · exact row_keep h hk hB
theorem WP.keep {S : Nat → Prop} {w w' : World} {lo hi : Nat} {a : Option Addr} {G cap : Nat} {g : Nat → Nat} {s : Nat → Value} {ps : List Mono} (h : WP w lo hi a G cap g s ps) (hk : Keep S w w') (hS : ∀ b, lo ≤ b → b < hi → ¬ S b) : WP w' lo hi a G cap g s ps := by
  refine ⟨h.le, h.mx, h.nl, h.at_.imp id (fun q => ⟨q.1, q.2.1, q.2.2.1, Nat.lt_of_lt_of_le q.2.2.2 hk.size⟩), fun i x hx => ?_, h.apart⟩
  obtain ⟨k1, k2, k3, k4, k5⟩ := h.cells i x hx
  have hG := h.at_.resolve_left (fun e => by rw [e] at hx; simp at hx)
  have e := hk.block G hG.2.2.2 (hS G hG.2.1 hG.2.2.1)
  exact ⟨(World.cell?_of_block (w := w) (a := ⟨G, i * 2, none⟩) e).trans k1, (World.frozen?_of_block (w := w) (a := ⟨G, i * 2, none⟩) e).trans k2, (World.cell?_of_block (w := w) (a := ⟨G, i * 2 + 1, none⟩) e).trans k3, row_keep2 k4 hk (k5.imp id (fun q => hS _ q.1 q.2.1)), k5⟩
theorem WPoly.keep {S : Nat → Prop} {w w' : World} {lo hi : Nat} {v : Value} {ps : List Mono} (h : WPoly w lo hi v ps) (hk : Keep S w w') (hS : ∀ b, lo ≤ b → b < hi → ¬ S b) : WPoly w' lo hi v ps := by
  obtain ⟨a, G, cap, g, s, h1, h2⟩ := h
  exact ⟨a, G, cap, g, s, h1, h2.keep hk hS⟩
theorem WPoly.below {w w' : World} {lo hi : Nat} {v : Value} {ps : List Mono} (h : WPoly w lo hi v ps) (hb : Below w.heap.size w w') : WPoly w' lo hi v ps := h.keep (Keep.of_below (S := fun _ => False) hb) (fun _ _ _ h => h)
theorem WPoly.nil (w : World) (lo hi : Nat) : WPoly w lo hi (.slice none 0 0) [] := ⟨none, 0, 0, fun _ => 0, fun _ => .slice none 0 0, rfl, Nat.le_refl _, by unfold maxLen; omega, fun _ => rfl, Or.inl rfl, fun i x hx => by simp at hx, fun i j x y _ hx => by simp at hx⟩
theorem nil_row (w : World) (B : Nat) : WRow w B (.slice none 0 0) [] := ⟨none, 0, 0, rfl, Nat.le_refl _, by unfold maxLen; omega, fun _ => rfl, Or.inl rfl⟩
theorem WPoly.wide {w : World} {lo hi lo' hi' : Nat} {v : Value} {ps : List Mono} (h : WPoly w lo hi v ps) (hl : lo' ≤ lo) (hh : hi ≤ hi') : WPoly w lo' hi' v ps := by
  obtain ⟨a, G, cap, g, s, h1, h⟩ := h
  refine ⟨a, G, cap, g, s, h1, h.le, h.mx, h.nl, h.at_.imp id (fun q => ⟨q.1, by omega, by omega, q.2.2.2⟩), fun i x hx => ?_, h.apart⟩
  obtain ⟨k1, k2, k3, k4, k5⟩ := h.cells i x hx
  exact ⟨k1, k2, k3, k4, k5.imp id (fun q => ⟨by omega, by omega, q.2.2⟩)⟩
set_option maxRecDepth 8000 in
set_option maxHeartbeats 4000000 in
theorem toTrmPoly (ps : List Mono) (B : Nat) (v : Value) (w : World) (h : PRow w B v ps) (hs : SmallP ps) :
    Calls Try.prog 22 #[.agg #[v]] w fun e w' => ∃ G, e = .returned (.agg #[.slice (some ⟨G, 0, none⟩) ps.length ps.length]) ∧ WPoly w' w.heap.size w'.heap.size (.slice (some ⟨G, 0, none⟩) ps.length ps.length) ps ∧ Below w.heap.size w w' := by
  have T := hide (Three.new w [v] [.slice none 0 0] [.slice none 0 0] 26 35 35)
  have H := hide h
  have HS := hide hs
  obtain ⟨a, cap, off, rfl, _⟩ := h
  clear hs
  go_enter Try.func22, Try.ntmps22
  go_wp2_with fail
  refine (toTrmMonoS ps B _ _ (H.out.below T.out.bw) HS.out).mono ?_
  rintro e u ⟨G, rfl, W, hb⟩
  have T0 := T.out.o.lt
  have T1 := T.out.below hb
  have gl := hb.size
  clear T hb
  have o0 := T1.o.cell 0 _ rfl
  have f0 := T1.o.soft 0
  have y0 := T1.z.cell 0 _ rfl
  have x0 := T1.z.soft 0
  have K1 : Keep (fun k => k = w.heap.size + 1 + 1) u (u.setCell ⟨w.heap.size + 1 + 1, 0, none⟩ (.slice (some ⟨G, 0, none⟩) ps.length ps.length)) := Keep.of_turn ((Turn.refl (w.heap.size + 1 + 1) u).setCell (p := ⟨w.heap.size + 1 + 1, 0, none⟩) rfl _)
  have K2 : Keep (fun k => k = w.heap.size + 1) (u.setCell ⟨w.heap.size + 1 + 1, 0, none⟩ (.slice (some ⟨G, 0, none⟩) ps.length ps.length)) ((u.setCell ⟨w.heap.size + 1 + 1, 0, none⟩ (.slice (some ⟨G, 0, none⟩) ps.length ps.length)).setCell ⟨w.heap.size + 1, 0, none⟩ (.slice (some ⟨G, 0, none⟩) ps.length ps.length)) := Keep.of_turn ((Turn.refl (w.heap.size + 1) _).setCell (p := ⟨w.heap.size + 1, 0, none⟩) rfl _)
  have W2 := ((W.keep K1 (fun b h1 h2 (h3 : b = _) => by omega)).keep K2 (fun b h1 h2 (h3 : b = _) => by omega))
  have sz : ((u.setCell ⟨w.heap.size + 1 + 1, 0, none⟩ (.slice (some ⟨G, 0, none⟩) ps.length ps.length)).setCell ⟨w.heap.size + 1, 0, none⟩ (.slice (some ⟨G, 0, none⟩) ps.length ps.length)).heap.size = u.heap.size := by simp [World.setCell]
  have W3 := hide (W2.wide (lo' := w.heap.size) (hi' := ((u.setCell ⟨w.heap.size + 1 + 1, 0, none⟩ (.slice (some ⟨G, 0, none⟩) ps.length ps.length)).setCell ⟨w.heap.size + 1, 0, none⟩ (.slice (some ⟨G, 0, none⟩) ps.length ps.length)).heap.size) (by omega) (by omega))
  have BB := hide ((T1.bw.setCell (p := ⟨w.heap.size + 1 + 1, 0, none⟩) (by show w.heap.size ≤ w.heap.size + 1 + 1; omega) (.slice (some ⟨G, 0, none⟩) ps.length ps.length)).setCell (p := ⟨w.heap.size + 1, 0, none⟩) (by show w.heap.size ≤ w.heap.size + 1; omega) (.slice (some ⟨G, 0, none⟩) ps.length ps.length))
  have ZZ := hide ((T1.z.other ⟨w.heap.size + 1 + 1, 0, none⟩ (.slice (some ⟨G, 0, none⟩) ps.length ps.length) (by show w.heap.size + 1 + 1 ≠ w.heap.size + 1; omega)).set 0 (.slice (some ⟨G, 0, none⟩) ps.length ps.length) (by simp) (show _ = [.slice (some ⟨G, 0, none⟩) ps.length ps.length] from rfl))
  clear T1 W W2 K1 K2 H HS sz T0 gl
  go_wp2
  generalize ((u.setCell ⟨w.heap.size + 1 + 1, 0, none⟩ (.slice (some ⟨G, 0, none⟩) ps.length ps.length)).setCell ⟨w.heap.size + 1, 0, none⟩ (.slice (some ⟨G, 0, none⟩) ps.length ps.length)) = V at W3 BB ZZ ⊢
  have z0 := ZZ.out.cell 0 _ rfl
  exact bodyPost_ret (v := .agg #[.slice (some ⟨G, 0, none⟩) ps.length ps.length]) (by simp [results, Try.results22, go_sem, z0]) rfl ⟨G, rfl, W3.out, BB.out⟩
theorem list_of {α : Type} {P : Nat → α → Prop} : ∀ n : Nat, (∀ i, i < n → ∃ x, P i x) → ∃ xs : List α, xs.length = n ∧ ∀ (i : Nat) x, xs[i]? = some x → P i x
  | 0, _ => ⟨[], rfl, fun i x h => by simp at h⟩
  | n + 1, h => by
    obtain ⟨xs, hl, hx⟩ := list_of n (fun i hi => h i (by omega))
    obtain ⟨y, hy⟩ := h n (by omega)
    refine ⟨xs ++ [y], by simp [hl], fun i x hi => ?_⟩
    by_cases e : i < n
    · rw [List.getElem?_append_left (by omega)] at hi
      exact hx i x hi
    · rw [List.getElem?_append_right (by omega)] at hi
      have : i = n := by
        have := (List.getElem?_eq_some_iff.1 hi).1
        simp at this; omega
      subst this
      rw [hl, Nat.sub_self] at hi
      obtain rfl := Option.some.inj (show some y = some x from hi)
      exact hy
set_option maxRecDepth 8000 in
theorem row_holds {w : World} {n : Nat} {cs : List Value} (h : Shape.Holds Try.prog w (n + 2) 72 cs) : ∃ v xs B, cs = [v] ∧ Row w B v xs := by
  rcases Shape.holds_slice (n := n + 1) Try.underlying72 h with h | ⟨x, l, c, h, hl, hm, hx⟩
  · exact ⟨_, [], 0, h, ⟨none, 0, 0, rfl, Nat.le_refl _, by unfold maxLen; omega, fun _ => rfl, Or.inl rfl⟩⟩
  · have hc (i : Nat) (hi : i < l) : ∃ v : Int, w.cell? (x.add i) = some (.int .i64 v) := by
      obtain ⟨xs, h1, h2, h3⟩ := hx i (by omega)
      obtain ⟨v, rfl, hv⟩ := Shape.holds_int (n := n) Try.underlying3 h3
      have e1 : Try.prog.cellsOf 3 = 1 := by kernel_rfl
      have h4 := h2 0 (by rw [e1]; omega)
      rw [e1, Nat.mul_one, Nat.add_zero] at h4
      exact ⟨v, h4⟩
    obtain ⟨xs, e, hxs⟩ := list_of l hc
    by_cases h0 : l = 0
    · subst h0
      refine ⟨_, [], 0, h, ⟨some x, c, 0, rfl, Nat.zero_le _, hm, (fun h => by cases h), Or.inl rfl⟩⟩
    · obtain ⟨b, o, spot⟩ := x
      obtain ⟨v0, hv0⟩ := hc 0 (by omega)
      have hspot : spot = none := by simpa [Addr.add] using World.cell?_spot hv0
      subst hspot
      refine ⟨_, xs, b, h, ⟨some ⟨b, o, none⟩, c, o, by rw [e], by omega, hm, (fun h => by cases h), Or.inr ⟨rfl, fun i x hi => ?_⟩⟩⟩
      rw [← Go.WideShapes.add_plain]
      exact hxs i x hi
theorem two {l : List Value} (h : l.length = 2) : ∃ a b, l = [a, b] := by
  match l, h with
  | [a, b], _ => exact ⟨a, b, rfl⟩
set_option maxRecDepth 8000 in
theorem monos_hold {w : World} {n : Nat} {cs : List Value} (h : Shape.Holds Try.prog w (n + 4) 24 cs) : ∃ v ps B, cs = [v] ∧ PRow w B v ps := by
  rcases Shape.holds_slice (n := n + 3) Try.underlying24 h with h | ⟨x, l, c, h, hl, hm, hx⟩
  · exact ⟨_, [], 0, h, ⟨none, 0, 0, rfl, Nat.le_refl _, by unfold maxLen; omega, fun _ => rfl, Or.inl rfl⟩⟩
  · have e2 : Try.prog.cellsOf 97 = 2 := by kernel_rfl
    have e1 : Try.prog.cellsOf 3 = 1 := by kernel_rfl
    have es : Try.prog.cellsOf 72 = 1 := by kernel_rfl
    have hc (i : Nat) (hi : i < l) : ∃ m : Mono, w.cell? (x.add (i * 2)) = some (.int .i64 m.1) ∧ ∃ s b, w.cell? (x.add (i * 2 + 1)) = some s ∧ Row w b s m.2 := by
      obtain ⟨xs, h1, h2, h3⟩ := hx i (by omega)
      rw [e2] at h1 h2
      obtain ⟨a, b, rfl⟩ := two h1
      obtain ⟨_, hf⟩ := Shape.holds_struct (n := n + 2) Try.underlying97 h3
      obtain ⟨v0, q0, _⟩ := Shape.holds_int (n := n + 1) Try.underlying3 (hf _ (List.mem_of_getElem? (i := 0) rfl))
      obtain ⟨v1, ys, b1, q1, r1⟩ := row_holds (n := n) (hf _ (List.mem_of_getElem? (i := 1) rfl))
      simp [e1, es] at q0 q1
      subst q0 q1
      exact ⟨(v0, ys), h2 0 (by omega), _, b1, h2 1 (by omega), r1⟩
    obtain ⟨ps, e, hps⟩ := list_of l hc
    by_cases h0 : l = 0
    · subst h0
      refine ⟨_, [], 0, h, ⟨some x, c, 0, rfl, Nat.zero_le _, hm, (fun h => by cases h), Or.inl rfl⟩⟩
    · obtain ⟨b, o, spot⟩ := x
      obtain ⟨m0, hv0, _⟩ := hc 0 (by omega)
      have hspot : spot = none := by simpa [Addr.add] using World.cell?_spot hv0
      subst hspot
      refine ⟨_, ps, b, h, ⟨some ⟨b, o, none⟩, c, o, by rw [e], by omega, hm, (fun h => by cases h), Or.inr ⟨rfl, fun i m hi => ?_⟩⟩⟩
      obtain ⟨k1, s, bb, k2, k3⟩ := hps i m hi
      rw [Go.WideShapes.add_plain] at k1 k2
      exact ⟨k1, s, bb, by rw [Nat.add_assoc]; exact k2, k3⟩
set_option maxRecDepth 8000 in
theorem of_holds {w : World} {c : Array Value} (h : Shape.Holds Try.prog w 9 26 c.toList) : ∃ (v : Value) (ps : List Mono) (B : Nat), c = #[v] ∧ PRow w B v ps := by
  obtain ⟨hl, hf⟩ := Shape.holds_struct (n := 8) Try.underlying26 h
  have e1 : Try.prog.cellsOf 26 = 1 := by kernel_rfl
  have es : Try.prog.cellsOf 24 = 1 := by kernel_rfl
  rw [e1] at hl
  obtain ⟨v, ps, B, q, r⟩ := monos_hold (n := 4) (hf _ (List.mem_of_getElem? (i := 0) rfl))
  obtain ⟨l⟩ := c
  match l, hl with
  | [a], _ =>
    simp [es] at q
    subst q
    exact ⟨_, ps, B, rfl, r⟩
end Go.Proofs.Ytclccaigkcilcaa.Pol
