/-
  The laws' own toTrmPoly; a sum that came in as plain data can be read.
  Atoms as data: slices that hold them; contracts of the laws' own szTabTab and eqTabTab.
  The laws' own eqTabTab and toTabTab.
-/
import Derived.Test.YtagfgbkclopoeaaJ06
namespace Go.Proofs.Ytagfgbkclopoeaa.Pol
open Go.ChangeShapes Go.WideShapes Go.ChangeAt Go.RowKit IntS
theorem row_keep2 {S : Nat → Prop} {w w' : World} {B : Nat} {v : Value} {xs : List Int} (h : WRow w B v xs) (hk : Keep S w w') (hB : xs = [] ∨ ¬ S B) : WRow w' B v xs := by
  rcases hB with hB | hB
  · obtain ⟨a, cap, off, h1, h2, h3, hz, _⟩ := h
    exact ⟨a, cap, off, h1, h2, h3, hz, Or.inl hB⟩
  · exact row_keep h hk hB
theorem WP.keep {S : Nat → Prop} {w w' : World} {lo hi : Nat} {a : Option Addr} {G cap : Nat} {g : Nat → Nat} {s : Nat → Value} {ps : List Mono} (h : WP w lo hi a G cap g s ps) (hk : Keep S w w') (hS : ∀ b, lo ≤ b → b < hi → ¬ S b) : WP w' lo hi a G cap g s ps := by
  refine ⟨h.le, h.mx, h.nl, h.at_.imp id (fun q => ⟨q.1, q.2.1, q.2.2.1, Nat.lt_of_lt_of_le q.2.2.2 hk.size⟩), fun i x hx => ?_, h.apart⟩
  obtain ⟨k1, k2, k3, k4, k5⟩ := h.cells i x hx
  have hG := h.at_.resolve_left (fun e => by rw [e] at hx; simp at hx)
  have e := hk.block G hG.2.2.2 (hS G hG.2.1 hG.2.2.1)
  exact ⟨(World.cell?_of_block (w := w) (a := ⟨G, i * 2, none⟩) e).trans k1, (World.frozen?_of_block (w := w) (a := ⟨G, i * 2, none⟩) e).trans k2, (World.cell?_of_block (w := w) (a := ⟨G, i * 2 + 1, none⟩) e).trans k3, row_keep2 k4 hk (k5.imp id (fun q => hS _ q.1 q.2.1)), k5⟩
theorem WPoly.keep {S : Nat → Prop} {w w' : World} {lo hi : Nat} {v : Value} {ps : List Mono} (h : WPoly w lo hi v ps) (hk : Keep S w w') (hS : ∀ b, lo ≤ b → b < hi → ¬ S b) : WPoly w' lo hi v ps := by
  obtain ⟨a, G, cap, g, s, h1, h2⟩ := h
  exact ⟨a, G, cap, g, s, h1, h2.keep hk hS⟩
theorem WPoly.below {w w' : World} {lo hi : Nat} {v : Value} {ps : List Mono} (h : WPoly w lo hi v ps) (hb : Below w.heap.size w w') : WPoly w' lo hi v ps := h.keep (Keep.of_below (S := fun _ => False) hb) (fun _ _ _ h => h)
theorem WPoly.nil (w : World) (lo hi : Nat) : WPoly w lo hi (.slice none 0 0) [] := ⟨none, 0, 0, fun _ => 0, fun _ => .slice none 0 0, rfl, Nat.le_refl _, by unfold maxLen; omega, fun _ => rfl, Or.inl rfl, fun i x hx => by simp at hx, fun i j x y _ hx => by simp at hx⟩
theorem nil_row (w : World) (B : Nat) : WRow w B (.slice none 0 0) [] := ⟨none, 0, 0, rfl, Nat.le_refl _, by unfold maxLen; omega, fun _ => rfl, Or.inl rfl⟩
theorem WPoly.wide {w : World} {lo hi lo' hi' : Nat} {v : Value} {ps : List Mono} (h : WPoly w lo hi v ps) (hl : lo' ≤ lo) (hh : hi ≤ hi') : WPoly w lo' hi' v ps := by
  obtain ⟨a, G, cap, g, s, h1, h⟩ := h
  refine ⟨a, G, cap, g, s, h1, h.le, h.mx, h.nl, h.at_.imp id (fun q => ⟨q.1, by omega, by omega, q.2.2.2⟩), fun i x hx => ?_, h.apart⟩
  obtain ⟨k1, k2, k3, k4, k5⟩ := h.cells i x hx
  exact ⟨k1, k2, k3, k4, k5.imp id (fun q => ⟨by omega, by omega, q.2.2⟩)⟩
set_option maxRecDepth 8000 in
set_option maxHeartbeats 4000000 in
theorem toTrmPoly (ps : List Mono) (B : Nat) (v : Value) (w : World) (h : PRow w B v ps) (hs : SmallP ps) :
    Calls Try.prog 28 #[.agg #[v]] w fun e w' => ∃ G, e = .returned (.agg #[.slice (some ⟨G, 0, none⟩) ps.length ps.length]) ∧ WPoly w' w.heap.size w'.heap.size (.slice (some ⟨G, 0, none⟩) ps.length ps.length) ps ∧ Below w.heap.size w w' := by
  have T := hide (Three.new w [v] [.slice none 0 0] [.slice none 0 0] 27 40 40)
  have H := hide h
  have HS := hide hs
  obtain ⟨a, cap, off, rfl, _⟩ := h
  clear hs
  go_enter Try.func28, Try.ntmps28
  go_wp2_with fail
  refine (toTrmMonoS ps B _ _ (H.out.below T.out.bw) HS.out).mono ?_
  rintro e u ⟨G, rfl, W, hb⟩
  have T0 := T.out.o.lt
  have T1 := T.out.below hb
  have gl := hb.size
  clear T hb
  have o0 := T1.o.cell 0 _ rfl
  have f0 := T1.o.soft 0
  have y0 := T1.z.cell 0 _ rfl
  have x0 := T1.z.soft 0
  have K1 : Keep (fun k => k = w.heap.size + 1 + 1) u (u.setCell ⟨w.heap.size + 1 + 1, 0, none⟩ (.slice (some ⟨G, 0, none⟩) ps.length ps.length)) := Keep.of_turn ((Turn.refl (w.heap.size + 1 + 1) u).setCell (p := ⟨w.heap.size + 1 + 1, 0, none⟩) rfl _)
  have K2 : Keep (fun k => k = w.heap.size + 1) (u.setCell ⟨w.heap.size + 1 + 1, 0, none⟩ (.slice (some ⟨G, 0, none⟩) ps.length ps.length)) ((u.setCell ⟨w.heap.size + 1 + 1, 0, none⟩ (.slice (some ⟨G, 0, none⟩) ps.length ps.length)).setCell ⟨w.heap.size + 1, 0, none⟩ (.slice (some ⟨G, 0, none⟩) ps.length ps.length)) := Keep.of_turn ((Turn.refl (w.heap.size + 1) _).setCell (p := ⟨w.heap.size + 1, 0, none⟩) rfl _)
  have W2 := ((W.keep K1 (fun b h1 h2 (h3 : b = _) => by omega)).keep K2 (fun b h1 h2 (h3 : b = _) => by omega))
  have sz : ((u.setCell ⟨w.heap.size + 1 + 1, 0, none⟩ (.slice (some ⟨G, 0, none⟩) ps.length ps.length)).setCell ⟨w.heap.size + 1, 0, none⟩ (.slice (some ⟨G, 0, none⟩) ps.length ps.length)).heap.size = u.heap.size := by simp [World.setCell]
  have W3 := hide (W2.wide (lo' := w.heap.size) (hi' := ((u.setCell ⟨w.heap.size + 1 + 1, 0, none⟩ (.slice (some ⟨G, 0, none⟩) ps.length ps.length)).setCell ⟨w.heap.size + 1, 0, none⟩ (.slice (some ⟨G, 0, none⟩) ps.length ps.length)).heap.size) (by omega) (by omega))
  have BB := hide ((T1.bw.setCell (p := ⟨w.heap.size + 1 + 1, 0, none⟩) (by show w.heap.size ≤ w.heap.size + 1 + 1; omega) (.slice (some ⟨G, 0, none⟩) ps.length ps.length)).setCell (p := ⟨w.heap.size + 1, 0, none⟩) (by show w.heap.size ≤ w.heap.size + 1; omega) (.slice (some ⟨G, 0, none⟩) ps.length ps.length))
  have ZZ := hide ((T1.z.other ⟨w.heap.size + 1 + 1, 0, none⟩ (.slice (some ⟨G, 0, none⟩) ps.length ps.length) (by show w.heap.size + 1 + 1 ≠ w.heap.size + 1; omega)).set 0 (.slice (some ⟨G, 0, none⟩) ps.length ps.length) (by simp) (show _ = [.slice (some ⟨G, 0, none⟩) ps.length ps.length] from rfl))
  clear T1 W W2 K1 K2 H HS sz T0 gl
  go_wp2
  generalize ((u.setCell ⟨w.heap.size + 1 + 1, 0, none⟩ (.slice (some ⟨G, 0, none⟩) ps.length ps.length)).setCell ⟨w.heap.size + 1, 0, none⟩ (.slice (some ⟨G, 0, none⟩) ps.length ps.length)) = V at W3 BB ZZ ⊢
  have z0 := ZZ.out.cell 0 _ rfl
  exact bodyPost_ret (v := .agg #[.slice (some ⟨G, 0, none⟩) ps.length ps.length]) (by simp [results, Try.results28, go_sem, z0]) rfl ⟨G, rfl, W3.out, BB.out⟩
theorem list_of {α : Type} {P : Nat → α → Prop} : ∀ n : Nat, (∀ i, i < n → ∃ x, P i x) → ∃ xs : List α, xs.length = n ∧ ∀ (i : Nat) x, xs[i]? = some x → P i x
  | 0, _ => ⟨[], rfl, fun i x h => by simp at h⟩
  | n + 1, h => by
    obtain ⟨xs, hl, hx⟩ := list_of n (fun i hi => h i (by omega))
    obtain ⟨y, hy⟩ := h n (by omega)
    refine ⟨xs ++ [y], by simp [hl], fun i x hi => ?_⟩
    by_cases e : i < n
    · rw [List.getElem?_append_left (by omega)] at hi
      exact hx i x hi
    · rw [List.getElem?_append_right (by omega)] at hi
      have : i = n := by
        have := (List.getElem?_eq_some_iff.1 hi).1
        simp at this; omega
      subst this
      rw [hl, Nat.sub_self] at hi
      obtain rfl := Option.some.inj (show some y = some x from hi)
      exact hy
set_option maxRecDepth 8000 in
theorem row_holds {w : World} {n : Nat} {cs : List Value} (h : Shape.Holds Try.prog w (n + 2) 49 cs) : ∃ v xs B, cs = [v] ∧ Row w B v xs := by
  rcases Shape.holds_slice (n := n + 1) Try.underlying49 h with h | ⟨x, l, c, h, hl, hm, hx⟩
  · exact ⟨_, [], 0, h, ⟨none, 0, 0, rfl, Nat.le_refl _, by unfold maxLen; omega, fun _ => rfl, Or.inl rfl⟩⟩
  · have hc (i : Nat) (hi : i < l) : ∃ v : Int, w.cell? (x.add i) = some (.int .i64 v) := by
      obtain ⟨xs, h1, h2, h3⟩ := hx i (by omega)
      obtain ⟨v, rfl, hv⟩ := Shape.holds_int (n := n) Try.underlying3 h3
      have e1 : Try.prog.cellsOf 3 = 1 := by kernel_rfl
      have h4 := h2 0 (by rw [e1]; omega)
      rw [e1, Nat.mul_one, Nat.add_zero] at h4
      exact ⟨v, h4⟩
    obtain ⟨xs, e, hxs⟩ := list_of l hc
    by_cases h0 : l = 0
    · subst h0
      refine ⟨_, [], 0, h, ⟨some x, c, 0, rfl, Nat.zero_le _, hm, (fun h => by cases h), Or.inl rfl⟩⟩
    · obtain ⟨b, o, spot⟩ := x
      obtain ⟨v0, hv0⟩ := hc 0 (by omega)
      have hspot : spot = none := by simpa [Addr.add] using World.cell?_spot hv0
      subst hspot
      refine ⟨_, xs, b, h, ⟨some ⟨b, o, none⟩, c, o, by rw [e], by omega, hm, (fun h => by cases h), Or.inr ⟨rfl, fun i x hi => ?_⟩⟩⟩
      rw [← Go.WideShapes.add_plain]
      exact hxs i x hi
theorem two {l : List Value} (h : l.length = 2) : ∃ a b, l = [a, b] := by
  match l, h with
  | [a, b], _ => exact ⟨a, b, rfl⟩
set_option maxRecDepth 8000 in
theorem monos_hold {w : World} {n : Nat} {cs : List Value} (h : Shape.Holds Try.prog w (n + 4) 25 cs) : ∃ v ps B, cs = [v] ∧ PRow w B v ps := by
  rcases Shape.holds_slice (n := n + 3) Try.underlying25 h with h | ⟨x, l, c, h, hl, hm, hx⟩
  · exact ⟨_, [], 0, h, ⟨none, 0, 0, rfl, Nat.le_refl _, by unfold maxLen; omega, fun _ => rfl, Or.inl rfl⟩⟩
  · have e2 : Try.prog.cellsOf 96 = 2 := by kernel_rfl
    have e1 : Try.prog.cellsOf 3 = 1 := by kernel_rfl
    have es : Try.prog.cellsOf 49 = 1 := by kernel_rfl
    have hc (i : Nat) (hi : i < l) : ∃ m : Mono, w.cell? (x.add (i * 2)) = some (.int .i64 m.1) ∧ ∃ s b, w.cell? (x.add (i * 2 + 1)) = some s ∧ Row w b s m.2 := by
      obtain ⟨xs, h1, h2, h3⟩ := hx i (by omega)
      rw [e2] at h1 h2
      obtain ⟨a, b, rfl⟩ := two h1
      obtain ⟨_, hf⟩ := Shape.holds_struct (n := n + 2) Try.underlying96 h3
      obtain ⟨v0, q0, _⟩ := Shape.holds_int (n := n + 1) Try.underlying3 (hf _ (List.mem_of_getElem? (i := 0) rfl))
      obtain ⟨v1, ys, b1, q1, r1⟩ := row_holds (n := n) (hf _ (List.mem_of_getElem? (i := 1) rfl))
      simp [e1, es] at q0 q1
      subst q0 q1
      exact ⟨(v0, ys), h2 0 (by omega), _, b1, h2 1 (by omega), r1⟩
    obtain ⟨ps, e, hps⟩ := list_of l hc
    by_cases h0 : l = 0
    · subst h0
      refine ⟨_, [], 0, h, ⟨some x, c, 0, rfl, Nat.zero_le _, hm, (fun h => by cases h), Or.inl rfl⟩⟩
    · obtain ⟨b, o, spot⟩ := x
      obtain ⟨m0, hv0, _⟩ := hc 0 (by omega)
      have hspot : spot = none := by simpa [Addr.add] using World.cell?_spot hv0
      subst hspot
      refine ⟨_, ps, b, h, ⟨some ⟨b, o, none⟩, c, o, by rw [e], by omega, hm, (fun h => by cases h), Or.inr ⟨rfl, fun i m hi => ?_⟩⟩⟩
      obtain ⟨k1, s, bb, k2, k3⟩ := hps i m hi
      rw [Go.WideShapes.add_plain] at k1 k2
      exact ⟨k1, s, bb, by rw [Nat.add_assoc]; exact k2, k3⟩
set_option maxRecDepth 8000 in
theorem of_holds {w : World} {c : Array Value} (h : Shape.Holds Try.prog w 9 27 c.toList) : ∃ (v : Value) (ps : List Mono) (B : Nat), c = #[v] ∧ PRow w B v ps := by
  obtain ⟨hl, hf⟩ := Shape.holds_struct (n := 8) Try.underlying27 h
  have e1 : Try.prog.cellsOf 27 = 1 := by kernel_rfl
  have es : Try.prog.cellsOf 25 = 1 := by kernel_rfl
  rw [e1] at hl
  obtain ⟨v, ps, B, q, r⟩ := monos_hold (n := 4) (hf _ (List.mem_of_getElem? (i := 0) rfl))
  obtain ⟨l⟩ := c
  match l, hl with
  | [a], _ =>
    simp [es] at q
    subst q
    exact ⟨_, ps, B, rfl, r⟩
end Go.Proofs.Ytagfgbkclopoeaa.Pol
namespace Go.Proofs.Ytagfgbkclopoeaa.Tab
set_option linter.unusedVariables false
open Go.ChangeShapes Go.WideShapes Go.ChangeAt Go.RowKit IntS Pol
/-- An atom: what it is, which one or how reckoned, and of which sums. -/
structure At where
  kd : Int
  k : Int
  x : List Mono
  y : List Mono
/-- The four cells of an atom at a place. -/
def AtAt (w : World) (B p : Nat) (t : At) : Prop := w.cell? ⟨B, p, none⟩ = some (.int .i64 t.kd) ∧ w.cell? ⟨B, p + 1, none⟩ = some (.int .i64 t.k) ∧ ∃ qx cx bx qy cy b, w.cell? ⟨B, p + 2, none⟩ = some (.slice qx t.x.length cx) ∧ PRow w bx (.slice qx t.x.length cx) t.x ∧ w.cell? ⟨B, p + 3, none⟩ = some (.slice qy t.y.length cy) ∧ PRow w b (.slice qy t.y.length cy) t.y
theorem AtAt.below {w w' : World} {B p : Nat} {t : At} (h : AtAt w B p t) (hb : Below w.heap.size w w') : AtAt w' B p t := by
  obtain ⟨h1, h2, qx, cx, bx, qy, cy, b, h3, h4, h5, h6⟩ := h
  exact ⟨cell_below hb h1, cell_below hb h2, qx, cx, bx, qy, cy, b, cell_below hb h3, h4.below hb, cell_below hb h5, h6.below hb⟩
/-- A slice that holds atoms. -/
structure TRow (w : World) (B : Nat) (v : Value) (ts : List At) : Prop where
  ex : ∃ a cap off, v = .slice a ts.length cap ∧ ts.length ≤ cap ∧ cap ≤ maxLen ∧ (a = none → cap = 0) ∧ (ts = [] ∨ (a = some ⟨B, off, none⟩ ∧ ∀ (i : Nat) t, ts[i]? = some t → AtAt w B (off + i * 4) t))
theorem TRow.below {w w' : World} {B : Nat} {v : Value} {ts : List At} (h : TRow w B v ts) (hb : Below w.heap.size w w') : TRow w' B v ts := by
  obtain ⟨a, cap, off, h1, h2, h3, hz, h4⟩ := h
  exact ⟨a, cap, off, h1, h2, h3, hz, h4.imp id fun ⟨e, q⟩ => ⟨e, fun i t ht => (q i t ht).below hb⟩⟩
def szA (t : At) : Nat := t.x.length + tot t.x + (t.y.length + tot t.y)
def totT : List At → Nat
  | [] => 0
  | t :: r => szA t + totT r
theorem totT_app : ∀ a b : List At, totT (a ++ b) = totT a + totT b
  | [], b => by simp [totT]
  | x :: a, b => by simp [totT, totT_app a b]; omega
theorem totT_next {ts : List At} {k : Nat} {t : At} (h : ts[k]? = some t) : totT (ts.take (k + 1)) = totT (ts.take k) + szA t := by
  rw [List.take_add_one, h, totT_app]
  simp [totT]
theorem totT_le {ts : List At} (k : Nat) : totT (ts.take k) ≤ totT ts := by
  have := totT_app (ts.take k) (ts.drop k)
  rw [List.take_append_drop] at this
  omega
theorem totT_at {ts : List At} {k : Nat} {t : At} (h : ts[k]? = some t) : szA t ≤ totT ts := by
  have := totT_next h
  have := totT_le (ts := ts) (k + 1)
  omega
def SmallT (ts : List At) : Prop := ts.length + totT ts ≤ 1048576
set_option maxHeartbeats 4000000 in
theorem szTabAtom (t : At) (qx : Option Addr) (cx : Nat) (qy : Option Addr) (cy bx b : Nat) (left : Int) (w : World) (hx : PRow w bx (.slice qx t.x.length cx) t.x) (hy : PRow w b (.slice qy t.y.length cy) t.y) (h0 : 0 ≤ left) (h1 : left ≤ 1048576) :
    Calls Try.prog 6 #[.agg #[.int .i64 t.kd, .int .i64 t.k, .slice qx t.x.length cx, .slice qy t.y.length cy], .int .i64 left] w fun e w' => ∃ r : Int, e = .returned (.int .i64 r) ∧ -1 ≤ r ∧ (0 ≤ r → r = left - szA t) ∧ Below w.heap.size w w' := by
  have bV : Below w.heap.size w (w.alloc (.cells #[.int .i64 t.kd, .int .i64 t.k, .slice qx t.x.length cx, .slice qy t.y.length cy] 29)) := (Below.refl _ _).alloc (Nat.le_refl _) _
  have R := hide (Rec.new w [.int .i64 t.kd, .int .i64 t.k, .slice qx t.x.length cx, .slice qy t.y.length cy] 29)
  have HX := hide (hx.below bV)
  have HY := hide (hy.below bV)
  have BW := hide bV
  clear bV hx hy
  go_enter Try.func6, Try.ntmps6
  go_wp2_with fail
  refine (szTrmPoly t.x bx _ left _ HX.out h0 h1).mono ?_
  rintro e u ⟨r, rfl, r0, hr, hb⟩
  have HR := hide hr
  replace R := hide (R.out.below hb)
  replace HY := hide (HY.out.below hb)
  replace BW := hide (BW.out.trans (hb.mono BW.out.size))
  clear hr hb
  by_cases hs : r < 0
  · go_wp2
    go_ret
    exact ⟨-1, rfl, by omega, fun h => by omega, BW.out⟩
  have r1 : r ≤ 1048576 := by have := HR.out (by omega); omega
  have c3 := R.out.cell 3 _ rfl
  go_wp2_with fail
  refine (szTrmPoly t.y b _ r _ HY.out (by omega) r1).mono ?_
  rintro e u2 ⟨r', rfl, r0', hr', hb⟩
  have HR' := hide hr'
  replace BW := hide (BW.out.trans (hb.mono BW.out.size))
  clear hr' hb c3
  by_cases hs' : r' < 0
  · go_wp2
    go_ret
    exact ⟨-1, rfl, by omega, fun h => by omega, BW.out⟩
  · go_wp2
    go_ret
    exact ⟨r', rfl, by omega, fun h => by have := HR.out (by omega); have := HR'.out h; unfold szA; omega, BW.out⟩
set_option maxRecDepth 8000 in
set_option maxHeartbeats 4000000 in
theorem szTabAtomS (ts : List At) (B : Nat) (v : Value) (left : Int) (w : World) (h : TRow w B v ts) (h0 : 0 ≤ left) (h1 : left ≤ 1048576) :
    Calls Try.prog 22 #[v, .int .i64 left] w fun e w' => ∃ r : Int, e = .returned (.int .i64 r) ∧ -1 ≤ r ∧ (0 ≤ r → r = left - ts.length - totT ts) ∧ Below w.heap.size w w' := by
  obtain ⟨a, cap, off, rfl, h2, h3, hz, h4⟩ := h
  unfold maxLen at h3
  clear hz
  by_cases e1 : left < ts.length
  · have e2 : left - (ts.length : Int) < 0 := by omega
    clear h4 e1
    go_enter Try.func22, Try.ntmps22
    go_wp2
    go_ret
    exact ⟨-1, rfl, by omega, fun h => by omega, Below.refl _ _⟩
  have e2 : ¬ left - (ts.length : Int) < 0 := by omega
  obtain ⟨n, en⟩ : ∃ n, ts.length = n := ⟨_, rfl⟩
  have EN := hide en
  rw [en] at h2 e1 e2 ⊢
  have H4 := hide h4
  clear en h4
  go_enter Try.func22, Try.ntmps22
  go_wp2
  go_loopw [1, 5] (fun l i wr => ∃ (k : Nat) (r : Int), k ≤ n ∧ i = .int .i64 k ∧ l = .int .i64 r ∧ 0 ≤ r ∧ r ≤ 1048576 ∧ Hid (r = left - n - totT (ts.take k)) ∧ Hid (Below w.heap.size w wr)) (fun _ i _ => n - (intOf i).toNat)
  case atStart => exact ⟨0, left - n, by omega, rfl, rfl, by omega, by omega, by show _ = _; simp [totT], Below.refl _ _⟩
  case round =>
    obtain ⟨k, r, hk, rfl, rfl, r0, r1, HR, HB⟩ := hrel
    by_cases hlt : k < n
    · obtain ⟨t, et⟩ : ∃ t, ts[k]? = some t := ⟨_, List.getElem?_eq_getElem (by rw [EN.out]; exact hlt)⟩
      obtain ⟨rfl, hc⟩ := H4.out.resolve_left (fun e => by rw [e] at et; simp at et)
      obtain ⟨c0, c1, qx, cx, bx, qy, cy, b, c2, px, c3, py⟩ := (hc k t et).below HB.out
      have TN := hide (totT_next et)
      have PX := hide px
      have PY := hide py
      have lk : ((k : Nat) : Int) < (n : Nat) := by omega
      clear et hc px py
      go_wp2_with fail
      refine (szTabAtom t qx cx qy cy bx b r _ PX.out PY.out r0 r1).mono ?_
      rintro e u ⟨r', rfl, q0, hr, hb⟩
      have HR2 := hide hr
      have HB2 := hide (HB.out.trans (hb.mono HB.out.size))
      clear hb hr c0 c1 c2 c3
      by_cases hs : r' < 0
      · go_wp2
        go_ret
        exact ⟨-1, rfl, by omega, fun h => by omega, HB2.out⟩
      · have HR3 : Hid (r' = left - n - totT (ts.take (k + 1))) := show _ = _ by have := HR.out; have := TN.out; have := HR2.out (by omega); omega
        have rl : r' ≤ 1048576 := by have := HR2.out (by omega); omega
        go_wp2
        exact ⟨⟨k + 1, r', by omega, by go_num, rfl, by omega, rl, HR3, HB2⟩, by simp [intOf]; omega⟩
    · have HD : Hid (r = left - n - totT ts) := show _ = _ by
        have := HR.out
        rw [List.take_of_length_le (by rw [EN.out]; omega)] at this
        exact this
      go_wp2
      go_ret
      exact ⟨r, rfl, by omega, fun _ => HD.out, HB.out⟩
theorem szTabTab (ts : List At) (B : Nat) (v : Value) (left : Int) (w : World) (h : TRow w B v ts) (h0 : 0 ≤ left) (h1 : left ≤ 1048576) :
    Calls Try.prog 5 #[.agg #[v], .int .i64 left] w fun e w' => ∃ r : Int, e = .returned (.int .i64 r) ∧ -1 ≤ r ∧ (0 ≤ r → r = left - ts.length - totT ts) ∧ Below w.heap.size w w' := by
  have bV : Below w.heap.size w (w.alloc (.cells #[v] 24)) := (Below.refl _ _).alloc (Nat.le_refl _) _
  have H := hide (h.below bV)
  have BW := hide bV
  obtain ⟨a, cap, off, rfl, _⟩ := h
  clear bV
  go_enter Try.func5, Try.ntmps5
  go_wp2_with fail
  refine (szTabAtomS ts B _ left _ H.out h0 h1).mono ?_
  rintro e u ⟨r, rfl, r0, hr, hb⟩
  have HR := hide hr
  replace BW := hide (BW.out.trans (hb.mono BW.out.size))
  clear hr hb
  by_cases hs : r < 0
  · go_wp2
    go_ret
    exact ⟨-1, rfl, by omega, fun h => by omega, BW.out⟩
  · go_wp2
    go_ret
    exact ⟨r, rfl, by omega, HR.out, BW.out⟩
set_option maxHeartbeats 4000000 in
theorem eqTabAtom (t : At) (qx qx' : Option Addr) (cx cx' : Nat) (qy qy' : Option Addr) (cy cy' bx bx' b b' : Nat) (w : World) (hx : PRow w bx (.slice qx t.x.length cx) t.x) (hy : PRow w b (.slice qy t.y.length cy) t.y) (hx' : PRow w bx' (.slice qx' t.x.length cx') t.x) (hy' : PRow w b' (.slice qy' t.y.length cy') t.y) :
    Calls Try.prog 12 #[.agg #[.int .i64 t.kd, .int .i64 t.k, .slice qx t.x.length cx, .slice qy t.y.length cy], .agg #[.int .i64 t.kd, .int .i64 t.k, .slice qx' t.x.length cx', .slice qy' t.y.length cy']] w fun e w' => e = .returned (.bool true) ∧ Below w.heap.size w w' := by
  have bV : Below w.heap.size w ((w.alloc (.cells #[.int .i64 t.kd, .int .i64 t.k, .slice qx t.x.length cx, .slice qy t.y.length cy] 42)).alloc (.cells #[.int .i64 t.kd, .int .i64 t.k, .slice qx' t.x.length cx', .slice qy' t.y.length cy'] 42)) := ((Below.refl _ _).alloc (Nat.le_refl _) _).alloc (by simp) _
  have R := hide ((Rec.new w [.int .i64 t.kd, .int .i64 t.k, .slice qx t.x.length cx, .slice qy t.y.length cy] 42).alloc (.cells #[.int .i64 t.kd, .int .i64 t.k, .slice qx' t.x.length cx', .slice qy' t.y.length cy'] 42))
  have R' := Rec.new (w.alloc (.cells #[.int .i64 t.kd, .int .i64 t.k, .slice qx t.x.length cx, .slice qy t.y.length cy] 42)) [.int .i64 t.kd, .int .i64 t.k, .slice qx' t.x.length cx', .slice qy' t.y.length cy'] 42
  rw [show (w.alloc (.cells #[.int .i64 t.kd, .int .i64 t.k, .slice qx t.x.length cx, .slice qy t.y.length cy] 42)).heap.size = w.heap.size + 1 by simp] at R'
  replace R' := hide R'
  have HX := hide (hx.below bV)
  have HY := hide (hy.below bV)
  have HX' := hide (hx'.below bV)
  have HY' := hide (hy'.below bV)
  have BW := hide bV
  have n1 : (t.kd != t.kd) = false := by simp
  have n2 : (t.k != t.k) = false := by simp
  clear bV hx hy hx' hy'
  go_enter Try.func12, Try.ntmps12
  go_wp2_with fail
  refine (eqTrmPoly t.x bx bx' _ _ _ HX.out HX'.out).mono ?_
  rintro e u ⟨rfl, hb⟩
  replace R := hide (R.out.below hb)
  replace R' := hide (R'.out.below hb)
  replace HY := hide (HY.out.below hb)
  replace HY' := hide (HY'.out.below hb)
  replace BW := hide (BW.out.trans (hb.mono BW.out.size))
  clear hb
  have c3 := R.out.cell 3 _ rfl
  have c3' := R'.out.cell 3 _ rfl
  go_wp2_with fail
  refine (eqTrmPoly t.y b b' _ _ _ HY.out HY'.out).mono ?_
  rintro e u2 ⟨rfl, hb⟩
  replace BW := hide (BW.out.trans (hb.mono BW.out.size))
  clear hb c3 c3'
  go_wp2
  go_ret
  exact ⟨rfl, BW.out⟩
end Go.Proofs.Ytagfgbkclopoeaa.Tab
namespace Go.Proofs.Ytagfgbkclopoeaa.Tab
set_option linter.unusedVariables false
open Go.ChangeShapes Go.WideShapes Go.ChangeAt Go.RowKit IntS Pol
theorem poly_other {w : World} {lo hi : Nat} {v : Value} {ps : List Mono} (h : WPoly w lo hi v ps) (p : Addr) (x : Value) (hp : p.block < lo ∨ hi ≤ p.block) : WPoly (w.setCell p x) lo hi v ps :=
  h.keep (Keep.of_turn ((Turn.refl p.block w).setCell (p := p) rfl x)) (fun b h1 h2 (h3 : b = _) => by omega)
theorem setCell_size (w : World) (p : Addr) (x : Value) : (w.setCell p x).heap.size = w.heap.size := by simp [World.setCell]
set_option maxRecDepth 8000 in
set_option maxHeartbeats 8000000 in
theorem toTabAtom (t : At) (qx : Option Addr) (cx : Nat) (qy : Option Addr) (cy bx b : Nat) (w : World) (hx : PRow w bx (.slice qx t.x.length cx) t.x) (hy : PRow w b (.slice qy t.y.length cy) t.y) (hs : szA t ≤ 1048576) :
    Calls Try.prog 9 #[.agg #[.int .i64 t.kd, .int .i64 t.k, .slice qx t.x.length cx, .slice qy t.y.length cy]] w fun e w' => ∃ gx gy mid, e = .returned (.agg #[.int .i64 t.kd, .int .i64 t.k, .slice (some ⟨gx, 0, none⟩) t.x.length t.x.length, .slice (some ⟨gy, 0, none⟩) t.y.length t.y.length]) ∧ WPoly w' w.heap.size mid (.slice (some ⟨gx, 0, none⟩) t.x.length t.x.length) t.x ∧ WPoly w' mid w'.heap.size (.slice (some ⟨gy, 0, none⟩) t.y.length t.y.length) t.y ∧ w.heap.size ≤ mid ∧ mid ≤ w'.heap.size ∧ Below w.heap.size w w' := by
  have T := hide (Three.new w [.int .i64 t.kd, .int .i64 t.k, .slice qx t.x.length cx, .slice qy t.y.length cy] [.int .i64 0, .int .i64 0, .slice none 0 0, .slice none 0 0] [.int .i64 t.kd, .int .i64 t.k, .slice none 0 0, .slice none 0 0] 29 42 42)
  have HX := hide hx
  have HY := hide hy
  have SX : Hid (SmallP t.x) := show SmallP _ by unfold SmallP; unfold szA at hs; omega
  have SY : Hid (SmallP t.y) := show SmallP _ by unfold SmallP; unfold szA at hs; omega
  clear hx hy hs
  go_enter Try.func9, Try.ntmps9
  go_wp2_with fail
  refine (toTrmPoly t.x bx _ _ (HX.out.below T.out.bw) SX.out).mono ?_
  rintro e u ⟨gx, rfl, W, hb⟩
  have T0 := T.out.o.lt
  have T1 := T.out.below hb
  have gl := hb.size
  clear T hb HX SX
  have o2 := T1.o.cell 2 _ rfl
  have f2 := T1.o.soft 2
  have a3 := T1.a.cell 3 _ rfl
  have T2 := hide (T1.set 2 (.slice (some ⟨gx, 0, none⟩) t.x.length t.x.length) (by simp) (show _ = [.int .i64 t.kd, .int .i64 t.k, .slice (some ⟨gx, 0, none⟩) t.x.length t.x.length, .slice none 0 0] from rfl))
  have W1 := hide ((poly_other W ⟨w.heap.size + 1 + 1, 2, none⟩ (.slice (some ⟨gx, 0, none⟩) t.x.length t.x.length) (Or.inl T0)).wide (hl := Nat.le_refl _) (hi' := (u.setCell ⟨w.heap.size + 1 + 1, 2, none⟩ (.slice (some ⟨gx, 0, none⟩) t.x.length t.x.length)).heap.size) (by rw [setCell_size]; exact Nat.le_refl _))
  obtain ⟨lo, elo⟩ : ∃ n, n = (((w.alloc (.cells #[.int .i64 t.kd, .int .i64 t.k, .slice qx t.x.length cx, .slice qy t.y.length cy] 29)).alloc (.cells #[.int .i64 0, .int .i64 0, .slice none 0 0, .slice none 0 0] 42)).alloc (.cells #[.int .i64 t.kd, .int .i64 t.k, .slice none 0 0, .slice none 0 0] 42)).heap.size := ⟨_, rfl⟩
  have LO : Hid (w.heap.size + 1 + 1 < lo) := show _ < _ by rw [elo]; exact T0
  have W1' : Hid (WPoly (u.setCell ⟨w.heap.size + 1 + 1, 2, none⟩ (.slice (some ⟨gx, 0, none⟩) t.x.length t.x.length)) lo (u.setCell ⟨w.heap.size + 1 + 1, 2, none⟩ (.slice (some ⟨gx, 0, none⟩) t.x.length t.x.length)).heap.size (.slice (some ⟨gx, 0, none⟩) t.x.length t.x.length) t.x) := show WPoly _ _ _ _ _ by rw [elo]; exact W1.out
  clear T1 W elo T0 gl W1
  go_wp2_with fail
  generalize u.setCell ⟨w.heap.size + 1 + 1, 2, none⟩ (.slice (some ⟨gx, 0, none⟩) t.x.length t.x.length) = V1 at T2 W1' ⊢
  clear o2 f2 a3
  refine (toTrmPoly t.y b _ _ (HY.out.below T2.out.bw) SY.out).mono ?_
  rintro e u2 ⟨gy, rfl, W2, hb⟩
  have T0 := T2.out.o.lt
  have T3 := T2.out.below hb
  have W3 := W1'.out.below hb
  have gl := hb.size
  clear T2 hb HY SY W1'
  have o0 := T3.o.cell 0 _ rfl
  have o1 := T3.o.cell 1 _ rfl
  have o2 := T3.o.cell 2 _ rfl
  have o3 := T3.o.cell 3 _ rfl
  have f3 := T3.o.soft 3
  have z0 := T3.z.cell 0 _ rfl
  have z1 := T3.z.cell 1 _ rfl
  have z2 := T3.z.cell 2 _ rfl
  have z3 := T3.z.cell 3 _ rfl
  have x0 := T3.z.soft 0
  have x1 := T3.z.soft 1
  have x2 := T3.z.soft 2
  have x3 := T3.z.soft 3
  have T4 := T3.set 3 (.slice (some ⟨gy, 0, none⟩) t.y.length t.y.length) (by simp) (show _ = [.int .i64 t.kd, .int .i64 t.k, .slice (some ⟨gx, 0, none⟩) t.x.length t.x.length, .slice (some ⟨gy, 0, none⟩) t.y.length t.y.length] from rfl)
  have W4 := poly_other W3 ⟨w.heap.size + 1 + 1, 3, none⟩ (.slice (some ⟨gy, 0, none⟩) t.y.length t.y.length) (Or.inl LO.out)
  have W5 := poly_other W2 ⟨w.heap.size + 1 + 1, 3, none⟩ (.slice (some ⟨gy, 0, none⟩) t.y.length t.y.length) (Or.inl T0)
  have G1 : Hid (w.heap.size + 1 < lo) := show _ < _ by have := LO.out; omega
  have G2 : Hid (w.heap.size + 1 < V1.heap.size) := show _ < _ by omega
  have ZZ := hide ((((T4.z.set 0 (.int .i64 t.kd) (by simp) (show _ = [.int .i64 t.kd, .int .i64 0, .slice none 0 0, .slice none 0 0] from rfl)).set 1 (.int .i64 t.k) (by simp) (show _ = [.int .i64 t.kd, .int .i64 t.k, .slice none 0 0, .slice none 0 0] from rfl)).set 2 (.slice (some ⟨gx, 0, none⟩) t.x.length t.x.length) (by simp) (show _ = [.int .i64 t.kd, .int .i64 t.k, .slice (some ⟨gx, 0, none⟩) t.x.length t.x.length, .slice none 0 0] from rfl)).set 3 (.slice (some ⟨gy, 0, none⟩) t.y.length t.y.length) (by simp) (show _ = [.int .i64 t.kd, .int .i64 t.k, .slice (some ⟨gx, 0, none⟩) t.x.length t.x.length, .slice (some ⟨gy, 0, none⟩) t.y.length t.y.length] from rfl))
  have WX := hide (poly_other (poly_other (poly_other (poly_other W4 ⟨w.heap.size + 1, 0, none⟩ (.int .i64 t.kd) (Or.inl G1.out)) ⟨w.heap.size + 1, 1, none⟩ (.int .i64 t.k) (Or.inl G1.out)) ⟨w.heap.size + 1, 2, none⟩ (.slice (some ⟨gx, 0, none⟩) t.x.length t.x.length) (Or.inl G1.out)) ⟨w.heap.size + 1, 3, none⟩ (.slice (some ⟨gy, 0, none⟩) t.y.length t.y.length) (Or.inl G1.out))
  have WY := hide (poly_other (poly_other (poly_other (poly_other W5 ⟨w.heap.size + 1, 0, none⟩ (.int .i64 t.kd) (Or.inl G2.out)) ⟨w.heap.size + 1, 1, none⟩ (.int .i64 t.k) (Or.inl G2.out)) ⟨w.heap.size + 1, 2, none⟩ (.slice (some ⟨gx, 0, none⟩) t.x.length t.x.length) (Or.inl G2.out)) ⟨w.heap.size + 1, 3, none⟩ (.slice (some ⟨gy, 0, none⟩) t.y.length t.y.length) (Or.inl G2.out))
  have BB := hide ((((T4.bw.setCell (p := ⟨w.heap.size + 1, 0, none⟩) (by show w.heap.size ≤ w.heap.size + 1; omega) (.int .i64 t.kd)).setCell (p := ⟨w.heap.size + 1, 1, none⟩) (by show w.heap.size ≤ w.heap.size + 1; omega) (.int .i64 t.k)).setCell (p := ⟨w.heap.size + 1, 2, none⟩) (by show w.heap.size ≤ w.heap.size + 1; omega) (.slice (some ⟨gx, 0, none⟩) t.x.length t.x.length)).setCell (p := ⟨w.heap.size + 1, 3, none⟩) (by show w.heap.size ≤ w.heap.size + 1; omega) (.slice (some ⟨gy, 0, none⟩) t.y.length t.y.length))
  have SZ : Hid (u2.heap.size = (((((u2.setCell ⟨w.heap.size + 1 + 1, 3, none⟩ (.slice (some ⟨gy, 0, none⟩) t.y.length t.y.length)).setCell ⟨w.heap.size + 1, 0, none⟩ (.int .i64 t.kd)).setCell ⟨w.heap.size + 1, 1, none⟩ (.int .i64 t.k)).setCell ⟨w.heap.size + 1, 2, none⟩ (.slice (some ⟨gx, 0, none⟩) t.x.length t.x.length)).setCell ⟨w.heap.size + 1, 3, none⟩ (.slice (some ⟨gy, 0, none⟩) t.y.length t.y.length)).heap.size) := show _ = _ by simp only [setCell_size]
  have GL := hide gl
  clear T3 T4 W4 W5 W3 W2 gl T0
  go_wp2
  generalize ((((u2.setCell ⟨w.heap.size + 1 + 1, 3, none⟩ (.slice (some ⟨gy, 0, none⟩) t.y.length t.y.length)).setCell ⟨w.heap.size + 1, 0, none⟩ (.int .i64 t.kd)).setCell ⟨w.heap.size + 1, 1, none⟩ (.int .i64 t.k)).setCell ⟨w.heap.size + 1, 2, none⟩ (.slice (some ⟨gx, 0, none⟩) t.x.length t.x.length)).setCell ⟨w.heap.size + 1, 3, none⟩ (.slice (some ⟨gy, 0, none⟩) t.y.length t.y.length) = V at ZZ WX WY BB SZ ⊢
  have z0 := ZZ.out.cell 0 _ rfl
  have z1 := ZZ.out.cell 1 _ rfl
  have z2 := ZZ.out.cell 2 _ rfl
  have z3 := ZZ.out.cell 3 _ rfl
  exact bodyPost_ret (v := .agg #[.int .i64 t.kd, .int .i64 t.k, .slice (some ⟨gx, 0, none⟩) t.x.length t.x.length, .slice (some ⟨gy, 0, none⟩) t.y.length t.y.length]) (by simp [results, Try.results9, go_sem, z0, z1, z2, z3]) rfl ⟨gx, gy, V1.heap.size, rfl, WX.out.wide (by have := G1.out; omega) (Nat.le_refl _), WY.out.wide (Nat.le_refl _) (by rw [← SZ.out]; exact Nat.le_refl _), by have := G2.out; omega, by rw [← SZ.out]; exact GL.out, BB.out⟩
end Go.Proofs.Ytagfgbkclopoeaa.Tab
