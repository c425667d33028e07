/-
  The laws' own toTabTab.
  The laws' own toTabTab and eqTabTab; atoms that came in as plain data can be read.
-/
import Derived.Test.YtagfgbkclopoeaaJ07
namespace Go.Proofs.Ytagfgbkclopoeaa.Tab
set_option linter.unusedVariables false
open Go.ChangeShapes Go.WideShapes Go.ChangeAt Go.RowKit IntS Pol
def set4 (v : World) (B p : Nat) (a b c d : Value) : World := (((v.setCell ⟨B, p, none⟩ a).setCell ⟨B, p + 1, none⟩ b).setCell ⟨B, p + 2, none⟩ c).setCell ⟨B, p + 3, none⟩ d
theorem set4_far (v : World) (B p : Nat) (a b c d : Value) (q : Addr) (h : ∀ i, i < 4 → q ≠ ⟨B, p + i, none⟩) : (set4 v B p a b c d).cell? q = v.cell? q := by
  unfold set4
  rw [World.cell?_setCell_other _ _ _ _ (fun e => h 3 (by omega) e.symm), World.cell?_setCell_other _ _ _ _ (fun e => h 2 (by omega) e.symm), World.cell?_setCell_other _ _ _ _ (fun e => h 1 (by omega) e.symm), World.cell?_setCell_other _ _ _ _ (fun e => h 0 (by omega) (by rw [Nat.add_zero]; exact e.symm))]
theorem off_ne {B i j : Nat} (h : i ≠ j) : (⟨B, i, none⟩ : Addr) ≠ ⟨B, j, none⟩ := fun e => h (congrArg Addr.off e)
theorem set4_cells (v : World) (B p : Nat) (a b c d : Value) (h : ∀ i, i < 4 → ∃ y, v.cell? ⟨B, p + i, none⟩ = some y) : (set4 v B p a b c d).cell? ⟨B, p, none⟩ = some a ∧ (set4 v B p a b c d).cell? ⟨B, p + 1, none⟩ = some b ∧ (set4 v B p a b c d).cell? ⟨B, p + 2, none⟩ = some c ∧ (set4 v B p a b c d).cell? ⟨B, p + 3, none⟩ = some d := by
  obtain ⟨y0, h0⟩ := h 0 (by omega)
  obtain ⟨y1, h1⟩ := h 1 (by omega)
  obtain ⟨y2, h2⟩ := h 2 (by omega)
  obtain ⟨y3, h3⟩ := h 3 (by omega)
  unfold set4
  refine ⟨?_, ?_, ?_, ?_⟩
  · rw [World.cell?_setCell_other _ _ _ _ (off_ne (by omega)), World.cell?_setCell_other _ _ _ _ (off_ne (by omega)), World.cell?_setCell_other _ _ _ _ (off_ne (by omega))]
    exact World.cell?_setCell_same _ _ _ h0
  · rw [World.cell?_setCell_other _ _ _ _ (off_ne (by omega)), World.cell?_setCell_other _ _ _ _ (off_ne (by omega))]
    refine World.cell?_setCell_same _ _ _ (u := y1) ?_
    rw [World.cell?_setCell_other _ _ _ _ (off_ne (by omega))]
    exact h1
  · rw [World.cell?_setCell_other _ _ _ _ (off_ne (by omega))]
    refine World.cell?_setCell_same _ _ _ (u := y2) ?_
    rw [World.cell?_setCell_other _ _ _ _ (off_ne (by omega)), World.cell?_setCell_other _ _ _ _ (off_ne (by omega))]
    exact h2
  · refine World.cell?_setCell_same _ _ _ (u := y3) ?_
    rw [World.cell?_setCell_other _ _ _ _ (off_ne (by omega)), World.cell?_setCell_other _ _ _ _ (off_ne (by omega)), World.cell?_setCell_other _ _ _ _ (off_ne (by omega))]
    exact h3
theorem set4_soft (v : World) (B p : Nat) (a b c d : Value) (q : Addr) : (set4 v B p a b c d).frozen? q = v.frozen? q := by
  unfold set4
  rw [World.frozen?_setCell, World.frozen?_setCell, World.frozen?_setCell, World.frozen?_setCell]
theorem set4_turn (v : World) (B p : Nat) (a b c d : Value) : Turn B v (set4 v B p a b c d) :=
  ((((Turn.refl B v).setCell (p := ⟨B, p, none⟩) rfl a).setCell (p := ⟨B, p + 1, none⟩) rfl b).setCell (p := ⟨B, p + 2, none⟩) rfl c).setCell (p := ⟨B, p + 3, none⟩) rfl d
theorem set4_size (v : World) (B p : Nat) (a b c d : Value) : (set4 v B p a b c d).heap.size = v.heap.size := by unfold set4; simp only [setCell_size]
theorem poly_turn {B : Nat} {w w' : World} {lo hi : Nat} {v : Value} {ps : List Mono} (h : WPoly w lo hi v ps) (ht : Turn B w w') (hp : B < lo ∨ hi ≤ B) : WPoly w' lo hi v ps :=
  h.keep (Keep.of_turn ht) (fun b h1 h2 (h3 : b = _) => by omega)
/-- Where a list of atoms has been filled up to a place. -/
structure FillT (w : World) (n : Nat) (ts : List At) (j : Nat) (u : World) : Prop where
  below : Below w.heap.size w u
  lt : w.heap.size < u.heap.size
  done : ∃ l m h gx gy : Nat → Nat, (∀ (i : Nat) t, i < j → ts[i]? = some t → (u.cell? ⟨w.heap.size, i * 4, none⟩ = some (.int .i64 t.kd) ∧ u.cell? ⟨w.heap.size, i * 4 + 1, none⟩ = some (.int .i64 t.k) ∧ u.cell? ⟨w.heap.size, i * 4 + 2, none⟩ = some (.slice (some ⟨gx i, 0, none⟩) t.x.length t.x.length) ∧ u.cell? ⟨w.heap.size, i * 4 + 3, none⟩ = some (.slice (some ⟨gy i, 0, none⟩) t.y.length t.y.length)) ∧ WPoly u (l i) (m i) (.slice (some ⟨gx i, 0, none⟩) t.x.length t.x.length) t.x ∧ WPoly u (m i) (h i) (.slice (some ⟨gy i, 0, none⟩) t.y.length t.y.length) t.y ∧ w.heap.size < l i ∧ l i ≤ m i ∧ m i ≤ h i ∧ h i ≤ u.heap.size) ∧ ∀ i i', i < i' → i' < j → h i ≤ l i'
  left : ∀ i, i < n * 4 → ∃ y, u.cell? ⟨w.heap.size, i, none⟩ = some y
  soft : ∀ i, i < n * 4 → u.frozen? ⟨w.heap.size, i, none⟩ = false
theorem fillT_new (w : World) (n : Nat) (ts : List At) (t : TypeId) : FillT w n ts 0 (w.alloc (.cells (madeCells #[.int .i64 0, .int .i64 0, .slice none 0 0, .slice none 0 0] (n * 4)) t)) := by
  refine ⟨(Below.refl _ _).alloc (Nat.le_refl _) _, by simp, ⟨fun _ => 0, fun _ => 0, fun _ => 0, fun _ => 0, fun _ => 0, fun i x hi => by omega, fun i i' _ hi => by omega⟩, fun i hi => ?_, fun i hi => by simp⟩
  rw [World.cell?_alloc_new]
  have : i < (madeCells #[Value.int .i64 0, .int .i64 0, .slice none 0 0, .slice none 0 0] (n * 4)).size := by rw [size_madeCells]; exact hi
  exact ⟨_, Array.getElem?_eq_getElem this⟩
theorem FillT.next {w u u' : World} {n j gx gy mid : Nat} {ts : List At} {t : At} (h : FillT w n ts j u) (hj : j < n) (ht : ts[j]? = some t) (hb : Below u.heap.size u u') (hx : WPoly u' u.heap.size mid (.slice (some ⟨gx, 0, none⟩) t.x.length t.x.length) t.x) (hy : WPoly u' mid u'.heap.size (.slice (some ⟨gy, 0, none⟩) t.y.length t.y.length) t.y) (m1 : u.heap.size ≤ mid) (m2 : mid ≤ u'.heap.size) :
    FillT w n ts (j + 1) (set4 u' w.heap.size (j * 4) (.int .i64 t.kd) (.int .i64 t.k) (.slice (some ⟨gx, 0, none⟩) t.x.length t.x.length) (.slice (some ⟨gy, 0, none⟩) t.y.length t.y.length)) := by
  have hl := h.lt
  have hs := hb.size
  have N := set4_cells u' w.heap.size (j * 4) (.int .i64 t.kd) (.int .i64 t.k) (.slice (some ⟨gx, 0, none⟩) t.x.length t.x.length) (.slice (some ⟨gy, 0, none⟩) t.y.length t.y.length) (fun i hi => by
    obtain ⟨y, hy⟩ := h.left (j * 4 + i) (by omega)
    exact ⟨y, cell_below hb hy⟩)
  have F := set4_far u' w.heap.size (j * 4) (.int .i64 t.kd) (.int .i64 t.k) (.slice (some ⟨gx, 0, none⟩) t.x.length t.x.length) (.slice (some ⟨gy, 0, none⟩) t.y.length t.y.length)
  have S := set4_soft u' w.heap.size (j * 4) (.int .i64 t.kd) (.int .i64 t.k) (.slice (some ⟨gx, 0, none⟩) t.x.length t.x.length) (.slice (some ⟨gy, 0, none⟩) t.y.length t.y.length)
  have U := set4_turn u' w.heap.size (j * 4) (.int .i64 t.kd) (.int .i64 t.k) (.slice (some ⟨gx, 0, none⟩) t.x.length t.x.length) (.slice (some ⟨gy, 0, none⟩) t.y.length t.y.length)
  have Z := set4_size u' w.heap.size (j * 4) (.int .i64 t.kd) (.int .i64 t.k) (.slice (some ⟨gx, 0, none⟩) t.x.length t.x.length) (.slice (some ⟨gy, 0, none⟩) t.y.length t.y.length)
  have BB : Below w.heap.size w (set4 u' w.heap.size (j * 4) (.int .i64 t.kd) (.int .i64 t.k) (.slice (some ⟨gx, 0, none⟩) t.x.length t.x.length) (.slice (some ⟨gy, 0, none⟩) t.y.length t.y.length)) := ((((h.below.trans (hb.mono h.below.size)).setCell (p := ⟨w.heap.size, j * 4, none⟩) (Nat.le_refl _) _).setCell (p := ⟨w.heap.size, j * 4 + 1, none⟩) (Nat.le_refl _) _).setCell (p := ⟨w.heap.size, j * 4 + 2, none⟩) (Nat.le_refl _) _).setCell (p := ⟨w.heap.size, j * 4 + 3, none⟩) (Nat.le_refl _) _
  generalize set4 u' w.heap.size (j * 4) (.int .i64 t.kd) (.int .i64 t.k) (.slice (some ⟨gx, 0, none⟩) t.x.length t.x.length) (.slice (some ⟨gy, 0, none⟩) t.y.length t.y.length) = V at *
  obtain ⟨l, m, hh, px, py, hd, hinc⟩ := h.done
  have far (i d : Nat) (hi : i ≠ j) (hd : d < 4) : V.cell? ⟨w.heap.size, i * 4 + d, none⟩ = u'.cell? ⟨w.heap.size, i * 4 + d, none⟩ := F _ (fun k hk => off_ne (by omega))
  refine ⟨BB, by rw [Z]; omega, ⟨fun i => if i < j then l i else u.heap.size, fun i => if i < j then m i else mid, fun i => if i < j then hh i else u'.heap.size, fun i => if i < j then px i else gx, fun i => if i < j then py i else gy, fun i z hi hz => ?_, fun i i' hi hi' => ?_⟩, fun i hi => ?_, fun i hi => ?_⟩
  · by_cases e : i < j
    · simp only [if_pos e]
      obtain ⟨⟨k1, k2, k3, k4⟩, k5, k6, k7, k8, k9, k10⟩ := hd i z e hz
      have b5 : WPoly u' (l i) (m i) (.slice (some ⟨px i, 0, none⟩) z.x.length z.x.length) z.x := k5.below hb
      have b6 : WPoly u' (m i) (hh i) (.slice (some ⟨py i, 0, none⟩) z.y.length z.y.length) z.y := k6.below hb
      refine ⟨⟨?_, ?_, ?_, ?_⟩, poly_turn b5 U (Or.inl k7), poly_turn b6 U (Or.inl (by omega)), k7, k8, k9, by rw [Z]; omega⟩
      · exact (far i 0 (by omega) (by omega)).trans (cell_below hb k1)
      · exact (far i 1 (by omega) (by omega)).trans (cell_below hb k2)
      · exact (far i 2 (by omega) (by omega)).trans (cell_below hb k3)
      · exact (far i 3 (by omega) (by omega)).trans (cell_below hb k4)
    · obtain rfl : i = j := by omega
      rw [ht] at hz
      obtain rfl := Option.some.inj hz
      simp only [if_neg e]
      exact ⟨N, poly_turn hx U (Or.inl hl), poly_turn hy U (Or.inl (by omega)), hl, m1, m2, by rw [Z]; exact Nat.le_refl _⟩
  · by_cases e' : i' < j
    · simp only [if_pos e', if_pos (show i < j by omega)]
      exact hinc i i' hi e'
    · have : i < j := by omega
      simp only [if_neg e', if_pos this]
      obtain ⟨z, hz⟩ : ∃ z, ts[i]? = some z := ⟨_, List.getElem?_eq_getElem (by have := (List.getElem?_eq_some_iff.1 ht).1; omega)⟩
      exact (hd i z (by omega) hz).2.2.2.2.2.2
  · by_cases q : j * 4 ≤ i ∧ i < j * 4 + 4
    · have : i = j * 4 ∨ i = j * 4 + 1 ∨ i = j * 4 + 2 ∨ i = j * 4 + 3 := by omega
      rcases this with rfl | rfl | rfl | rfl
      · exact ⟨_, N.1⟩
      · exact ⟨_, N.2.1⟩
      · exact ⟨_, N.2.2.1⟩
      · exact ⟨_, N.2.2.2⟩
    · rw [F _ (fun k hk => off_ne (by omega))]
      obtain ⟨y, hy⟩ := h.left i hi
      exact ⟨y, cell_below hb hy⟩
  · rw [S]
    have e := hb.block w.heap.size h.lt
    rw [World.frozen?_of_block (w := u) (a := ⟨w.heap.size, i, none⟩) e]
    exact h.soft i hi
/-- Atoms whose lists lie in blocks of their own, from block lo on, below hi. -/
structure WT (w : World) (lo hi : Nat) (a : Option Addr) (G cap : Nat) (l m h : Nat → Nat) (sx sy : Nat → Value) (ts : List At) : Prop where
  le : ts.length ≤ cap
  mx : cap ≤ maxLen
  nl : a = none → cap = 0
  at_ : ts = [] ∨ (a = some ⟨G, 0, none⟩ ∧ lo ≤ G ∧ G < hi ∧ G < w.heap.size)
  cells : ∀ (i : Nat) t, ts[i]? = some t → (w.cell? ⟨G, i * 4, none⟩ = some (.int .i64 t.kd) ∧ w.frozen? ⟨G, i * 4, none⟩ = false ∧ w.cell? ⟨G, i * 4 + 1, none⟩ = some (.int .i64 t.k) ∧ w.frozen? ⟨G, i * 4 + 1, none⟩ = false ∧ w.cell? ⟨G, i * 4 + 2, none⟩ = some (sx i) ∧ w.cell? ⟨G, i * 4 + 3, none⟩ = some (sy i)) ∧ WPoly w (l i) (m i) (sx i) t.x ∧ WPoly w (m i) (h i) (sy i) t.y ∧ lo ≤ l i ∧ l i ≤ m i ∧ m i ≤ h i ∧ h i ≤ hi ∧ (G < l i ∨ h i ≤ G)
  apart : ∀ i j : Nat, i < j → j < ts.length → h i ≤ l j
structure WTab (w : World) (lo hi : Nat) (v : Value) (ts : List At) : Prop where
  ex : ∃ (a : Option Addr) (G cap : Nat) (l m h : Nat → Nat) (sx sy : Nat → Value), v = .slice a ts.length cap ∧ WT w lo hi a G cap l m h sx sy ts
theorem WTab.read {w : World} {lo hi : Nat} {v : Value} {ts : List At} (h : WTab w lo hi v ts) : ∃ B, TRow w B v ts := by
  obtain ⟨a, G, cap, l, m, hh, sx, sy, h1, h⟩ := h
  refine ⟨G, a, cap, 0, h1, h.le, h.mx, h.nl, h.at_.imp id (fun q => ⟨q.1, fun i x hx => ?_⟩)⟩
  obtain ⟨⟨k1, -, k2, -, k3, k4⟩, k5, k6, _⟩ := h.cells i x hx
  rw [Nat.zero_add]
  obtain ⟨bx, rx⟩ := k5.read
  obtain ⟨b, ry⟩ := k6.read
  obtain ⟨qx, _, cx, _, _, e1, _⟩ := k5
  obtain ⟨qy, _, cy, _, _, e2, _⟩ := k6
  rw [e1] at k3 rx
  rw [e2] at k4 ry
  exact ⟨k1, k2, qx, cx, bx, qy, cy, b, k3, rx, k4, ry⟩
theorem FillT.whole {w u : World} {n : Nat} {ts : List At} (h : FillT w n ts n u) (hn : ts.length = n) (hm : n ≤ maxLen) : WTab u w.heap.size u.heap.size (.slice (some ⟨w.heap.size, 0, none⟩) n n) ts := by
  obtain ⟨l, m, hh, gx, gy, hd, hinc⟩ := h.done
  refine ⟨some ⟨w.heap.size, 0, none⟩, w.heap.size, n, l, m, hh, fun i => .slice (some ⟨gx i, 0, none⟩) (ts.getD i ⟨0, 0, [], []⟩).x.length (ts.getD i ⟨0, 0, [], []⟩).x.length, fun i => .slice (some ⟨gy i, 0, none⟩) (ts.getD i ⟨0, 0, [], []⟩).y.length (ts.getD i ⟨0, 0, [], []⟩).y.length, by rw [hn], by omega, hm, (fun h => by cases h), Or.inr ⟨rfl, Nat.le_refl _, h.lt, h.lt⟩, fun i x hx => ?_, fun i j hij hj => hinc i j hij (by omega)⟩
  have hi : i < n := by rw [← hn]; exact (List.getElem?_eq_some_iff.1 hx).1
  obtain ⟨⟨k1, k2, k3, k4⟩, k5, k6, k7, k8, k9, k10⟩ := hd i x hi hx
  have e : ts.getD i ⟨0, 0, [], []⟩ = x := by simp [List.getD, hx]
  simp only [e]
  exact ⟨⟨k1, h.soft _ (by omega), k2, h.soft _ (by omega), k3, k4⟩, k5, k6, by omega, k8, k9, k10, Or.inl k7⟩
theorem make_atoms (n : Nat) (hn : n ≤ 1048576) (w : World) : (Instr.makeSlice 32 (.int .i64 (n : Int)) (.int .i64 (n : Int))).run Try.prog w = .ok (.slice (some ⟨w.heap.size, 0, none⟩) n n) (w.alloc (.cells (madeCells #[.int .i64 0, .int .i64 0, .slice none 0 0, .slice none 0 0] (n * 4)) 42)) := by
  have hinfo : (Try.prog.info? 42).map (fun i => (i.zero, i.size, i.bytes)) = some (some (.agg #[.int .i64 0, .int .i64 0, .slice none 0 0, .slice none 0 0]), 4, 64) := by kernel_rfl
  obtain ⟨i, hi, hzz⟩ := Option.map_eq_some_iff.1 hinfo
  simp only [Prod.mk.injEq] at hzz
  obtain ⟨hz, hs, hb⟩ := hzz
  have hr := run_make (P := Try.prog) w 32 42 i _ Try.underlying32 hi hz .i64 .i64 n n (by omega) (Int.le_refl _) (by rw [hb]; omega) (by omega)
  simp only [Int.toNat_natCast, hs] at hr
  exact hr
set_option maxRecDepth 8000 in
set_option maxHeartbeats 4000000 in
theorem toTabAtomS (ts : List At) (B : Nat) (v : Value) (w : World) (h : TRow w B v ts) (hs : SmallT ts) :
    Calls Try.prog 27 #[v] w fun e w' => ∃ G, e = .returned (.slice (some ⟨G, 0, none⟩) ts.length ts.length) ∧ WTab w' w.heap.size w'.heap.size (.slice (some ⟨G, 0, none⟩) ts.length ts.length) ts ∧ Below w.heap.size w w' := by
  obtain ⟨a, cap, off, rfl, h2, h3, hz, h4⟩ := h
  unfold maxLen at h3
  clear hz
  obtain ⟨n, en⟩ : ∃ n, ts.length = n := ⟨_, rfl⟩
  have EN := hide en
  have hn : n ≤ 1048576 := by unfold SmallT at hs; omega
  have HS := hide hs
  have M0 := hide (fillT_new w n ts 42)
  have hmk := make_atoms n hn w
  rw [en] at h2 ⊢
  have H4 := hide h4
  clear en h4 hs
  by_cases n0 : n = 0
  · subst n0
    have FF := hide (M0.out.whole EN.out (by unfold maxLen; omega))
    have FB := hide M0.out.below
    clear M0 H4
    replace hmk : (Instr.makeSlice 32 (.int .i64 0) (.int .i64 0)).run Try.prog w = .ok (.slice (some ⟨w.heap.size, 0, none⟩) 0 0) (w.alloc (.cells (madeCells #[.int .i64 0, .int .i64 0, .slice none 0 0, .slice none 0 0] (0 * 4)) 42)) := hmk
    generalize w.alloc (.cells (madeCells #[.int .i64 0, .int .i64 0, .slice none 0 0, .slice none 0 0] (0 * 4)) 42) = U at hmk FF FB
    go_enter Try.func27, Try.ntmps27
    go_wp2
    refine wp_loop_rounds 1 ?_
    rw [rounds_succ]
    go_wp2
    go_ret
    exact ⟨w.heap.size, rfl, FF.out, FB.out⟩
  · obtain ⟨rfl, hc⟩ := H4.out.resolve_left (fun e => n0 (by rw [← EN.out, e]; rfl))
    have HC := hide hc
    clear hc H4
    generalize w.alloc (.cells (madeCells #[.int .i64 0, .int .i64 0, .slice none 0 0, .slice none 0 0] (n * 4)) 42) = U at hmk M0
    go_enter Try.func27, Try.ntmps27
    go_wp2
    clear hmk
    go_loopw [4] (fun i wr => ∃ k : Nat, k ≤ n ∧ i = .int .i64 k ∧ Hid (FillT w n ts k wr)) (fun i _ => n - (intOf i).toNat)
    case atStart => exact ⟨0, by omega, rfl, M0⟩
    case round =>
      obtain ⟨k, hk, rfl, HF⟩ := hrel
      by_cases hlt : k < n
      · obtain ⟨t, et⟩ : ∃ t, ts[k]? = some t := ⟨_, List.getElem?_eq_getElem (by rw [EN.out]; exact hlt)⟩
        obtain ⟨c0, c1, qx, cx, bx, qy, cy, b, c2, px, c3, py⟩ := HC.out k t et
        have d0 := cell_below HF.out.below c0
        have d1 := cell_below HF.out.below c1
        have d2 := cell_below HF.out.below c2
        have d3 := cell_below HF.out.below c3
        have PX := hide (px.below HF.out.below)
        have PY := hide (py.below HF.out.below)
        have lk : ((k : Nat) : Int) < (n : Nat) := by omega
        have LA : Hid (szA t ≤ 1048576) := show _ ≤ _ by have := totT_at et; have := HS.out; unfold SmallT at this; omega
        have ET := hide et
        clear et c0 c1 c2 c3 px py
        go_wp2_with fail
        refine (toTabAtom t qx cx qy cy bx b _ PX.out PY.out LA.out).mono ?_
        rintro e u ⟨gx, gy, mid, rfl, RX, RY, m1, m2, hb⟩
        have NX := hide (FillT.next HF.out hlt ET.out hb RX RY m1 m2)
        obtain ⟨y0, e0⟩ := HF.out.left (k * 4) (by omega)
        obtain ⟨y1, e1⟩ := HF.out.left (k * 4 + 1) (by omega)
        obtain ⟨y2, e2⟩ := HF.out.left (k * 4 + 2) (by omega)
        obtain ⟨y3, e3⟩ := HF.out.left (k * 4 + 3) (by omega)
        have p0 := cell_below hb e0
        have p1 := cell_below hb e1
        have p2 := cell_below hb e2
        have p3 := cell_below hb e3
        have ff (i : Nat) (hi : i < n * 4) : u.frozen? ⟨w.heap.size, i, none⟩ = false := by rw [World.frozen?_of_block (w := wr) (a := ⟨w.heap.size, i, none⟩) (hb.block w.heap.size HF.out.lt)]; exact HF.out.soft _ hi
        have f0 := ff (k * 4) (by omega)
        have f1 := ff (k * 4 + 1) (by omega)
        have f2 := ff (k * 4 + 2) (by omega)
        have f3 := ff (k * 4 + 3) (by omega)
        have lw : w.heap.size < u.heap.size := Nat.lt_of_lt_of_le HF.out.lt hb.size
        unfold set4 at NX
        clear hb RX RY m1 m2 e0 e1 e2 e3 d0 d1 d2 d3 HF PX PY ff
        go_wp2
        exact ⟨⟨k + 1, by omega, by go_num, NX⟩, by simp [intOf]; omega⟩
      · obtain rfl : k = n := by omega
        have FF := hide (HF.out.whole EN.out (by unfold maxLen; omega))
        have FB := hide HF.out.below
        clear HF
        go_wp2
        go_ret
        exact ⟨w.heap.size, rfl, FF.out, FB.out⟩
end Go.Proofs.Ytagfgbkclopoeaa.Tab
namespace Go.Proofs.Ytagfgbkclopoeaa.Tab
set_option linter.unusedVariables false
open Go.ChangeShapes Go.WideShapes Go.ChangeAt Go.RowKit IntS Pol
theorem WT.keep {S : Nat → Prop} {w w' : World} {lo hi : Nat} {a : Option Addr} {G cap : Nat} {l m h : Nat → Nat} {sx sy : Nat → Value} {ts : List At} (q : WT w lo hi a G cap l m h sx sy ts) (hk : Keep S w w') (hS : ∀ b, lo ≤ b → b < hi → ¬ S b) : WT w' lo hi a G cap l m h sx sy ts := by
  refine ⟨q.le, q.mx, q.nl, q.at_.imp id (fun q => ⟨q.1, q.2.1, q.2.2.1, Nat.lt_of_lt_of_le q.2.2.2 hk.size⟩), fun i x hx => ?_, q.apart⟩
  obtain ⟨⟨k1, k2, k3, k4, k5, k6⟩, k7, k8, k9, k10, k11, k12, k13⟩ := q.cells i x hx
  have hG := q.at_.resolve_left (fun e => by rw [e] at hx; simp at hx)
  have e := hk.block G hG.2.2.2 (hS G hG.2.1 hG.2.2.1)
  exact ⟨⟨(World.cell?_of_block (w := w) (a := ⟨G, i * 4, none⟩) e).trans k1, (World.frozen?_of_block (w := w) (a := ⟨G, i * 4, none⟩) e).trans k2, (World.cell?_of_block (w := w) (a := ⟨G, i * 4 + 1, none⟩) e).trans k3, (World.frozen?_of_block (w := w) (a := ⟨G, i * 4 + 1, none⟩) e).trans k4, (World.cell?_of_block (w := w) (a := ⟨G, i * 4 + 2, none⟩) e).trans k5, (World.cell?_of_block (w := w) (a := ⟨G, i * 4 + 3, none⟩) e).trans k6⟩, k7.keep hk (fun b h1 h2 => hS b (by omega) (by omega)), k8.keep hk (fun b h1 h2 => hS b (by omega) (by omega)), k9, k10, k11, k12, k13⟩
theorem WTab.keep {S : Nat → Prop} {w w' : World} {lo hi : Nat} {v : Value} {ts : List At} (q : WTab w lo hi v ts) (hk : Keep S w w') (hS : ∀ b, lo ≤ b → b < hi → ¬ S b) : WTab w' lo hi v ts := by
  obtain ⟨a, G, cap, l, m, h, sx, sy, h1, h2⟩ := q
  exact ⟨a, G, cap, l, m, h, sx, sy, h1, h2.keep hk hS⟩
theorem WTab.below {w w' : World} {lo hi : Nat} {v : Value} {ts : List At} (h : WTab w lo hi v ts) (hb : Below w.heap.size w w') : WTab w' lo hi v ts := h.keep (Keep.of_below (S := fun _ => False) hb) (fun _ _ _ h => h)
theorem WTab.wide {w : World} {lo hi lo' hi' : Nat} {v : Value} {ts : List At} (q : WTab w lo hi v ts) (hl : lo' ≤ lo) (hh : hi ≤ hi') : WTab w lo' hi' v ts := by
  obtain ⟨a, G, cap, l, m, h, sx, sy, h1, q⟩ := q
  refine ⟨a, G, cap, l, m, h, sx, sy, h1, q.le, q.mx, q.nl, q.at_.imp id (fun q => ⟨q.1, by omega, by omega, q.2.2.2⟩), fun i x hx => ?_, q.apart⟩
  obtain ⟨k1, k7, k8, k9, k10, k11, k12, k13⟩ := q.cells i x hx
  exact ⟨k1, k7, k8, by omega, k10, k11, by omega, k13⟩
set_option maxRecDepth 8000 in
set_option maxHeartbeats 4000000 in
theorem toTabTab (ts : List At) (B : Nat) (v : Value) (w : World) (h : TRow w B v ts) (hs : SmallT ts) :
    Calls Try.prog 8 #[.agg #[v]] w fun e w' => ∃ G, e = .returned (.agg #[.slice (some ⟨G, 0, none⟩) ts.length ts.length]) ∧ WTab w' w.heap.size w'.heap.size (.slice (some ⟨G, 0, none⟩) ts.length ts.length) ts ∧ Below w.heap.size w w' := by
  have T := hide (Three.new w [v] [.slice none 0 0] [.slice none 0 0] 24 34 34)
  have H := hide h
  have HS := hide hs
  obtain ⟨a, cap, off, rfl, _⟩ := h
  clear hs
  go_enter Try.func8, Try.ntmps8
  go_wp2_with fail
  refine (toTabAtomS ts B _ _ (H.out.below T.out.bw) HS.out).mono ?_
  rintro e u ⟨G, rfl, W, hb⟩
  have T0 := T.out.o.lt
  have T1 := T.out.below hb
  have gl := hb.size
  clear T hb
  have o0 := T1.o.cell 0 _ rfl
  have f0 := T1.o.soft 0
  have y0 := T1.z.cell 0 _ rfl
  have x0 := T1.z.soft 0
  have K1 : Keep (fun k => k = w.heap.size + 1 + 1) u (u.setCell ⟨w.heap.size + 1 + 1, 0, none⟩ (.slice (some ⟨G, 0, none⟩) ts.length ts.length)) := Keep.of_turn ((Turn.refl (w.heap.size + 1 + 1) u).setCell (p := ⟨w.heap.size + 1 + 1, 0, none⟩) rfl _)
  have K2 : Keep (fun k => k = w.heap.size + 1) (u.setCell ⟨w.heap.size + 1 + 1, 0, none⟩ (.slice (some ⟨G, 0, none⟩) ts.length ts.length)) ((u.setCell ⟨w.heap.size + 1 + 1, 0, none⟩ (.slice (some ⟨G, 0, none⟩) ts.length ts.length)).setCell ⟨w.heap.size + 1, 0, none⟩ (.slice (some ⟨G, 0, none⟩) ts.length ts.length)) := Keep.of_turn ((Turn.refl (w.heap.size + 1) _).setCell (p := ⟨w.heap.size + 1, 0, none⟩) rfl _)
  have W2 := ((W.keep K1 (fun b h1 h2 (h3 : b = _) => by omega)).keep K2 (fun b h1 h2 (h3 : b = _) => by omega))
  have sz : ((u.setCell ⟨w.heap.size + 1 + 1, 0, none⟩ (.slice (some ⟨G, 0, none⟩) ts.length ts.length)).setCell ⟨w.heap.size + 1, 0, none⟩ (.slice (some ⟨G, 0, none⟩) ts.length ts.length)).heap.size = u.heap.size := by simp [World.setCell]
  have W3 := hide (W2.wide (lo' := w.heap.size) (hi' := ((u.setCell ⟨w.heap.size + 1 + 1, 0, none⟩ (.slice (some ⟨G, 0, none⟩) ts.length ts.length)).setCell ⟨w.heap.size + 1, 0, none⟩ (.slice (some ⟨G, 0, none⟩) ts.length ts.length)).heap.size) (by omega) (by omega))
  have BB := hide ((T1.bw.setCell (p := ⟨w.heap.size + 1 + 1, 0, none⟩) (by show w.heap.size ≤ w.heap.size + 1 + 1; omega) (.slice (some ⟨G, 0, none⟩) ts.length ts.length)).setCell (p := ⟨w.heap.size + 1, 0, none⟩) (by show w.heap.size ≤ w.heap.size + 1; omega) (.slice (some ⟨G, 0, none⟩) ts.length ts.length))
  have ZZ := hide ((T1.z.other ⟨w.heap.size + 1 + 1, 0, none⟩ (.slice (some ⟨G, 0, none⟩) ts.length ts.length) (by show w.heap.size + 1 + 1 ≠ w.heap.size + 1; omega)).set 0 (.slice (some ⟨G, 0, none⟩) ts.length ts.length) (by simp) (show _ = [.slice (some ⟨G, 0, none⟩) ts.length ts.length] from rfl))
  clear T1 W W2 K1 K2 H HS sz T0 gl
  go_wp2
  generalize ((u.setCell ⟨w.heap.size + 1 + 1, 0, none⟩ (.slice (some ⟨G, 0, none⟩) ts.length ts.length)).setCell ⟨w.heap.size + 1, 0, none⟩ (.slice (some ⟨G, 0, none⟩) ts.length ts.length)) = V at W3 BB ZZ ⊢
  have z0 := ZZ.out.cell 0 _ rfl
  exact bodyPost_ret (v := .agg #[.slice (some ⟨G, 0, none⟩) ts.length ts.length]) (by simp [results, Try.results8, go_sem, z0]) rfl ⟨G, rfl, W3.out, BB.out⟩
set_option maxRecDepth 8000 in
set_option maxHeartbeats 4000000 in
theorem eqTabAtomS (ts : List At) (B B' : Nat) (v v' : Value) (w : World) (h : TRow w B v ts) (h' : TRow w B' v' ts) :
    Calls Try.prog 34 #[v, v'] w fun e w' => e = .returned (.bool true) ∧ Below w.heap.size w w' := by
  obtain ⟨a, cap, off, rfl, h2, h3, hz, h4⟩ := h
  obtain ⟨a', cap', off', rfl, h2', h3', hz', h4'⟩ := h'
  unfold maxLen at h3 h3'
  clear hz hz'
  obtain ⟨n, en⟩ : ∃ n, ts.length = n := ⟨_, rfl⟩
  have EN := hide en
  rw [en] at h2 h2' ⊢
  have H4 := hide h4
  have H4' := hide h4'
  have nn : ((n : Int) != (n : Int)) = false := by simp
  clear en h4 h4'
  go_enter Try.func34, Try.ntmps34
  by_cases n0 : n = 0
  · subst n0
    go_wp2
    refine wp_loop_rounds 1 ?_
    rw [rounds_succ]
    go_wp2
    go_ret
    exact ⟨rfl, Below.refl _ _⟩
  · obtain ⟨rfl, hc⟩ := H4.out.resolve_left (fun e => n0 (by rw [← EN.out, e]; rfl))
    obtain ⟨rfl, hc'⟩ := H4'.out.resolve_left (fun e => n0 (by rw [← EN.out, e]; rfl))
    have HC := hide hc
    have HC' := hide hc'
    clear hc hc' H4 H4'
    go_wp2
    go_loopw [5] (fun i wr => ∃ k : Nat, k ≤ n ∧ i = .int .i64 k ∧ Hid (Below w.heap.size w wr)) (fun i _ => n - (intOf i).toNat)
    case atStart => exact ⟨0, by omega, rfl, Below.refl _ _⟩
    case round =>
      obtain ⟨k, hk, rfl, HB⟩ := hrel
      by_cases hlt : k < n
      · obtain ⟨t, et⟩ : ∃ t, ts[k]? = some t := ⟨_, List.getElem?_eq_getElem (by rw [EN.out]; exact hlt)⟩
        obtain ⟨c0, c1, qx, cx, bx, qy, cy, b, c2, px, c3, py⟩ := (HC.out k t et).below HB.out
        obtain ⟨c0', c1', qx', cx', bx', qy', cy', b', c2', px', c3', py'⟩ := (HC'.out k t et).below HB.out
        have HB2 : Hid (Below w.heap.size w wr.drew) := HB.out.drew
        have PX := hide (px.below (Below.refl _ _).drew)
        have PY := hide (py.below (Below.refl _ _).drew)
        have PX' := hide (px'.below (Below.refl _ _).drew)
        have PY' := hide (py'.below (Below.refl _ _).drew)
        have lk : ((k : Nat) : Int) < (n : Nat) := by omega
        clear et px py px' py'
        go_wp2_with fail
        refine region_tail 8 (by kernel_rfl) (by kernel_rfl) ?_
        simp only [List.take_succ_cons, List.take_zero, List.drop_succ_cons, List.drop_zero]
        repeat still_step
        refine wpStill_nil ?_
        go_wp2_with fail
        refine (eqTabAtom t qx qx' cx cx' qy qy' cy cy' bx bx' b b' _ PX.out PY.out PX'.out PY'.out).mono ?_
        rintro e u ⟨rfl, hb⟩
        have HB3 := hide (HB2.out.trans (hb.mono HB2.out.size))
        clear hb
        go_wp2
        exact ⟨⟨k + 1, by omega, by go_num, HB3⟩, by simp [intOf]; omega⟩
      · go_wp2
        go_ret
        exact ⟨rfl, HB.out⟩
theorem eqTabTab (ts : List At) (B B' : Nat) (v v' : Value) (w : World) (h : TRow w B v ts) (h' : TRow w B' v' ts) :
    Calls Try.prog 11 #[.agg #[v], .agg #[v']] w fun e w' => e = .returned (.bool true) ∧ Below w.heap.size w w' := by
  have bV : Below w.heap.size w ((w.alloc (.cells #[v] 34)).alloc (.cells #[v'] 34)) := ((Below.refl _ _).alloc (Nat.le_refl _) _).alloc (by simp) _
  have H := hide (h.below bV)
  have H' := hide (h'.below bV)
  have BW := hide bV
  obtain ⟨a, cap, off, rfl, _⟩ := h
  obtain ⟨a', cap', off', rfl, _⟩ := h'
  clear bV
  go_enter Try.func11, Try.ntmps11
  go_wp2_with fail
  refine (eqTabAtomS ts B B' _ _ _ H.out H'.out).mono ?_
  rintro e u ⟨rfl, hb⟩
  replace BW := hide (BW.out.trans (hb.mono BW.out.size))
  clear hb
  go_wp2
  go_ret
  exact ⟨rfl, BW.out⟩
theorem four {l : List Value} (h : l.length = 4) : ∃ a b c d, l = [a, b, c, d] := by
  match l, h with
  | [a, b, c, d], _ => exact ⟨a, b, c, d, rfl⟩
set_option maxRecDepth 8000 in
theorem poly_hold {w : World} {n : Nat} {cs : List Value} (h : Shape.Holds Try.prog w (n + 5) 27 cs) : ∃ v ps B, cs = [v] ∧ PRow w B v ps := by
  obtain ⟨hl, hf⟩ := Shape.holds_struct (n := n + 4) Try.underlying27 h
  have e1 : Try.prog.cellsOf 27 = 1 := by kernel_rfl
  have es : Try.prog.cellsOf 25 = 1 := by kernel_rfl
  rw [e1] at hl
  obtain ⟨v, ps, B, q, r⟩ := monos_hold (n := n) (hf _ (List.mem_of_getElem? (i := 0) rfl))
  match cs, hl with
  | [a], _ =>
    simp [es] at q
    subst q
    exact ⟨_, ps, B, rfl, r⟩
set_option maxRecDepth 8000 in
theorem atoms_hold {w : World} {n : Nat} {cs : List Value} (h : Shape.Holds Try.prog w (n + 7) 22 cs) : ∃ v ts B, cs = [v] ∧ TRow w B v ts := by
  rcases Shape.holds_slice (n := n + 6) Try.underlying22 h with h | ⟨x, l, c, h, hl, hm, hx⟩
  · exact ⟨_, [], 0, h, ⟨none, 0, 0, rfl, Nat.le_refl _, by unfold maxLen; omega, fun _ => rfl, Or.inl rfl⟩⟩
  · have e4 : Try.prog.cellsOf 29 = 4 := by kernel_rfl
    have e1 : Try.prog.cellsOf 3 = 1 := by kernel_rfl
    have es : Try.prog.cellsOf 27 = 1 := by kernel_rfl
    have hc (i : Nat) (hi : i < l) : ∃ t : At, w.cell? (x.add (i * 4)) = some (.int .i64 t.kd) ∧ w.cell? (x.add (i * 4 + 1)) = some (.int .i64 t.k) ∧ ∃ vx bx vy b, w.cell? (x.add (i * 4 + 2)) = some vx ∧ PRow w bx vx t.x ∧ w.cell? (x.add (i * 4 + 3)) = some vy ∧ PRow w b vy t.y := by
      obtain ⟨xs, h1, h2, h3⟩ := hx i (by omega)
      rw [e4] at h1 h2
      obtain ⟨a, b, c, d, rfl⟩ := four h1
      obtain ⟨_, hf⟩ := Shape.holds_struct (n := n + 5) Try.underlying29 h3
      obtain ⟨v0, q0, _⟩ := Shape.holds_int (n := n + 4) Try.underlying3 (hf _ (List.mem_of_getElem? (i := 0) rfl))
      obtain ⟨v1, q1, _⟩ := Shape.holds_int (n := n + 4) Try.underlying3 (hf _ (List.mem_of_getElem? (i := 1) rfl))
      obtain ⟨v2, p2, b2, q2, r2⟩ := poly_hold (n := n) (hf _ (List.mem_of_getElem? (i := 2) rfl))
      obtain ⟨v3, p3, b3, q3, r3⟩ := poly_hold (n := n) (hf _ (List.mem_of_getElem? (i := 3) rfl))
      simp [e1, es] at q0 q1 q2 q3
      subst q0 q1 q2 q3
      exact ⟨⟨v0, v1, p2, p3⟩, h2 0 (by omega), h2 1 (by omega), _, b2, _, b3, h2 2 (by omega), r2, h2 3 (by omega), r3⟩
    obtain ⟨ts, e, hts⟩ := list_of l hc
    by_cases h0 : l = 0
    · subst h0
      refine ⟨_, [], 0, h, ⟨some x, c, 0, rfl, Nat.zero_le _, hm, (fun h => by cases h), Or.inl rfl⟩⟩
    · obtain ⟨b, o, spot⟩ := x
      obtain ⟨m0, hv0, _⟩ := hc 0 (by omega)
      have hspot : spot = none := by simpa [Addr.add] using World.cell?_spot hv0
      subst hspot
      refine ⟨_, ts, b, h, ⟨some ⟨b, o, none⟩, c, o, by rw [e], by omega, hm, (fun h => by cases h), Or.inr ⟨rfl, fun i m hi => ?_⟩⟩⟩
      obtain ⟨k1, k2, vx, bx, vy, b', k3, k4, k5, k6⟩ := hts i m hi
      rw [Go.WideShapes.add_plain] at k1 k2 k3 k5
      obtain ⟨qx, cx, _, rfl, w1⟩ := k4
      obtain ⟨qy, cy, _, rfl, w2⟩ := k6
      exact ⟨k1, by rw [Nat.add_assoc]; exact k2, qx, cx, bx, qy, cy, b', by rw [Nat.add_assoc]; exact k3, ⟨qx, cx, _, rfl, w1⟩, by rw [Nat.add_assoc]; exact k5, ⟨qy, cy, _, rfl, w2⟩⟩
set_option maxRecDepth 8000 in
theorem of_holds {w : World} {c : Array Value} (h : Shape.Holds Try.prog w 9 24 c.toList) : ∃ (v : Value) (ts : List At) (B : Nat), c = #[v] ∧ TRow w B v ts := by
  obtain ⟨hl, hf⟩ := Shape.holds_struct (n := 8) Try.underlying24 h
  have e1 : Try.prog.cellsOf 24 = 1 := by kernel_rfl
  have es : Try.prog.cellsOf 22 = 1 := by kernel_rfl
  rw [e1] at hl
  obtain ⟨v, ts, B, q, r⟩ := atoms_hold (n := 1) (hf _ (List.mem_of_getElem? (i := 0) rfl))
  obtain ⟨l⟩ := c
  match l, hl with
  | [a], _ =>
    simp [es] at q
    subst q
    exact ⟨_, ts, B, rfl, r⟩
end Go.Proofs.Ytagfgbkclopoeaa.Tab
