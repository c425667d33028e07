/-
  The laws' own toTabTab.
  The laws' own toTabTab and eqTabTab; atoms that came in as plain data can be read.
  Atoms in a slice that the call made, their sums in blocks of their own: what it is, and how one more is put behind.
-/
import Derived.Test.YtggilenddbobnaaGreatAl
import Derived.Test.YtggilenddbobnaaGreatJ11
namespace Go.Proofs.YtggilenddbobnaaGreat.Tab
set_option linter.unusedVariables false
open Go.ChangeShapes Go.WideShapes Go.ChangeAt Go.RowKit IntS Pol
def set4 (v : World) (B p : Nat) (a b c d : Value) : World := (((v.setCell ⟨B, p, none⟩ a).setCell ⟨B, p + 1, none⟩ b).setCell ⟨B, p + 2, none⟩ c).setCell ⟨B, p + 3, none⟩ d
theorem set4_far (v : World) (B p : Nat) (a b c d : Value) (q : Addr) (h : ∀ i, i < 4 → q ≠ ⟨B, p + i, none⟩) : (set4 v B p a b c d).cell? q = v.cell? q := by
 unfold set4
 rw [World.cell?_setCell_other _ _ _ _ (fun e => h 3 (by omega) e.symm), World.cell?_setCell_other _ _ _ _ (fun e => h 2 (by omega) e.symm), World.cell?_setCell_other _ _ _ _ (fun e => h 1 (by omega) e.symm), World.cell?_setCell_other _ _ _ _ (fun e => h 0 (by omega) (by rw [Nat.add_zero]; exact e.symm))]
theorem off_ne {B i j : Nat} (h : i ≠ j) : (⟨B, i, none⟩ : Addr) ≠ ⟨B, j, none⟩ := fun e => h (congrArg Addr.off e)
theorem set4_cells (v : World) (B p : Nat) (a b c d : Value) (h : ∀ i, i < 4 → ∃ y, v.cell? ⟨B, p + i, none⟩ = some y) : (set4 v B p a b c d).cell? ⟨B, p, none⟩ = some a ∧ (set4 v B p a b c d).cell? ⟨B, p + 1, none⟩ = some b ∧ (set4 v B p a b c d).cell? ⟨B, p + 2, none⟩ = some c ∧ (set4 v B p a b c d).cell? ⟨B, p + 3, none⟩ = some d := by
 obtain ⟨y0, h0⟩ := h 0 (by omega)
 obtain ⟨y1, h1⟩ := h 1 (by omega)
 obtain ⟨y2, h2⟩ := h 2 (by omega)
 obtain ⟨y3, h3⟩ := h 3 (by omega)
 unfold set4
 refine ⟨?_, ?_, ?_, ?_⟩
 · rw [World.cell?_setCell_other _ _ _ _ (off_ne (by omega)), World.cell?_setCell_other _ _ _ _ (off_ne (by omega)), World.cell?_setCell_other _ _ _ _ (off_ne (by omega))]
   exact World.cell?_setCell_same _ _ _ h0
 · rw [World.cell?_setCell_other _ _ _ _ (off_ne (by omega)), World.cell?_setCell_other _ _ _ _ (off_ne (by omega))]
   refine World.cell?_setCell_same _ _ _ (u := y1) ?_
   rw [World.cell?_setCell_other _ _ _ _ (off_ne (by omega))]
   exact h1
 · rw [World.cell?_setCell_other _ _ _ _ (off_ne (by omega))]
   refine World.cell?_setCell_same _ _ _ (u := y2) ?_
   rw [World.cell?_setCell_other _ _ _ _ (off_ne (by omega)), World.cell?_setCell_other _ _ _ _ (off_ne (by omega))]
   exact h2
 · refine World.cell?_setCell_same _ _ _ (u := y3) ?_
   rw [World.cell?_setCell_other _ _ _ _ (off_ne (by omega)), World.cell?_setCell_other _ _ _ _ (off_ne (by omega)), World.cell?_setCell_other _ _ _ _ (off_ne (by omega))]
   exact h3
theorem set4_soft (v : World) (B p : Nat) (a b c d : Value) (q : Addr) : (set4 v B p a b c d).frozen? q = v.frozen? q := by
 unfold set4
 rw [World.frozen?_setCell, World.frozen?_setCell, World.frozen?_setCell, World.frozen?_setCell]
theorem set4_turn (v : World) (B p : Nat) (a b c d : Value) : Turn B v (set4 v B p a b c d) :=
 ((((Turn.refl B v).setCell (p := ⟨B, p, none⟩) rfl a).setCell (p := ⟨B, p + 1, none⟩) rfl b).setCell (p := ⟨B, p + 2, none⟩) rfl c).setCell (p := ⟨B, p + 3, none⟩) rfl d
theorem set4_size (v : World) (B p : Nat) (a b c d : Value) : (set4 v B p a b c d).heap.size = v.heap.size := by unfold set4; simp only [setCell_size]
theorem poly_turn {B : Nat} {w w' : World} {lo hi : Nat} {v : Value} {ps : List Mono} (h : WPoly w lo hi v ps) (ht : Turn B w w') (hp : B < lo ∨ hi ≤ B) : WPoly w' lo hi v ps :=
 h.keep (Keep.of_turn ht) (fun b h1 h2 (h3 : b = _) => by omega)
/-- Where a list of atoms has been filled up to a place. -/
structure FillT (w : World) (n : Nat) (ts : List At) (j : Nat) (u : World) : Prop where
 below : Below w.heap.size w u
 lt : w.heap.size < u.heap.size
 done : ∃ l m h gx gy : Nat → Nat, (∀ (i : Nat) t, i < j → ts[i]? = some t → (u.cell? ⟨w.heap.size, i * 4, none⟩ = some (.int .i64 t.kd) ∧ u.cell? ⟨w.heap.size, i * 4 + 1, none⟩ = some (.int .i64 t.k) ∧ u.cell? ⟨w.heap.size, i * 4 + 2, none⟩ = some (.slice (some ⟨gx i, 0, none⟩) t.x.length t.x.length) ∧ u.cell? ⟨w.heap.size, i * 4 + 3, none⟩ = some (.slice (some ⟨gy i, 0, none⟩) t.y.length t.y.length)) ∧ WPoly u (l i) (m i) (.slice (some ⟨gx i, 0, none⟩) t.x.length t.x.length) t.x ∧ WPoly u (m i) (h i) (.slice (some ⟨gy i, 0, none⟩) t.y.length t.y.length) t.y ∧ w.heap.size < l i ∧ l i ≤ m i ∧ m i ≤ h i ∧ h i ≤ u.heap.size) ∧ ∀ i i', i < i' → i' < j → h i ≤ l i'
 left : ∀ i, i < n * 4 → ∃ y, u.cell? ⟨w.heap.size, i, none⟩ = some y
 soft : ∀ i, i < n * 4 → u.frozen? ⟨w.heap.size, i, none⟩ = false
theorem fillT_new (w : World) (n : Nat) (ts : List At) (t : TypeId) : FillT w n ts 0 (w.alloc (.cells (madeCells #[.int .i64 0, .int .i64 0, .slice none 0 0, .slice none 0 0] (n * 4)) t)) := by
 refine ⟨(Below.refl _ _).alloc (Nat.le_refl _) _, by simp, ⟨fun _ => 0, fun _ => 0, fun _ => 0, fun _ => 0, fun _ => 0, fun i x hi => by omega, fun i i' _ hi => by omega⟩, fun i hi => ?_, fun i hi => by simp⟩
 rw [World.cell?_alloc_new]
 have : i < (madeCells #[Value.int .i64 0, .int .i64 0, .slice none 0 0, .slice none 0 0] (n * 4)).size := by rw [size_madeCells]; exact hi
 exact ⟨_, Array.getElem?_eq_getElem this⟩
theorem FillT.next {w u u' : World} {n j gx gy mid : Nat} {ts : List At} {t : At} (h : FillT w n ts j u) (hj : j < n) (ht : ts[j]? = some t) (hb : Below u.heap.size u u') (hx : WPoly u' u.heap.size mid (.slice (some ⟨gx, 0, none⟩) t.x.length t.x.length) t.x) (hy : WPoly u' mid u'.heap.size (.slice (some ⟨gy, 0, none⟩) t.y.length t.y.length) t.y) (m1 : u.heap.size ≤ mid) (m2 : mid ≤ u'.heap.size) :
 FillT w n ts (j + 1) (set4 u' w.heap.size (j * 4) (.int .i64 t.kd) (.int .i64 t.k) (.slice (some ⟨gx, 0, none⟩) t.x.length t.x.length) (.slice (some ⟨gy, 0, none⟩) t.y.length t.y.length)) := by
 have hl := h.lt
 have hs := hb.size
 have N := set4_cells u' w.heap.size (j * 4) (.int .i64 t.kd) (.int .i64 t.k) (.slice (some ⟨gx, 0, none⟩) t.x.length t.x.length) (.slice (some ⟨gy, 0, none⟩) t.y.length t.y.length) (fun i hi => by
  obtain ⟨y, hy⟩ := h.left (j * 4 + i) (by omega)
  exact ⟨y, cell_below hb hy⟩)
 have F := set4_far u' w.heap.size (j * 4) (.int .i64 t.kd) (.int .i64 t.k) (.slice (some ⟨gx, 0, none⟩) t.x.length t.x.length) (.slice (some ⟨gy, 0, none⟩) t.y.length t.y.length)
 have S := set4_soft u' w.heap.size (j * 4) (.int .i64 t.kd) (.int .i64 t.k) (.slice (some ⟨gx, 0, none⟩) t.x.length t.x.length) (.slice (some ⟨gy, 0, none⟩) t.y.length t.y.length)
 have U := set4_turn u' w.heap.size (j * 4) (.int .i64 t.kd) (.int .i64 t.k) (.slice (some ⟨gx, 0, none⟩) t.x.length t.x.length) (.slice (some ⟨gy, 0, none⟩) t.y.length t.y.length)
 have Z := set4_size u' w.heap.size (j * 4) (.int .i64 t.kd) (.int .i64 t.k) (.slice (some ⟨gx, 0, none⟩) t.x.length t.x.length) (.slice (some ⟨gy, 0, none⟩) t.y.length t.y.length)
 have BB : Below w.heap.size w (set4 u' w.heap.size (j * 4) (.int .i64 t.kd) (.int .i64 t.k) (.slice (some ⟨gx, 0, none⟩) t.x.length t.x.length) (.slice (some ⟨gy, 0, none⟩) t.y.length t.y.length)) := ((((h.below.trans (hb.mono h.below.size)).setCell (p := ⟨w.heap.size, j * 4, none⟩) (Nat.le_refl _) _).setCell (p := ⟨w.heap.size, j * 4 + 1, none⟩) (Nat.le_refl _) _).setCell (p := ⟨w.heap.size, j * 4 + 2, none⟩) (Nat.le_refl _) _).setCell (p := ⟨w.heap.size, j * 4 + 3, none⟩) (Nat.le_refl _) _
 generalize set4 u' w.heap.size (j * 4) (.int .i64 t.kd) (.int .i64 t.k) (.slice (some ⟨gx, 0, none⟩) t.x.length t.x.length) (.slice (some ⟨gy, 0, none⟩) t.y.length t.y.length) = V at *
 obtain ⟨l, m, hh, px, py, hd, hinc⟩ := h.done
 have far (i d : Nat) (hi : i ≠ j) (hd : d < 4) : V.cell? ⟨w.heap.size, i * 4 + d, none⟩ = u'.cell? ⟨w.heap.size, i * 4 + d, none⟩ := F _ (fun k hk => off_ne (by omega))
 refine ⟨BB, by rw [Z]; omega, ⟨fun i => if i < j then l i else u.heap.size, fun i => if i < j then m i else mid, fun i => if i < j then hh i else u'.heap.size, fun i => if i < j then px i else gx, fun i => if i < j then py i else gy, fun i z hi hz => ?_, fun i i' hi hi' => ?_⟩, fun i hi => ?_, fun i hi => ?_⟩
 · by_cases e : i < j
   · simp only [if_pos e]
     obtain ⟨⟨k1, k2, k3, k4⟩, k5, k6, k7, k8, k9, k10⟩ := hd i z e hz
     have b5 : WPoly u' (l i) (m i) (.slice (some ⟨px i, 0, none⟩) z.x.length z.x.length) z.x := k5.below hb
     have b6 : WPoly u' (m i) (hh i) (.slice (some ⟨py i, 0, none⟩) z.y.length z.y.length) z.y := k6.below hb
     refine ⟨⟨?_, ?_, ?_, ?_⟩, poly_turn b5 U (Or.inl k7), poly_turn b6 U (Or.inl (by omega)), k7, k8, k9, by rw [Z]; omega⟩
     · exact (far i 0 (by omega) (by omega)).trans (cell_below hb k1)
     · exact (far i 1 (by omega) (by omega)).trans (cell_below hb k2)
     · exact (far i 2 (by omega) (by omega)).trans (cell_below hb k3)
     · exact (far i 3 (by omega) (by omega)).trans (cell_below hb k4)
   · obtain rfl : i = j := by omega
     rw [ht] at hz
     obtain rfl := Option.some.inj hz
     simp only [if_neg e]
     exact ⟨N, poly_turn hx U (Or.inl hl), poly_turn hy U (Or.inl (by omega)), hl, m1, m2, by rw [Z]; exact Nat.le_refl _⟩
 · by_cases e' : i' < j
   · simp only [if_pos e', if_pos (show i < j by omega)]
     exact hinc i i' hi e'
   · have : i < j := by omega
     simp only [if_neg e', if_pos this]
     obtain ⟨z, hz⟩ : ∃ z, ts[i]? = some z := ⟨_, List.getElem?_eq_getElem (by have := (List.getElem?_eq_some_iff.1 ht).1; omega)⟩
     exact (hd i z (by omega) hz).2.2.2.2.2.2
 · by_cases q : j * 4 ≤ i ∧ i < j * 4 + 4
   · have : i = j * 4 ∨ i = j * 4 + 1 ∨ i = j * 4 + 2 ∨ i = j * 4 + 3 := by omega
     rcases this with rfl | rfl | rfl | rfl
     · exact ⟨_, N.1⟩
     · exact ⟨_, N.2.1⟩
     · exact ⟨_, N.2.2.1⟩
     · exact ⟨_, N.2.2.2⟩
   · rw [F _ (fun k hk => off_ne (by omega))]
     obtain ⟨y, hy⟩ := h.left i hi
     exact ⟨y, cell_below hb hy⟩
 · rw [S]
   have e := hb.block w.heap.size h.lt
   rw [World.frozen?_of_block (w := u) (a := ⟨w.heap.size, i, none⟩) e]
   exact h.soft i hi
/-- Atoms whose lists lie in blocks of their own, from block lo on, below hi. -/
structure WT (w : World) (lo hi : Nat) (a : Option Addr) (G cap : Nat) (l m h : Nat → Nat) (sx sy : Nat → Value) (ts : List At) : Prop where
 le : ts.length ≤ cap
 mx : cap ≤ maxLen
 nl : a = none → cap = 0
 at_ : ts = [] ∨ (a = some ⟨G, 0, none⟩ ∧ lo ≤ G ∧ G < hi ∧ G < w.heap.size)
 cells : ∀ (i : Nat) t, ts[i]? = some t → (w.cell? ⟨G, i * 4, none⟩ = some (.int .i64 t.kd) ∧ w.frozen? ⟨G, i * 4, none⟩ = false ∧ w.cell? ⟨G, i * 4 + 1, none⟩ = some (.int .i64 t.k) ∧ w.frozen? ⟨G, i * 4 + 1, none⟩ = false ∧ w.cell? ⟨G, i * 4 + 2, none⟩ = some (sx i) ∧ w.cell? ⟨G, i * 4 + 3, none⟩ = some (sy i)) ∧ WPoly w (l i) (m i) (sx i) t.x ∧ WPoly w (m i) (h i) (sy i) t.y ∧ lo ≤ l i ∧ l i ≤ m i ∧ m i ≤ h i ∧ h i ≤ hi ∧ (G < l i ∨ h i ≤ G)
 apart : ∀ i j : Nat, i < j → j < ts.length → h i ≤ l j
structure WTab (w : World) (lo hi : Nat) (v : Value) (ts : List At) : Prop where
 ex : ∃ (a : Option Addr) (G cap : Nat) (l m h : Nat → Nat) (sx sy : Nat → Value), v = .slice a ts.length cap ∧ WT w lo hi a G cap l m h sx sy ts
theorem WTab.read {w : World} {lo hi : Nat} {v : Value} {ts : List At} (h : WTab w lo hi v ts) : ∃ B, TRow w B v ts := by
 obtain ⟨a, G, cap, l, m, hh, sx, sy, h1, h⟩ := h
 refine ⟨G, a, cap, 0, h1, h.le, h.mx, h.nl, h.at_.imp id (fun q => ⟨q.1, fun i x hx => ?_⟩)⟩
 obtain ⟨⟨k1, -, k2, -, k3, k4⟩, k5, k6, _⟩ := h.cells i x hx
 rw [Nat.zero_add]
 obtain ⟨bx, rx⟩ := k5.read
 obtain ⟨b, ry⟩ := k6.read
 obtain ⟨qx, _, cx, _, _, e1, _⟩ := k5
 obtain ⟨qy, _, cy, _, _, e2, _⟩ := k6
 rw [e1] at k3 rx
 rw [e2] at k4 ry
 exact ⟨k1, k2, qx, cx, bx, qy, cy, b, k3, rx, k4, ry⟩
theorem FillT.whole {w u : World} {n : Nat} {ts : List At} (h : FillT w n ts n u) (hn : ts.length = n) (hm : n ≤ maxLen) : WTab u w.heap.size u.heap.size (.slice (some ⟨w.heap.size, 0, none⟩) n n) ts := by
 obtain ⟨l, m, hh, gx, gy, hd, hinc⟩ := h.done
 refine ⟨some ⟨w.heap.size, 0, none⟩, w.heap.size, n, l, m, hh, fun i => .slice (some ⟨gx i, 0, none⟩) (ts.getD i ⟨0, 0, [], []⟩).x.length (ts.getD i ⟨0, 0, [], []⟩).x.length, fun i => .slice (some ⟨gy i, 0, none⟩) (ts.getD i ⟨0, 0, [], []⟩).y.length (ts.getD i ⟨0, 0, [], []⟩).y.length, by rw [hn], by omega, hm, (fun h => by cases h), Or.inr ⟨rfl, Nat.le_refl _, h.lt, h.lt⟩, fun i x hx => ?_, fun i j hij hj => hinc i j hij (by omega)⟩
 have hi : i < n := by rw [← hn]; exact (List.getElem?_eq_some_iff.1 hx).1
 obtain ⟨⟨k1, k2, k3, k4⟩, k5, k6, k7, k8, k9, k10⟩ := hd i x hi hx
 have e : ts.getD i ⟨0, 0, [], []⟩ = x := by simp [List.getD, hx]
 simp only [e]
 exact ⟨⟨k1, h.soft _ (by omega), k2, h.soft _ (by omega), k3, k4⟩, k5, k6, by omega, k8, k9, k10, Or.inl k7⟩
theorem make_atoms (n : Nat) (hn : n ≤ 1048576) (w : World) : (Instr.makeSlice 30 (.int .i64 (n : Int)) (.int .i64 (n : Int))).run Tryz.prog w = .ok (.slice (some ⟨w.heap.size, 0, none⟩) n n) (w.alloc (.cells (madeCells #[.int .i64 0, .int .i64 0, .slice none 0 0, .slice none 0 0] (n * 4)) 63)) := by
 have hinfo : (Tryz.prog.info? 63).map (fun i => (i.zero, i.size, i.bytes)) = some (some (.agg #[.int .i64 0, .int .i64 0, .slice none 0 0, .slice none 0 0]), 4, 64) := by kernel_rfl
 obtain ⟨i, hi, hzz⟩ := Option.map_eq_some_iff.1 hinfo
 simp only [Prod.mk.injEq] at hzz
 obtain ⟨hz, hs, hb⟩ := hzz
 have hr := run_make (P := Tryz.prog) w 30 63 i _ Tryz.underlying30 hi hz .i64 .i64 n n (by omega) (Int.le_refl _) (by rw [hb]; omega) (by omega)
 simp only [Int.toNat_natCast, hs] at hr
 exact hr
set_option maxRecDepth 8000 in
set_option maxHeartbeats 4000000 in
theorem toTabAtomS (ts : List At) (B : Nat) (v : Value) (w : World) (h : TRow w B v ts) (hs : SmallT ts) :
 Calls Tryz.prog 23 #[v] w fun e w' => ∃ G, e = .returned (.slice (some ⟨G, 0, none⟩) ts.length ts.length) ∧ WTab w' w.heap.size w'.heap.size (.slice (some ⟨G, 0, none⟩) ts.length ts.length) ts ∧ Below w.heap.size w w' := by
 obtain ⟨a, cap, off, rfl, h2, h3, hz, h4⟩ := h
 unfold maxLen at h3
 clear hz
 obtain ⟨n, en⟩ : ∃ n, ts.length = n := ⟨_, rfl⟩
 have EN := hide en
 have hn : n ≤ 1048576 := by unfold SmallT at hs; omega
 have HS := hide hs
 have M0 := hide (fillT_new w n ts 63)
 have hmk := make_atoms n hn w
 rw [en] at h2 ⊢
 have H4 := hide h4
 clear en h4 hs
 by_cases n0 : n = 0
 · subst n0
   have FF := hide (M0.out.whole EN.out (by unfold maxLen; omega))
   have FB := hide M0.out.below
   clear M0 H4
   replace hmk : (Instr.makeSlice 30 (.int .i64 0) (.int .i64 0)).run Tryz.prog w = .ok (.slice (some ⟨w.heap.size, 0, none⟩) 0 0) (w.alloc (.cells (madeCells #[.int .i64 0, .int .i64 0, .slice none 0 0, .slice none 0 0] (0 * 4)) 63)) := hmk
   generalize w.alloc (.cells (madeCells #[.int .i64 0, .int .i64 0, .slice none 0 0, .slice none 0 0] (0 * 4)) 63) = U at hmk FF FB
   go_enter Tryz.func23, Tryz.ntmps23
   go_wp2
   refine wp_loop_rounds 1 ?_
   rw [rounds_succ]
   go_wp2
   go_ret
   exact ⟨w.heap.size, rfl, FF.out, FB.out⟩
 · obtain ⟨rfl, hc⟩ := H4.out.resolve_left (fun e => n0 (by rw [← EN.out, e]; rfl))
   have HC := hide hc
   clear hc H4
   generalize w.alloc (.cells (madeCells #[.int .i64 0, .int .i64 0, .slice none 0 0, .slice none 0 0] (n * 4)) 63) = U at hmk M0
   go_enter Tryz.func23, Tryz.ntmps23
   go_wp2
   clear hmk
   go_loopw [4] (fun i wr => ∃ k : Nat, k ≤ n ∧ i = .int .i64 k ∧ Hid (FillT w n ts k wr)) (fun i _ => n - (intOf i).toNat)
   case atStart => exact ⟨0, by omega, rfl, M0⟩
   case round =>
    obtain ⟨k, hk, rfl, HF⟩ := hrel
    by_cases hlt : k < n
    · obtain ⟨t, et⟩ : ∃ t, ts[k]? = some t := ⟨_, List.getElem?_eq_getElem (by rw [EN.out]; exact hlt)⟩
      obtain ⟨c0, c1, qx, cx, bx, qy, cy, b, c2, px, c3, py⟩ := HC.out k t et
      have d0 := cell_below HF.out.below c0
      have d1 := cell_below HF.out.below c1
      have d2 := cell_below HF.out.below c2
      have d3 := cell_below HF.out.below c3
      have PX := hide (px.below HF.out.below)
      have PY := hide (py.below HF.out.below)
      have lk : ((k : Nat) : Int) < (n : Nat) := by omega
      have LA : Hid (szA t ≤ 1048576) := show _ ≤ _ by have := totT_at et; have := HS.out; unfold SmallT at this; omega
      have ET := hide et
      clear et c0 c1 c2 c3 px py
      go_wp2_with fail
      refine (toTabAtom t qx cx qy cy bx b _ PX.out PY.out LA.out).mono ?_
      rintro e u ⟨gx, gy, mid, rfl, RX, RY, m1, m2, hb⟩
      have NX := hide (FillT.next HF.out hlt ET.out hb RX RY m1 m2)
      obtain ⟨y0, e0⟩ := HF.out.left (k * 4) (by omega)
      obtain ⟨y1, e1⟩ := HF.out.left (k * 4 + 1) (by omega)
      obtain ⟨y2, e2⟩ := HF.out.left (k * 4 + 2) (by omega)
      obtain ⟨y3, e3⟩ := HF.out.left (k * 4 + 3) (by omega)
      have p0 := cell_below hb e0
      have p1 := cell_below hb e1
      have p2 := cell_below hb e2
      have p3 := cell_below hb e3
      have ff (i : Nat) (hi : i < n * 4) : u.frozen? ⟨w.heap.size, i, none⟩ = false := by rw [World.frozen?_of_block (w := wr) (a := ⟨w.heap.size, i, none⟩) (hb.block w.heap.size HF.out.lt)]; exact HF.out.soft _ hi
      have f0 := ff (k * 4) (by omega)
      have f1 := ff (k * 4 + 1) (by omega)
      have f2 := ff (k * 4 + 2) (by omega)
      have f3 := ff (k * 4 + 3) (by omega)
      have lw : w.heap.size < u.heap.size := Nat.lt_of_lt_of_le HF.out.lt hb.size
      unfold set4 at NX
      clear hb RX RY m1 m2 e0 e1 e2 e3 d0 d1 d2 d3 HF PX PY ff
      go_wp2
      exact ⟨⟨k + 1, by omega, by go_num, NX⟩, by simp [intOf]; omega⟩
    · obtain rfl : k = n := by omega
      have FF := hide (HF.out.whole EN.out (by unfold maxLen; omega))
      have FB := hide HF.out.below
      clear HF
      go_wp2
      go_ret
      exact ⟨w.heap.size, rfl, FF.out, FB.out⟩
end Go.Proofs.YtggilenddbobnaaGreat.Tab
namespace Go.Proofs.YtggilenddbobnaaGreat.Tab
set_option linter.unusedVariables false
open Go.ChangeShapes Go.WideShapes Go.ChangeAt Go.RowKit IntS Pol
theorem WT.keep {S : Nat → Prop} {w w' : World} {lo hi : Nat} {a : Option Addr} {G cap : Nat} {l m h : Nat → Nat} {sx sy : Nat → Value} {ts : List At} (q : WT w lo hi a G cap l m h sx sy ts) (hk : Keep S w w') (hS : ∀ b, lo ≤ b → b < hi → ¬ S b) : WT w' lo hi a G cap l m h sx sy ts := by
 refine ⟨q.le, q.mx, q.nl, q.at_.imp id (fun q => ⟨q.1, q.2.1, q.2.2.1, Nat.lt_of_lt_of_le q.2.2.2 hk.size⟩), fun i x hx => ?_, q.apart⟩
 obtain ⟨⟨k1, k2, k3, k4, k5, k6⟩, k7, k8, k9, k10, k11, k12, k13⟩ := q.cells i x hx
 have hG := q.at_.resolve_left (fun e => by rw [e] at hx; simp at hx)
 have e := hk.block G hG.2.2.2 (hS G hG.2.1 hG.2.2.1)
 exact ⟨⟨(World.cell?_of_block (w := w) (a := ⟨G, i * 4, none⟩) e).trans k1, (World.frozen?_of_block (w := w) (a := ⟨G, i * 4, none⟩) e).trans k2, (World.cell?_of_block (w := w) (a := ⟨G, i * 4 + 1, none⟩) e).trans k3, (World.frozen?_of_block (w := w) (a := ⟨G, i * 4 + 1, none⟩) e).trans k4, (World.cell?_of_block (w := w) (a := ⟨G, i * 4 + 2, none⟩) e).trans k5, (World.cell?_of_block (w := w) (a := ⟨G, i * 4 + 3, none⟩) e).trans k6⟩, k7.keep hk (fun b h1 h2 => hS b (by omega) (by omega)), k8.keep hk (fun b h1 h2 => hS b (by omega) (by omega)), k9, k10, k11, k12, k13⟩
theorem WTab.keep {S : Nat → Prop} {w w' : World} {lo hi : Nat} {v : Value} {ts : List At} (q : WTab w lo hi v ts) (hk : Keep S w w') (hS : ∀ b, lo ≤ b → b < hi → ¬ S b) : WTab w' lo hi v ts := by
 obtain ⟨a, G, cap, l, m, h, sx, sy, h1, h2⟩ := q
 exact ⟨a, G, cap, l, m, h, sx, sy, h1, h2.keep hk hS⟩
theorem WTab.below {w w' : World} {lo hi : Nat} {v : Value} {ts : List At} (h : WTab w lo hi v ts) (hb : Below w.heap.size w w') : WTab w' lo hi v ts := h.keep (Keep.of_below (S := fun _ => False) hb) (fun _ _ _ h => h)
theorem WTab.wide {w : World} {lo hi lo' hi' : Nat} {v : Value} {ts : List At} (q : WTab w lo hi v ts) (hl : lo' ≤ lo) (hh : hi ≤ hi') : WTab w lo' hi' v ts := by
 obtain ⟨a, G, cap, l, m, h, sx, sy, h1, q⟩ := q
 refine ⟨a, G, cap, l, m, h, sx, sy, h1, q.le, q.mx, q.nl, q.at_.imp id (fun q => ⟨q.1, by omega, by omega, q.2.2.2⟩), fun i x hx => ?_, q.apart⟩
 obtain ⟨k1, k7, k8, k9, k10, k11, k12, k13⟩ := q.cells i x hx
 exact ⟨k1, k7, k8, by omega, k10, k11, by omega, k13⟩
set_option maxRecDepth 8000 in
set_option maxHeartbeats 4000000 in
theorem toTabTab (ts : List At) (B : Nat) (v : Value) (w : World) (h : TRow w B v ts) (hs : SmallT ts) :
 Calls Tryz.prog 7 #[.agg #[v]] w fun e w' => ∃ G, e = .returned (.agg #[.slice (some ⟨G, 0, none⟩) ts.length ts.length]) ∧ WTab w' w.heap.size w'.heap.size (.slice (some ⟨G, 0, none⟩) ts.length ts.length) ts ∧ Below w.heap.size w w' := by
 have T := hide (Three.new w [v] [.slice none 0 0] [.slice none 0 0] 24 32 32)
 have H := hide h
 have HS := hide hs
 obtain ⟨a, cap, off, rfl, _⟩ := h
 clear hs
 go_enter Tryz.func7, Tryz.ntmps7
 go_wp2_with fail
 refine (toTabAtomS ts B _ _ (H.out.below T.out.bw) HS.out).mono ?_
 rintro e u ⟨G, rfl, W, hb⟩
 have T0 := T.out.o.lt
 have T1 := T.out.below hb
 have gl := hb.size
 clear T hb
 have o0 := T1.o.cell 0 _ rfl
 have f0 := T1.o.soft 0
 have y0 := T1.z.cell 0 _ rfl
 have x0 := T1.z.soft 0
 have K1 : Keep (fun k => k = w.heap.size + 1 + 1) u (u.setCell ⟨w.heap.size + 1 + 1, 0, none⟩ (.slice (some ⟨G, 0, none⟩) ts.length ts.length)) := Keep.of_turn ((Turn.refl (w.heap.size + 1 + 1) u).setCell (p := ⟨w.heap.size + 1 + 1, 0, none⟩) rfl _)
 have K2 : Keep (fun k => k = w.heap.size + 1) (u.setCell ⟨w.heap.size + 1 + 1, 0, none⟩ (.slice (some ⟨G, 0, none⟩) ts.length ts.length)) ((u.setCell ⟨w.heap.size + 1 + 1, 0, none⟩ (.slice (some ⟨G, 0, none⟩) ts.length ts.length)).setCell ⟨w.heap.size + 1, 0, none⟩ (.slice (some ⟨G, 0, none⟩) ts.length ts.length)) := Keep.of_turn ((Turn.refl (w.heap.size + 1) _).setCell (p := ⟨w.heap.size + 1, 0, none⟩) rfl _)
 have W2 := ((W.keep K1 (fun b h1 h2 (h3 : b = _) => by omega)).keep K2 (fun b h1 h2 (h3 : b = _) => by omega))
 have sz : ((u.setCell ⟨w.heap.size + 1 + 1, 0, none⟩ (.slice (some ⟨G, 0, none⟩) ts.length ts.length)).setCell ⟨w.heap.size + 1, 0, none⟩ (.slice (some ⟨G, 0, none⟩) ts.length ts.length)).heap.size = u.heap.size := by simp [World.setCell]
 have W3 := hide (W2.wide (lo' := w.heap.size) (hi' := ((u.setCell ⟨w.heap.size + 1 + 1, 0, none⟩ (.slice (some ⟨G, 0, none⟩) ts.length ts.length)).setCell ⟨w.heap.size + 1, 0, none⟩ (.slice (some ⟨G, 0, none⟩) ts.length ts.length)).heap.size) (by omega) (by omega))
 have BB := hide ((T1.bw.setCell (p := ⟨w.heap.size + 1 + 1, 0, none⟩) (by show w.heap.size ≤ w.heap.size + 1 + 1; omega) (.slice (some ⟨G, 0, none⟩) ts.length ts.length)).setCell (p := ⟨w.heap.size + 1, 0, none⟩) (by show w.heap.size ≤ w.heap.size + 1; omega) (.slice (some ⟨G, 0, none⟩) ts.length ts.length))
 have ZZ := hide ((T1.z.other ⟨w.heap.size + 1 + 1, 0, none⟩ (.slice (some ⟨G, 0, none⟩) ts.length ts.length) (by show w.heap.size + 1 + 1 ≠ w.heap.size + 1; omega)).set 0 (.slice (some ⟨G, 0, none⟩) ts.length ts.length) (by simp) (show _ = [.slice (some ⟨G, 0, none⟩) ts.length ts.length] from rfl))
 clear T1 W W2 K1 K2 H HS sz T0 gl
 go_wp2
 generalize ((u.setCell ⟨w.heap.size + 1 + 1, 0, none⟩ (.slice (some ⟨G, 0, none⟩) ts.length ts.length)).setCell ⟨w.heap.size + 1, 0, none⟩ (.slice (some ⟨G, 0, none⟩) ts.length ts.length)) = V at W3 BB ZZ ⊢
 have z0 := ZZ.out.cell 0 _ rfl
 exact bodyPost_ret (v := .agg #[.slice (some ⟨G, 0, none⟩) ts.length ts.length]) (by simp [results, Tryz.results7, go_sem, z0]) rfl ⟨G, rfl, W3.out, BB.out⟩
set_option maxRecDepth 8000 in
set_option maxHeartbeats 4000000 in
theorem eqTabAtomS (ts : List At) (B B' : Nat) (v v' : Value) (w : World) (h : TRow w B v ts) (h' : TRow w B' v' ts) :
 Calls Tryz.prog 33 #[v, v'] w fun e w' => e = .returned (.bool true) ∧ Below w.heap.size w w' := by
 obtain ⟨a, cap, off, rfl, h2, h3, hz, h4⟩ := h
 obtain ⟨a', cap', off', rfl, h2', h3', hz', h4'⟩ := h'
 unfold maxLen at h3 h3'
 clear hz hz'
 obtain ⟨n, en⟩ : ∃ n, ts.length = n := ⟨_, rfl⟩
 have EN := hide en
 rw [en] at h2 h2' ⊢
 have H4 := hide h4
 have H4' := hide h4'
 have nn : ((n : Int) != (n : Int)) = false := by simp
 clear en h4 h4'
 go_enter Tryz.func33, Tryz.ntmps33
 by_cases n0 : n = 0
 · subst n0
   go_wp2
   refine wp_loop_rounds 1 ?_
   rw [rounds_succ]
   go_wp2
   go_ret
   exact ⟨rfl, Below.refl _ _⟩
 · obtain ⟨rfl, hc⟩ := H4.out.resolve_left (fun e => n0 (by rw [← EN.out, e]; rfl))
   obtain ⟨rfl, hc'⟩ := H4'.out.resolve_left (fun e => n0 (by rw [← EN.out, e]; rfl))
   have HC := hide hc
   have HC' := hide hc'
   clear hc hc' H4 H4'
   go_wp2
   go_loopw [5] (fun i wr => ∃ k : Nat, k ≤ n ∧ i = .int .i64 k ∧ Hid (Below w.heap.size w wr)) (fun i _ => n - (intOf i).toNat)
   case atStart => exact ⟨0, by omega, rfl, Below.refl _ _⟩
   case round =>
    obtain ⟨k, hk, rfl, HB⟩ := hrel
    by_cases hlt : k < n
    · obtain ⟨t, et⟩ : ∃ t, ts[k]? = some t := ⟨_, List.getElem?_eq_getElem (by rw [EN.out]; exact hlt)⟩
      obtain ⟨c0, c1, qx, cx, bx, qy, cy, b, c2, px, c3, py⟩ := (HC.out k t et).below HB.out
      obtain ⟨c0', c1', qx', cx', bx', qy', cy', b', c2', px', c3', py'⟩ := (HC'.out k t et).below HB.out
      have HB2 : Hid (Below w.heap.size w wr.drew) := HB.out.drew
      have PX := hide (px.below (Below.refl _ _).drew)
      have PY := hide (py.below (Below.refl _ _).drew)
      have PX' := hide (px'.below (Below.refl _ _).drew)
      have PY' := hide (py'.below (Below.refl _ _).drew)
      have lk : ((k : Nat) : Int) < (n : Nat) := by omega
      clear et px py px' py'
      go_wp2_with fail
      refine region_tail 8 (by kernel_rfl) (by kernel_rfl) ?_
      simp only [List.take_succ_cons, List.take_zero, List.drop_succ_cons, List.drop_zero]
      repeat still_step
      refine wpStill_nil ?_
      go_wp2_with fail
      refine (eqTabAtom t qx qx' cx cx' qy qy' cy cy' bx bx' b b' _ PX.out PY.out PX'.out PY'.out).mono ?_
      rintro e u ⟨rfl, hb⟩
      have HB3 := hide (HB2.out.trans (hb.mono HB2.out.size))
      clear hb
      go_wp2
      exact ⟨⟨k + 1, by omega, by go_num, HB3⟩, by simp [intOf]; omega⟩
    · go_wp2
      go_ret
      exact ⟨rfl, HB.out⟩
theorem eqTabTab (ts : List At) (B B' : Nat) (v v' : Value) (w : World) (h : TRow w B v ts) (h' : TRow w B' v' ts) :
 Calls Tryz.prog 10 #[.agg #[v], .agg #[v']] w fun e w' => e = .returned (.bool true) ∧ Below w.heap.size w w' := by
 have bV : Below w.heap.size w ((w.alloc (.cells #[v] 32)).alloc (.cells #[v'] 32)) := ((Below.refl _ _).alloc (Nat.le_refl _) _).alloc (by simp) _
 have H := hide (h.below bV)
 have H' := hide (h'.below bV)
 have BW := hide bV
 obtain ⟨a, cap, off, rfl, _⟩ := h
 obtain ⟨a', cap', off', rfl, _⟩ := h'
 clear bV
 go_enter Tryz.func10, Tryz.ntmps10
 go_wp2_with fail
 refine (eqTabAtomS ts B B' _ _ _ H.out H'.out).mono ?_
 rintro e u ⟨rfl, hb⟩
 replace BW := hide (BW.out.trans (hb.mono BW.out.size))
 clear hb
 go_wp2
 go_ret
 exact ⟨rfl, BW.out⟩
theorem four {l : List Value} (h : l.length = 4) : ∃ a b c d, l = [a, b, c, d] := by
 match l, h with
 | [a, b, c, d], _ => exact ⟨a, b, c, d, rfl⟩
set_option maxRecDepth 8000 in
theorem poly_hold {w : World} {n : Nat} {cs : List Value} (h : Shape.Holds Tryz.prog w (n + 5) 27 cs) : ∃ v ps B, cs = [v] ∧ PRow w B v ps := by
 obtain ⟨hl, hf⟩ := Shape.holds_struct (n := n + 4) Tryz.underlying27 h
 have e1 : Tryz.prog.cellsOf 27 = 1 := by kernel_rfl
 have es : Tryz.prog.cellsOf 25 = 1 := by kernel_rfl
 rw [e1] at hl
 obtain ⟨v, ps, B, q, r⟩ := monos_hold (n := n) (hf _ (List.mem_of_getElem? (i := 0) rfl))
 match cs, hl with
 | [a], _ =>
  simp [es] at q
  subst q
  exact ⟨_, ps, B, rfl, r⟩
set_option maxRecDepth 8000 in
theorem atoms_hold {w : World} {n : Nat} {cs : List Value} (h : Shape.Holds Tryz.prog w (n + 7) 22 cs) : ∃ v ts B, cs = [v] ∧ TRow w B v ts := by
 rcases Shape.holds_slice (n := n + 6) Tryz.underlying22 h with h | ⟨x, l, c, h, hl, hm, hx⟩
 · exact ⟨_, [], 0, h, ⟨none, 0, 0, rfl, Nat.le_refl _, by unfold maxLen; omega, fun _ => rfl, Or.inl rfl⟩⟩
 · have e4 : Tryz.prog.cellsOf 71 = 4 := by kernel_rfl
   have e1 : Tryz.prog.cellsOf 3 = 1 := by kernel_rfl
   have es : Tryz.prog.cellsOf 27 = 1 := by kernel_rfl
   have hc (i : Nat) (hi : i < l) : ∃ t : At, w.cell? (x.add (i * 4)) = some (.int .i64 t.kd) ∧ w.cell? (x.add (i * 4 + 1)) = some (.int .i64 t.k) ∧ ∃ vx bx vy b, w.cell? (x.add (i * 4 + 2)) = some vx ∧ PRow w bx vx t.x ∧ w.cell? (x.add (i * 4 + 3)) = some vy ∧ PRow w b vy t.y := by
    obtain ⟨xs, h1, h2, h3⟩ := hx i (by omega)
    rw [e4] at h1 h2
    obtain ⟨a, b, c, d, rfl⟩ := four h1
    obtain ⟨_, hf⟩ := Shape.holds_struct (n := n + 5) Tryz.underlying71 h3
    obtain ⟨v0, q0, _⟩ := Shape.holds_int (n := n + 4) Tryz.underlying3 (hf _ (List.mem_of_getElem? (i := 0) rfl))
    obtain ⟨v1, q1, _⟩ := Shape.holds_int (n := n + 4) Tryz.underlying3 (hf _ (List.mem_of_getElem? (i := 1) rfl))
    obtain ⟨v2, p2, b2, q2, r2⟩ := poly_hold (n := n) (hf _ (List.mem_of_getElem? (i := 2) rfl))
    obtain ⟨v3, p3, b3, q3, r3⟩ := poly_hold (n := n) (hf _ (List.mem_of_getElem? (i := 3) rfl))
    simp [e1, es] at q0 q1 q2 q3
    subst q0 q1 q2 q3
    exact ⟨⟨v0, v1, p2, p3⟩, h2 0 (by omega), h2 1 (by omega), _, b2, _, b3, h2 2 (by omega), r2, h2 3 (by omega), r3⟩
   obtain ⟨ts, e, hts⟩ := list_of l hc
   by_cases h0 : l = 0
   · subst h0
     refine ⟨_, [], 0, h, ⟨some x, c, 0, rfl, Nat.zero_le _, hm, (fun h => by cases h), Or.inl rfl⟩⟩
   · obtain ⟨b, o, spot⟩ := x
     obtain ⟨m0, hv0, _⟩ := hc 0 (by omega)
     have hspot : spot = none := by simpa [Addr.add] using World.cell?_spot hv0
     subst hspot
     refine ⟨_, ts, b, h, ⟨some ⟨b, o, none⟩, c, o, by rw [e], by omega, hm, (fun h => by cases h), Or.inr ⟨rfl, fun i m hi => ?_⟩⟩⟩
     obtain ⟨k1, k2, vx, bx, vy, b', k3, k4, k5, k6⟩ := hts i m hi
     rw [Go.WideShapes.add_plain] at k1 k2 k3 k5
     obtain ⟨qx, cx, _, rfl, w1⟩ := k4
     obtain ⟨qy, cy, _, rfl, w2⟩ := k6
     exact ⟨k1, by rw [Nat.add_assoc]; exact k2, qx, cx, bx, qy, cy, b', by rw [Nat.add_assoc]; exact k3, ⟨qx, cx, _, rfl, w1⟩, by rw [Nat.add_assoc]; exact k5, ⟨qy, cy, _, rfl, w2⟩⟩
set_option maxRecDepth 8000 in
theorem of_holds {w : World} {c : Array Value} (h : Shape.Holds Tryz.prog w 9 24 c.toList) : ∃ (v : Value) (ts : List At) (B : Nat), c = #[v] ∧ TRow w B v ts := by
 obtain ⟨hl, hf⟩ := Shape.holds_struct (n := 8) Tryz.underlying24 h
 have e1 : Tryz.prog.cellsOf 24 = 1 := by kernel_rfl
 have es : Tryz.prog.cellsOf 22 = 1 := by kernel_rfl
 rw [e1] at hl
 obtain ⟨v, ts, B, q, r⟩ := atoms_hold (n := 1) (hf _ (List.mem_of_getElem? (i := 0) rfl))
 obtain ⟨l⟩ := c
 match l, hl with
 | [a], _ =>
  simp [es] at q
  subst q
  exact ⟨_, ts, B, rfl, r⟩
end Go.Proofs.YtggilenddbobnaaGreat.Tab
namespace Go.Proofs.YtggilenddbobnaaGreat.Tab
set_option linter.unusedVariables false
open Go.ChangeShapes Go.WideShapes Go.ChangeAt Go.RowKit IntS Pol Push
theorem infoAtom : ∃ i, Tryz.prog.info? 63 = some i ∧ i.zero = some (.agg #[.int .i64 0, .int .i64 0, .slice none 0 0, .slice none 0 0]) ∧ i.size = 4 ∧ i.bytes = 64 := by
 have hinfo : (Tryz.prog.info? 63).map (fun i => (i.zero, i.size, i.bytes)) = some (some (.agg #[.int .i64 0, .int .i64 0, .slice none 0 0, .slice none 0 0]), 4, 64) := by kernel_rfl
 obtain ⟨i, hi, h⟩ := Option.map_eq_some_iff.1 hinfo
 simp only [Prod.mk.injEq] at h
 exact ⟨i, hi, h.1, h.2.1, h.2.2⟩
/-- The four cells of an atom. -/
structure C4 where
 kd : Int
 k : Int
 x : Value
 y : Value
def flat4 : List C4 → List Value
 | [] => []
 | c :: r => .int .i64 c.kd :: .int .i64 c.k :: c.x :: c.y :: flat4 r
theorem flat4_len : ∀ cs : List C4, (flat4 cs).length = cs.length * 4
 | [] => rfl
 | c :: r => by simp [flat4, flat4_len r]; omega
theorem flat4_app : ∀ a b : List C4, flat4 (a ++ b) = flat4 a ++ flat4 b
 | [], b => rfl
 | c :: a, b => by simp [flat4, flat4_app a b]
theorem flat4_at : ∀ (cs : List C4) (i : Nat) (c : C4), cs[i]? = some c → (flat4 cs)[i * 4]? = some (.int .i64 c.kd) ∧ (flat4 cs)[i * 4 + 1]? = some (.int .i64 c.k) ∧ (flat4 cs)[i * 4 + 2]? = some c.x ∧ (flat4 cs)[i * 4 + 3]? = some c.y
 | [], i, c, h => by simp at h
 | d :: r, 0, c, h => by
  obtain rfl := Option.some.inj h
  exact ⟨rfl, rfl, rfl, rfl⟩
 | d :: r, i + 1, c, h => by
  have := flat4_at r i c h
  rw [show (i + 1) * 4 = i * 4 + 1 + 1 + 1 + 1 by omega]
  exact this
def OwnT (w : World) (lo : Nat) (v : Value) (cs : List C4) : Prop := w.ownsRow lo 63 4 v cs.length (flat4 cs)
theorem OwnT.cells {w : World} {lo G n cap : Nat} {cs : List C4} (h : OwnT w lo (.slice (some ⟨G, 0, none⟩) n cap) cs) : n = cs.length ∧ (∀ (i : Nat) c, cs[i]? = some c → w.cell? ⟨G, i * 4, none⟩ = some (.int .i64 c.kd) ∧ w.cell? ⟨G, i * 4 + 1, none⟩ = some (.int .i64 c.k) ∧ w.cell? ⟨G, i * 4 + 2, none⟩ = some c.x ∧ w.cell? ⟨G, i * 4 + 3, none⟩ = some c.y) ∧ ∀ i, w.frozen? ⟨G, i, none⟩ = false := by
 obtain ⟨hl, h0 | ⟨g', cap', cur, hv, hb, hh, hle, hm, hc, ht⟩⟩ := h
 · exact absurd h0.1 (by simp)
 · cases hv
   have hat (j : Nat) (u : Value) (hu : (flat4 cs)[j]? = some u) : w.cell? ⟨G, j, none⟩ = some u := by
    have hj : j < cs.length * 4 := by rw [← flat4_len]; exact (List.getElem?_eq_some_iff.1 hu).1
    rw [← ht, List.getElem?_take, if_pos hj] at hu
    unfold World.cell?
    simp only [hh]
    simpa using hu
   refine ⟨rfl, fun i c hc2 => ?_, fun i => ?_⟩
   · obtain ⟨q1, q2, q3, q4⟩ := flat4_at cs i c hc2
     exact ⟨hat _ _ q1, hat _ _ q2, hat _ _ q3, hat _ _ q4⟩
   · unfold World.frozen?
     simp [hh]
/-- Atoms in a slice that the call made, from block lo on. -/
structure OTab (w : World) (lo : Nat) (q : Option Addr) (cap : Nat) (cs : List C4) (l m h : Nat → Nat) (ts : List At) : Prop where
 own : OwnT w lo (.slice q ts.length cap) cs
 len : cs.length = ts.length
 rows : ∀ (i : Nat) t, ts[i]? = some t → ∃ sx sy, cs[i]? = some ⟨t.kd, t.k, sx, sy⟩ ∧ WPoly w (l i) (m i) sx t.x ∧ WPoly w (m i) (h i) sy t.y ∧ lo ≤ l i ∧ l i ≤ m i ∧ m i ≤ h i ∧ h i ≤ w.heap.size ∧ (∀ G, q = some ⟨G, 0, none⟩ → G < l i ∨ h i ≤ G)
 inc : ∀ i j : Nat, i < j → j < ts.length → h i ≤ l j
theorem OTab.q_lt {w : World} {lo cap : Nat} {q : Option Addr} {cs : List C4} {l m h : Nat → Nat} {ts : List At} (H : OTab w lo q cap cs l m h ts) {G : Nat} (e : q = some ⟨G, 0, none⟩) : lo ≤ G ∧ G < w.heap.size := by
 subst e
 have := owns_lt H.own
 exact ⟨this.1, this.2.1⟩
theorem OTab.q_form {w : World} {lo cap : Nat} {q : Option Addr} {cs : List C4} {l m h : Nat → Nat} {ts : List At} (H : OTab w lo q cap cs l m h ts) : (q = none ∧ cap = 0 ∧ ts = []) ∨ ∃ G, q = some ⟨G, 0, none⟩ := by
 obtain ⟨_, h0 | ⟨g, cap', cur, hv, _⟩⟩ := H.own
 · injection h0.1 with e1 e2 e3
   exact Or.inl ⟨e1, e3, List.length_eq_zero_iff.1 e2⟩
 · injection hv with e1
   exact Or.inr ⟨g, e1⟩
theorem OTab.turn {w w' : World} {lo cap T : Nat} {q : Option Addr} {cs : List C4} {l m h : Nat → Nat} {ts : List At} (H : OTab w lo q cap cs l m h ts) (ht : Turn T w w') (hT : T < lo ∨ w.heap.size ≤ T) : OTab w' lo q cap cs l m h ts := by
 refine ⟨owns_turn H.own ht hT, H.len, fun i t hi => ?_, H.inc⟩
 obtain ⟨sx, sy, k1, k2, k3, k4, k5, k6, k7, k8⟩ := H.rows i t hi
 exact ⟨sx, sy, k1, k2.keep (Keep.of_turn ht) (fun b h1 h2 (h3 : b = _) => by omega), k3.keep (Keep.of_turn ht) (fun b h1 h2 (h3 : b = _) => by omega), k4, k5, k6, Nat.le_trans k7 ht.size, k8⟩
theorem OTab.below {w w' : World} {lo cap : Nat} {q : Option Addr} {cs : List C4} {l m h : Nat → Nat} {ts : List At} (H : OTab w lo q cap cs l m h ts) (hb : Below w.heap.size w w') : OTab w' lo q cap cs l m h ts := H.turn (T := w.heap.size) (Turn.of_below hb) (Or.inr (Nat.le_refl _))
theorem OTab.nil (w : World) (lo : Nat) : OTab w lo none 0 [] (fun _ => 0) (fun _ => 0) (fun _ => 0) [] := ⟨⟨rfl, Or.inl ⟨rfl, rfl⟩⟩, rfl, fun i t h => by simp at h, fun i j _ h => by simp at h⟩
/-- One more atom behind. -/
theorem OTab.next {u u' : World} {lo cap : Nat} {q : Option Addr} {cs : List C4} {l m h : Nat → Nat} {ts : List At} (H : OTab u lo q cap cs l m h ts) {t : At} {sx sy : Value} {lx mx hx : Nat} (wx : WPoly u lx mx sx t.x) (wy : WPoly u mx hx sy t.y) (h1 : lo ≤ lx) (h2 : lx ≤ mx) (h3 : mx ≤ hx) (h4 : hx ≤ u.heap.size)
 (hl : ∀ i, i < ts.length → h i ≤ lx) (hq : ∀ G, q = some ⟨G, 0, none⟩ → G < lx) {G' cap' : Nat} (ho : OwnT u' lo (.slice (some ⟨G', 0, none⟩) (ts.length + 1) cap') (cs ++ [⟨t.kd, t.k, sx, sy⟩])) (hg : (Value.slice q ts.length cap).ownBlock = some G' ∨ u.heap.size ≤ G') (gr : u.grownBy u' (Value.slice q ts.length cap).ownBlock) :
 OTab u' lo (some ⟨G', 0, none⟩) cap' (cs ++ [⟨t.kd, t.k, sx, sy⟩]) (fun i => if i < ts.length then l i else lx) (fun i => if i < ts.length then m i else mx) (fun i => if i < ts.length then h i else hx) (ts ++ [t]) := by
 have kp : ∃ T, Turn T u u' ∧ ∀ a b, (∀ G, q = some ⟨G, 0, none⟩ → G < a ∨ b ≤ G) → b ≤ u.heap.size → T < a ∨ b ≤ T := by
  rcases H.q_form with ⟨rfl, rfl, rfl⟩ | ⟨G, rfl⟩
  · refine ⟨u.heap.size, ⟨gr.os, gr.tape, gr.output, gr.size, fun k hk _ => gr.block k hk (by simp [Value.ownBlock])⟩, fun a b _ hb => Or.inr hb⟩
  · exact ⟨G, Turn.of_grown gr, fun a b hb _ => hb G rfl⟩
 obtain ⟨T, ht, hT⟩ := kp
 have gG (G : Nat) (e : q = some ⟨G, 0, none⟩) : (Value.slice q ts.length cap).ownBlock = some G := by subst e; rfl
 have gq : q = some ⟨G', 0, none⟩ ∨ u.heap.size ≤ G' := by
  rcases hg with hg | hg
  · rcases H.q_form with ⟨rfl, _, _⟩ | ⟨G, rfl⟩
    · simp [Value.ownBlock] at hg
    · simp [Value.ownBlock] at hg
      subst hg
      exact Or.inl rfl
  · exact Or.inr hg
 refine ⟨by rw [List.length_append]; exact ho, by simp [H.len], fun i z hz => ?_, fun i j hij hj => ?_⟩
 · by_cases e : i < ts.length
   · rw [List.getElem?_append_left e] at hz
     simp only [if_pos e]
     obtain ⟨px, py, k1, k2, k3, k4, k5, k6, k7, k8⟩ := H.rows i z hz
     have tt := hT (l i) (h i) k8 k7
     refine ⟨px, py, by rw [List.getElem?_append_left (by rw [H.len]; exact e)]; exact k1, k2.keep (Keep.of_turn ht) (fun b b1 b2 (b3 : b = _) => by omega), k3.keep (Keep.of_turn ht) (fun b b1 b2 (b3 : b = _) => by omega), k4, k5, k6, Nat.le_trans k7 ht.size, fun G eG => ?_⟩
     obtain rfl : G' = G := by injection eG with e1; injection e1
     rcases gq with gq | gq
     · exact k8 _ gq
     · exact Or.inr (by omega)
   · have ei : i = ts.length := by
      have := (List.getElem?_eq_some_iff.1 hz).1
      simp at this
      omega
     subst ei
     rw [List.getElem?_append_right (Nat.le_refl _), Nat.sub_self] at hz
     obtain rfl := Option.some.inj (show some t = some z from hz)
     simp only [if_neg e]
     have tt := hT lx hx (fun G eG => Or.inl (hq G eG)) h4
     refine ⟨sx, sy, by rw [List.getElem?_append_right (by rw [H.len]; omega), H.len, Nat.sub_self]; rfl, wx.keep (Keep.of_turn ht) (fun b b1 b2 (b3 : b = _) => by omega), wy.keep (Keep.of_turn ht) (fun b b1 b2 (b3 : b = _) => by omega), h1, h2, h3, Nat.le_trans h4 ht.size, fun G eG => ?_⟩
     obtain rfl : G' = G := by injection eG with e1; injection e1
     rcases gq with gq | gq
     · exact Or.inl (hq _ gq)
     · exact Or.inr (by omega)
 · simp only [List.length_append, List.length_singleton] at hj
   have hi : i < ts.length := by omega
   simp only [if_pos hi]
   by_cases e : j < ts.length
   · simp only [if_pos e]
     exact H.inc i j hij e
   · simp only [if_neg e]
     exact hl i hi
theorem OTab.whole {u : World} {lo cap : Nat} {q : Option Addr} {cs : List C4} {l m h : Nat → Nat} {ts : List At} (H : OTab u lo q cap cs l m h ts) : WTab u lo u.heap.size (.slice q ts.length cap) ts := by
 rcases H.q_form with ⟨rfl, rfl, rfl⟩ | ⟨G, rfl⟩
 · exact ⟨none, 0, 0, fun _ => 0, fun _ => 0, fun _ => 0, fun _ => .slice none 0 0, fun _ => .slice none 0 0, rfl, Nat.le_refl _, by unfold maxLen; omega, fun _ => rfl, Or.inl rfl, fun i t hi => by simp at hi, fun i j _ hj => by simp at hj⟩
 · obtain ⟨b1, b2, b3, b4⟩ := owns_lt H.own
   obtain ⟨_, hc, hs⟩ := H.own.cells
   refine ⟨some ⟨G, 0, none⟩, G, cap, l, m, h, fun i => (cs.getD i ⟨0, 0, .slice none 0 0, .slice none 0 0⟩).x, fun i => (cs.getD i ⟨0, 0, .slice none 0 0, .slice none 0 0⟩).y, rfl, b3, b4, (fun e => by cases e), Or.inr ⟨rfl, b1, b2, b2⟩, fun i t hi => ?_, H.inc⟩
   obtain ⟨sx, sy, k1, k2, k3, k4, k5, k6, k7, k8⟩ := H.rows i t hi
   obtain ⟨c1, c2, c3, c4⟩ := hc i _ k1
   simp only [List.getD_eq_getElem?_getD, k1, Option.getD_some]
   exact ⟨⟨c1, hs _, c2, hs _, c3, c4⟩, k2, k3, k4, k5, k6, k7, k8 G rfl⟩
theorem OTab.read {u : World} {lo cap : Nat} {q : Option Addr} {cs : List C4} {l m h : Nat → Nat} {ts : List At} (H : OTab u lo q cap cs l m h ts) : ∃ B, TRow u B (.slice q ts.length cap) ts := H.whole.read
/-- What is known of the sums of an atom that is ok. -/
structure FineA (t : At) : Prop where
 x : t.x.length ≤ 1000
 y : t.y.length ≤ 1000
 ax : ∀ m ∈ t.x, m.2.length ≤ 1000
 ay : ∀ m ∈ t.y, m.2.length ≤ 1000
theorem run_pushT {w : World} {ty : TypeId} {lo cap : Nat} {q : Option Addr} {n : Nat} {cs : List C4} (hown : OwnT w lo (.slice q n cap) cs) (hn : cs.length = n) (hl : n ≤ 1000000) (hlo : lo ≤ w.heap.size) (ad : Addr) (kd k : Int) (qx : Option Addr) (nx cx : Nat) (qy : Option Addr) (ny cy : Nat)
 (c0 : w.cell? (ad.add 0) = some (.int .i64 kd)) (c1 : w.cell? (ad.add 1) = some (.int .i64 k)) (c2 : w.cell? (ad.add 2) = some (.slice qx nx cx)) (c3 : w.cell? (ad.add 3) = some (.slice qy ny cy)) :
 ∃ g' cap' w', (Builtin.append_ #[30, 30] ty #[.slice q n cap, .slice (some ad) 1 1]).run Tryz.prog w = .ok (.slice (some ⟨g', 0, none⟩) (n + 1) cap') w' ∧ OwnT w' lo (.slice (some ⟨g', 0, none⟩) (n + 1) cap') (cs ++ [⟨kd, k, .slice qx nx cx, .slice qy ny cy⟩]) ∧ ((Value.slice q n cap).ownBlock = some g' ∨ w.heap.size ≤ g') ∧ g' < w'.heap.size ∧ w.grownBy w' (Value.slice q n cap).ownBlock := by
 subst hn
 obtain ⟨i, hi, hz, hsz, hby⟩ := infoAtom
 obtain ⟨g', cap', w', h1, h2, h3, h4, h5⟩ := run_push (P := Tryz.prog) (w := w) lo 30 ty 63 i _ 4 64 Tryz.underlying30 hi hz hsz hby rfl (by decide) _ cs.length (flat4 cs) hown ad [.int .i64 kd, .int .i64 k, .slice qx nx cx, .slice qy ny cy] rfl (fun j u hu => by
  match j, hu with
  | 0, hu => cases hu; exact c0
  | 1, hu => cases hu; exact c1
  | 2, hu => cases hu; exact c2
  | 3, hu => cases hu; exact c3
  | j + 4, hu => simp at hu) (fun u hu => by simp at hu; rcases hu with rfl | rfl | rfl | rfl <;> rfl) (by unfold maxLen; omega) (by omega) hlo
 refine ⟨g', cap', w', h1, ?_, h3, h4, h5⟩
 unfold OwnT
 rw [flat4_app, List.length_append]
 exact h2
end Go.Proofs.YtggilenddbobnaaGreat.Tab
