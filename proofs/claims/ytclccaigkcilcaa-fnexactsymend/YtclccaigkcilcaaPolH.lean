/-
  Contracts of the laws' own toTrmPoly; a sum that came in as plain data.
-/
import Derived.Test.YtclccaigkcilcaaPolG
namespace Go.Proofs.Ytclccaigkcilcaa.Pol
open Go.ChangeShapes Go.WideShapes Go.ChangeAt Go.RowKit IntS
set_option maxRecDepth 8000 in
set_option maxHeartbeats 4000000 in
theorem toTrmMono (c : Int) (xs : List Int) (B : Nat) (v : Value) (w : World) (h : Row w B v xs) (hn : xs.length ≤ 1048576) :
    Calls Try.prog 66 #[.agg #[.int .i64 c, v]] w fun e w' => ∃ g : Nat, e = .returned (.agg #[.int .i64 c, .slice (some ⟨g, 0, none⟩) xs.length xs.length]) ∧ WRow w' g (.slice (some ⟨g, 0, none⟩) xs.length xs.length) xs ∧ w.heap.size ≤ g ∧ g < w'.heap.size ∧ Below w.heap.size w w' := by
  have T := hide (Three.new w [.int .i64 c, v] [.int .i64 0, .slice none 0 0] [.int .i64 c, .slice none 0 0] 97 74 74)
  have H := hide h
  obtain ⟨a, cap, off, rfl, _⟩ := h
  go_enter Try.func66, Try.ntmps66
  go_wp2_with fail
  refine (toIntS xs B _ _ (H.out.below T.out.bw) hn).mono ?_
  rintro e u ⟨g, rfl, R, ge, gl, hb⟩
  have gO : w.heap.size + 1 + 1 < g := Nat.lt_of_lt_of_le T.out.o.lt ge
  have T1 := T.out.below hb
  clear T hb ge
  have o0 := T1.o.cell 0 _ rfl
  have o1 := T1.o.cell 1 _ rfl
  have f0 := T1.o.soft 0
  have f1 := T1.o.soft 1
  have y0 := T1.z.cell 0 _ rfl
  have y1 := T1.z.cell 1 _ rfl
  have x0 := T1.z.soft 0
  have x1 := T1.z.soft 1
  have R2 := hide (other_row (other_row (other_row R ⟨w.heap.size + 1 + 1, 1, none⟩ (.slice (some ⟨g, 0, none⟩) xs.length xs.length) (Nat.ne_of_lt gO)) ⟨w.heap.size + 1, 0, none⟩ (.int .i64 c) (by show w.heap.size + 1 ≠ g; omega)) ⟨w.heap.size + 1, 1, none⟩ (.slice (some ⟨g, 0, none⟩) xs.length xs.length) (by show w.heap.size + 1 ≠ g; omega))
  have BB := hide (((T1.bw.setCell (p := ⟨w.heap.size + 1 + 1, 1, none⟩) (by show w.heap.size ≤ w.heap.size + 1 + 1; omega) (.slice (some ⟨g, 0, none⟩) xs.length xs.length)).setCell (p := ⟨w.heap.size + 1, 0, none⟩) (by show w.heap.size ≤ w.heap.size + 1; omega) (.int .i64 c)).setCell (p := ⟨w.heap.size + 1, 1, none⟩) (by show w.heap.size ≤ w.heap.size + 1; omega) (.slice (some ⟨g, 0, none⟩) xs.length xs.length))
  have G1 : Hid (w.heap.size ≤ g) := show _ ≤ _ by omega
  have G2 : Hid (g < (((u.setCell ⟨w.heap.size + 1 + 1, 1, none⟩ (.slice (some ⟨g, 0, none⟩) xs.length xs.length)).setCell ⟨w.heap.size + 1, 0, none⟩ (.int .i64 c)).setCell ⟨w.heap.size + 1, 1, none⟩ (.slice (some ⟨g, 0, none⟩) xs.length xs.length)).heap.size) := show _ < _ by simpa [World.setCell] using gl
  have ZZ := hide (((T1.z.other ⟨w.heap.size + 1 + 1, 1, none⟩ (.slice (some ⟨g, 0, none⟩) xs.length xs.length) (by show w.heap.size + 1 + 1 ≠ w.heap.size + 1; omega)).set 0 (.int .i64 c) (by simp) (show _ = [.int .i64 c, .slice none 0 0] from rfl)).set 1 (.slice (some ⟨g, 0, none⟩) xs.length xs.length) (by simp) (show _ = [.int .i64 c, (.slice (some ⟨g, 0, none⟩) xs.length xs.length)] from rfl))
  clear T1 R H hn
  go_wp2
  generalize (((u.setCell ⟨w.heap.size + 1 + 1, 1, none⟩ (.slice (some ⟨g, 0, none⟩) xs.length xs.length)).setCell ⟨w.heap.size + 1, 0, none⟩ (.int .i64 c)).setCell ⟨w.heap.size + 1, 1, none⟩ (.slice (some ⟨g, 0, none⟩) xs.length xs.length)) = V at R2 BB G2 ZZ ⊢
  have z0 := ZZ.out.cell 0 _ rfl
  have z1 := ZZ.out.cell 1 _ rfl
  exact bodyPost_ret (v := .agg #[.int .i64 c, (.slice (some ⟨g, 0, none⟩) xs.length xs.length)]) (by simp [results, Try.results66, go_sem, z0, z1]) rfl ⟨g, rfl, R2.out, G1.out, G2.out, BB.out⟩
/-- Where a list of parts has been filled up to a place. -/
structure FillP (w : World) (n : Nat) (ps : List Mono) (j : Nat) (u : World) : Prop where
  below : Below w.heap.size w u
  lt : w.heap.size < u.heap.size
  done : ∃ g : Nat → Nat, (∀ (i : Nat) x, i < j → ps[i]? = some x → u.cell? ⟨w.heap.size, i * 2, none⟩ = some (.int .i64 x.1) ∧ u.cell? ⟨w.heap.size, i * 2 + 1, none⟩ = some (.slice (some ⟨g i, 0, none⟩) x.2.length x.2.length) ∧ WRow u (g i) (.slice (some ⟨g i, 0, none⟩) x.2.length x.2.length) x.2 ∧ w.heap.size < g i ∧ g i < u.heap.size) ∧ ∀ i i', i < i' → i' < j → g i < g i'
  left : ∀ i, i < n * 2 → ∃ y, u.cell? ⟨w.heap.size, i, none⟩ = some y
  soft : ∀ i, i < n * 2 → u.frozen? ⟨w.heap.size, i, none⟩ = false
theorem fill_new (w : World) (n : Nat) (ps : List Mono) (t : TypeId) : FillP w n ps 0 (w.alloc (.cells (madeCells #[.int .i64 0, .slice none 0 0] (n * 2)) t)) := by
  refine ⟨(Below.refl _ _).alloc (Nat.le_refl _) _, by simp, ⟨fun _ => 0, fun i x hi => by omega, fun i i' _ hi => by omega⟩, fun i hi => ?_, fun i hi => by simp⟩
  rw [World.cell?_alloc_new]
  have : i < (madeCells #[Value.int .i64 0, .slice none 0 0] (n * 2)).size := by rw [size_madeCells]; exact hi
  exact ⟨_, Array.getElem?_eq_getElem this⟩
theorem FillP.next {w u u' : World} {n j g : Nat} {ps : List Mono} {x : Mono} (h : FillP w n ps j u) (hj : j < n) (hx : ps[j]? = some x) (hb : Below u.heap.size u u') (hR : WRow u' g (.slice (some ⟨g, 0, none⟩) x.2.length x.2.length) x.2) (g1 : u.heap.size ≤ g) (g2 : g < u'.heap.size) :
    FillP w n ps (j + 1) ((u'.setCell ⟨w.heap.size, j * 2, none⟩ (.int .i64 x.1)).setCell ⟨w.heap.size, j * 2 + 1, none⟩ (.slice (some ⟨g, 0, none⟩) x.2.length x.2.length)) := by
  have hl := h.lt
  have hs := hb.size
  obtain ⟨y0, c0⟩ := h.left (j * 2) (by omega)
  obtain ⟨y1, c1⟩ := h.left (j * 2 + 1) (by omega)
  have d0 := cell_below hb c0
  have d1 := cell_below hb c1
  have far (p : Addr) (q0 : p ≠ ⟨w.heap.size, j * 2, none⟩) (q1 : p ≠ ⟨w.heap.size, j * 2 + 1, none⟩) : ((u'.setCell ⟨w.heap.size, j * 2, none⟩ (.int .i64 x.1)).setCell ⟨w.heap.size, j * 2 + 1, none⟩ (.slice (some ⟨g, 0, none⟩) x.2.length x.2.length)).cell? p = u'.cell? p := by
    rw [World.cell?_setCell_other _ _ _ _ (fun e => q1 e.symm), World.cell?_setCell_other _ _ _ _ (fun e => q0 e.symm)]
  have n0 : ((u'.setCell ⟨w.heap.size, j * 2, none⟩ (.int .i64 x.1)).setCell ⟨w.heap.size, j * 2 + 1, none⟩ (.slice (some ⟨g, 0, none⟩) x.2.length x.2.length)).cell? ⟨w.heap.size, j * 2, none⟩ = some (.int .i64 x.1) := by
    rw [World.cell?_setCell_other _ _ _ _ (fun e => by have : j * 2 + 1 = j * 2 := congrArg Addr.off e; omega)]
    exact World.cell?_setCell_same u' _ _ d0
  have n1 : ((u'.setCell ⟨w.heap.size, j * 2, none⟩ (.int .i64 x.1)).setCell ⟨w.heap.size, j * 2 + 1, none⟩ (.slice (some ⟨g, 0, none⟩) x.2.length x.2.length)).cell? ⟨w.heap.size, j * 2 + 1, none⟩ = some (.slice (some ⟨g, 0, none⟩) x.2.length x.2.length) := by
    have d2 : (u'.setCell ⟨w.heap.size, j * 2, none⟩ (.int .i64 x.1)).cell? ⟨w.heap.size, j * 2 + 1, none⟩ = some y1 := by
      rw [World.cell?_setCell_other _ _ _ _ (fun e => by have : j * 2 = j * 2 + 1 := congrArg Addr.off e; omega)]
      exact d1
    exact World.cell?_setCell_same _ _ _ d2
  have hsz : ((u'.setCell ⟨w.heap.size, j * 2, none⟩ (.int .i64 x.1)).setCell ⟨w.heap.size, j * 2 + 1, none⟩ (.slice (some ⟨g, 0, none⟩) x.2.length x.2.length)).heap.size = u'.heap.size := by simp [World.setCell]
  obtain ⟨gs, hd, hinc⟩ := h.done
  refine ⟨((h.below.trans (hb.mono h.below.size)).setCell (Nat.le_refl _) _).setCell (Nat.le_refl _) _, by rw [hsz]; omega, ⟨fun i => if i < j then gs i else g, fun i z hi hz => ?_, fun i i' hi hi' => ?_⟩, fun i hi => ?_, fun i hi => ?_⟩
  · by_cases e : i < j
    · simp only [if_pos e]
      obtain ⟨k1, k2, k3, k4, k5⟩ := hd i z e hz
      refine ⟨?_, ?_, other_row (other_row (k3.below hb) _ _ (by show w.heap.size ≠ gs i; omega)) _ _ (by show w.heap.size ≠ gs i; omega), k4, by rw [hsz]; omega⟩
      · rw [far _ (fun e2 => by have : i * 2 = j * 2 := congrArg Addr.off e2; omega) (fun e2 => by have : i * 2 = j * 2 + 1 := congrArg Addr.off e2; omega)]
        exact cell_below hb k1
      · rw [far _ (fun e2 => by have : i * 2 + 1 = j * 2 := congrArg Addr.off e2; omega) (fun e2 => by have : i * 2 + 1 = j * 2 + 1 := congrArg Addr.off e2; omega)]
        exact cell_below hb k2
    · obtain rfl : i = j := by omega
      rw [hx] at hz
      obtain rfl := Option.some.inj hz
      simp only [if_neg e]
      exact ⟨n0, n1, other_row (other_row hR _ _ (by show w.heap.size ≠ g; omega)) _ _ (by show w.heap.size ≠ g; omega), by omega, by rw [hsz]; exact g2⟩
  · by_cases e' : i' < j
    · simp only [if_pos e', if_pos (show i < j by omega)]
      exact hinc i i' hi e'
    · have : i < j := by omega
      simp only [if_neg e', if_pos this]
      obtain ⟨z, hz⟩ : ∃ z, ps[i]? = some z := ⟨_, List.getElem?_eq_getElem (by have := (List.getElem?_eq_some_iff.1 hx).1; omega)⟩
      have := (hd i z (by omega) hz).2.2.2.2
      omega
  · by_cases q0 : i = j * 2
    · subst q0; exact ⟨_, n0⟩
    · by_cases q1 : i = j * 2 + 1
      · subst q1; exact ⟨_, n1⟩
      · rw [far _ (fun e => q0 (congrArg Addr.off e)) (fun e => q1 (congrArg Addr.off e))]
        obtain ⟨y, hy⟩ := h.left i hi
        exact ⟨y, cell_below hb hy⟩
  · rw [World.frozen?_setCell, World.frozen?_setCell]
    obtain ⟨y, hy⟩ := h.left i hi
    have e := hb.block w.heap.size h.lt
    rw [World.frozen?_of_block (w := u) (a := ⟨w.heap.size, i, none⟩) e]
    exact h.soft i hi
/-- A sum whose lists lie in blocks of their own, from block lo on, below hi. -/
structure WP (w : World) (lo hi : Nat) (a : Option Addr) (G cap : Nat) (g : Nat → Nat) (s : Nat → Value) (ps : List Mono) : Prop where
  le : ps.length ≤ cap
  mx : cap ≤ maxLen
  nl : a = none → cap = 0
  at_ : ps = [] ∨ (a = some ⟨G, 0, none⟩ ∧ lo ≤ G ∧ G < hi ∧ G < w.heap.size)
  cells : ∀ (i : Nat) x, ps[i]? = some x → w.cell? ⟨G, i * 2, none⟩ = some (.int .i64 x.1) ∧ w.frozen? ⟨G, i * 2, none⟩ = false ∧ w.cell? ⟨G, i * 2 + 1, none⟩ = some (s i) ∧ WRow w (g i) (s i) x.2 ∧ (x.2 = [] ∨ (lo ≤ g i ∧ g i < hi ∧ g i ≠ G))
  apart : ∀ (i j : Nat) x y, i < j → ps[i]? = some x → ps[j]? = some y → x.2 = [] ∨ y.2 = [] ∨ g i ≠ g j
structure WPoly (w : World) (lo hi : Nat) (v : Value) (ps : List Mono) : Prop where
  ex : ∃ (a : Option Addr) (G cap : Nat) (g : Nat → Nat) (s : Nat → Value), v = .slice a ps.length cap ∧ WP w lo hi a G cap g s ps
theorem WPoly.read {w : World} {lo hi : Nat} {v : Value} {ps : List Mono} (h : WPoly w lo hi v ps) : ∃ B, PRow w B v ps := by
  obtain ⟨a, G, cap, g, s, h1, h⟩ := h
  refine ⟨G, a, cap, 0, h1, h.le, h.mx, h.nl, h.at_.imp id (fun q => ⟨q.1, fun i x hx => ?_⟩)⟩
  obtain ⟨k1, k2, k3, k4, _⟩ := h.cells i x hx
  rw [Nat.zero_add]
  exact ⟨k1, s i, g i, k3, k4.row⟩
theorem FillP.whole {w u : World} {n : Nat} {ps : List Mono} (h : FillP w n ps n u) (hn : ps.length = n) (hm : n ≤ maxLen) : WPoly u w.heap.size u.heap.size (.slice (some ⟨w.heap.size, 0, none⟩) n n) ps := by
  obtain ⟨g, hd, hinc⟩ := h.done
  refine ⟨some ⟨w.heap.size, 0, none⟩, w.heap.size, n, g, fun i => .slice (some ⟨g i, 0, none⟩) (ps.getD i (0, [])).2.length (ps.getD i (0, [])).2.length, by rw [hn], by omega, hm, (fun h => by cases h), Or.inr ⟨rfl, Nat.le_refl _, h.lt, h.lt⟩, fun i x hx => ?_, fun i j x y hij hx hy => ?_⟩
  · have hi : i < n := by rw [← hn]; exact (List.getElem?_eq_some_iff.1 hx).1
    obtain ⟨k1, k2, k3, k4, k5⟩ := hd i x hi hx
    simp only [getD_part hx]
    exact ⟨k1, h.soft _ (by omega), k2, k3, Or.inr ⟨by omega, k5, by omega⟩⟩
  · have hj : j < n := by rw [← hn]; exact (List.getElem?_eq_some_iff.1 hy).1
    have := hinc i j hij hj
    exact Or.inr (Or.inr (by omega))
theorem make_monos (n : Nat) (hn : n ≤ 1048576) (w : World) : (Instr.makeSlice 33 (.int .i64 (n : Int)) (.int .i64 (n : Int))).run Try.prog w = .ok (.slice (some ⟨w.heap.size, 0, none⟩) n n) (w.alloc (.cells (madeCells #[.int .i64 0, .slice none 0 0] (n * 2)) 74)) := by
  have hinfo : (Try.prog.info? 74).map (fun i => (i.zero, i.size, i.bytes)) = some (some (.agg #[.int .i64 0, .slice none 0 0]), 2, 32) := by kernel_rfl
  obtain ⟨i, hi, hzz⟩ := Option.map_eq_some_iff.1 hinfo
  simp only [Prod.mk.injEq] at hzz
  obtain ⟨hz, hs, hb⟩ := hzz
  have hr := run_make (P := Try.prog) w 33 74 i _ Try.underlying33 hi hz .i64 .i64 n n (by omega) (Int.le_refl _) (by rw [hb]; omega) (by omega)
  simp only [Int.toNat_natCast, hs] at hr
  exact hr
set_option maxRecDepth 8000 in
set_option maxHeartbeats 4000000 in
theorem toTrmMonoS (ps : List Mono) (B : Nat) (v : Value) (w : World) (h : PRow w B v ps) (hs : SmallP ps) :
    Calls Try.prog 49 #[v] w fun e w' => ∃ G, e = .returned (.slice (some ⟨G, 0, none⟩) ps.length ps.length) ∧ WPoly w' w.heap.size w'.heap.size (.slice (some ⟨G, 0, none⟩) ps.length ps.length) ps ∧ Below w.heap.size w w' := by
  obtain ⟨a, cap, off, rfl, h2, h3, hz, h4⟩ := h
  unfold maxLen at h3
  clear hz
  obtain ⟨n, en⟩ : ∃ n, ps.length = n := ⟨_, rfl⟩
  have EN := hide en
  have hn : n ≤ 1048576 := by unfold SmallP at hs; omega
  have HS := hide hs
  have M0 := hide (fill_new w n ps 74)
  have hmk := make_monos n hn w
  rw [en] at h2 ⊢
  have H4 := hide h4
  clear en h4 hs
  by_cases n0 : n = 0
  · subst n0
    have FF := hide (M0.out.whole EN.out (by unfold maxLen; omega))
    have FB := hide M0.out.below
    clear M0 H4
    replace hmk : (Instr.makeSlice 33 (.int .i64 0) (.int .i64 0)).run Try.prog w = .ok (.slice (some ⟨w.heap.size, 0, none⟩) 0 0) (w.alloc (.cells (madeCells #[.int .i64 0, .slice none 0 0] (0 * 2)) 74)) := hmk
    generalize w.alloc (.cells (madeCells #[.int .i64 0, .slice none 0 0] (0 * 2)) 74) = U at hmk FF FB
    go_enter Try.func49, Try.ntmps49
    go_wp2
    refine wp_loop_rounds 1 ?_
    rw [rounds_succ]
    go_wp2
    go_ret
    exact ⟨w.heap.size, rfl, FF.out, FB.out⟩
  · obtain ⟨rfl, hc⟩ := H4.out.resolve_left (fun e => n0 (by rw [← EN.out, e]; rfl))
    have HC := hide hc
    clear hc H4
    generalize w.alloc (.cells (madeCells #[.int .i64 0, .slice none 0 0] (n * 2)) 74) = U at hmk M0
    go_enter Try.func49, Try.ntmps49
    go_wp2
    clear hmk
    go_loopw [4] (fun i wr => ∃ k : Nat, k ≤ n ∧ i = .int .i64 k ∧ Hid (FillP w n ps k wr)) (fun i _ => n - (intOf i).toNat)
    case atStart => exact ⟨0, by omega, rfl, M0⟩
    case round =>
      obtain ⟨k, hk, rfl, HF⟩ := hrel
      by_cases hlt : k < n
      · obtain ⟨x, ex⟩ : ∃ x, ps[k]? = some x := ⟨_, List.getElem?_eq_getElem (by rw [EN.out]; exact hlt)⟩
        obtain ⟨c, at_⟩ := x
        obtain ⟨g1, s, b, g2, g3⟩ := HC.out k _ ex
        have cx := cell_below HF.out.below g1
        have sx := cell_below HF.out.below g2
        have RX := hide (g3.below HF.out.below)
        obtain ⟨qa, ca, _, rfl, _⟩ := g3
        simp only [] at cx sx RX
        have lk : ((k : Nat) : Int) < (n : Nat) := by omega
        have LA : Hid (at_.length ≤ 1048576) := show _ ≤ _ by have := tot_at ex; have := HS.out; unfold SmallP at this; simp only [] at *; omega
        have EX := hide ex
        clear ex g1 g2
        go_wp2_with fail
        refine (toTrmMono c at_ b _ _ RX.out LA.out).mono ?_
        rintro e u ⟨g, rfl, R, ge, gl, hb⟩
        have NX := hide (FillP.next (x := (c, at_)) HF.out hlt EX.out hb R ge gl)
        obtain ⟨y0, d0⟩ := HF.out.left (k * 2) (by omega)
        obtain ⟨y1, d1⟩ := HF.out.left (k * 2 + 1) (by omega)
        have p0 := cell_below hb d0
        have p1 := cell_below hb d1
        have f0 : u.frozen? ⟨w.heap.size, k * 2, none⟩ = false := by rw [World.frozen?_of_block (w := wr) (a := ⟨w.heap.size, k * 2, none⟩) (hb.block w.heap.size HF.out.lt)]; exact HF.out.soft _ (by omega)
        have f1 : u.frozen? ⟨w.heap.size, k * 2 + 1, none⟩ = false := by rw [World.frozen?_of_block (w := wr) (a := ⟨w.heap.size, k * 2 + 1, none⟩) (hb.block w.heap.size HF.out.lt)]; exact HF.out.soft _ (by omega)
        have lw : w.heap.size < u.heap.size := Nat.lt_of_lt_of_le HF.out.lt hb.size
        simp only [] at NX
        clear hb R ge gl d0 d1 cx sx HF RX
        go_wp2
        exact ⟨⟨k + 1, by omega, by go_num, NX⟩, by simp [intOf]; omega⟩
      · obtain rfl : k = n := by omega
        have FF := hide (HF.out.whole EN.out (by unfold maxLen; omega))
        have FB := hide HF.out.below
        clear HF
        go_wp2
        go_ret
        exact ⟨w.heap.size, rfl, FF.out, FB.out⟩
end Go.Proofs.Ytclccaigkcilcaa.Pol
