/-
  Draws: words for a machine (l20Image).
-/
import Derived.Test.YtnhpmbhphbphaaaGreatJnH
import Derived.Test.YtnhpmbhphbphaaaGreatJnG
import Derived.Deep.DeepCutAuto
import Derived.Deep.CutBlock
import Derived.Laws.Rows
namespace Go.Proofs.YtnhpmbhphbphaaaGreat.Draw
set_option linter.unusedVariables false
set_option linter.unusedSimpArgs false
open Go.ChangeShapes Go.WideShapes Go.ChangeAt Go.RowKit Flat
open IntS (Turn hide cell_below)
open Mch (Rec)
open InsS (In4 OwnI flatI)
open Blk (OwnN wordsL)
open PushM (pushI pushN own_built)
theorem put_bd (op d a k : Int) : 0 ≤ Ins.putN op d a k ∧ Ins.putN op d a k < 65536 := by
  unfold Ins.putN
  split
  · rename_i h
    obtain ⟨o0, o1, d0, d1, a0, a1, k0, k1, _⟩ := Ins.okB_bd h
    omega
  · omega
theorem words_bd (is : List In4) : ∀ x ∈ wordsL is, 0 ≤ x ∧ x < 65536 := fun x hx => by
  unfold wordsL at hx
  obtain ⟨i, _, rfl⟩ := List.mem_map.1 hx
  exact put_bd ..
/-- A list of instructions that is being drawn. -/
structure Ls (R : Nat) (w : World) (q n : Nat) (v : Value) (u : World) : Prop where
  ex : ∃ (g cap : Nat) (is : List In4), v = .slice (some ⟨g, 0, none⟩) n cap ∧ is.length = n ∧ OwnI u w.heap.size (.slice (some ⟨g, 0, none⟩) n cap) is
  rd : Rd R q u
  kp : Keep R w u
/-- Words that are being drawn. -/
structure Ws (R : Nat) (w : World) (q n : Nat) (v : Value) (u : World) : Prop where
  ex : ∃ (g cap : Nat) (xs : List Int), v = .slice (some ⟨g, 0, none⟩) n cap ∧ xs.length = n ∧ OwnN u w.heap.size (.slice (some ⟨g, 0, none⟩) n cap) xs ∧ ∀ x ∈ xs, 0 ≤ x ∧ x < 65536
  rd : Rd R q u
  kp : Keep R w u
theorem Ls.step {R q q' n : Nat} {w u u' : World} {v : Value} (h : Ls R w q n v u) (hR : R < w.heap.size) (hr : Rd R q' u') (hk : Keep R u u') : Ls R w q' n v u' := by
  obtain ⟨⟨g, cap, is, hv, hl, ho⟩, _, k⟩ := h
  exact ⟨⟨g, cap, is, hv, hl, OwnF.turn ho hk.turn (Or.inl hR)⟩, hr, k.trans hk⟩
theorem Ws.step {R q q' n : Nat} {w u u' : World} {v : Value} (h : Ws R w q n v u) (hR : R < w.heap.size) (hr : Rd R q' u') (hk : Keep R u u') : Ws R w q' n v u' := by
  obtain ⟨⟨g, cap, is, hv, hl, ho, hb⟩, _, k⟩ := h
  exact ⟨⟨g, cap, is, hv, hl, OwnF.turn ho hk.turn (Or.inl hR), hb⟩, hr, k.trans hk⟩
theorem Ls.below {R q n : Nat} {w u u' : World} {v : Value} (h : Ls R w q n v u) (hR : R < w.heap.size) (hb : Below u.heap.size u u') : Ls R w q n v u' := h.step hR (h.rd.below (hb.mono (by have := h.rd.lt; omega))) (Keep.of_below hb)
theorem Ws.below {R q n : Nat} {w u u' : World} {v : Value} (h : Ws R w q n v u) (hR : R < w.heap.size) (hb : Below u.heap.size u u') : Ws R w q n v u' := h.step hR (h.rd.below (hb.mono (by have := h.rd.lt; omega))) (Keep.of_below hb)
theorem Ls.mono {R q q' n : Nat} {w u : World} {v : Value} (h : Ls R w q n v u) (hq : q ≤ q') : Ls R w q' n v u := ⟨h.ex, h.rd.mono hq, h.kp⟩
theorem Ws.mono {R q q' n : Nat} {w u : World} {v : Value} (h : Ws R w q n v u) (hq : q ≤ q') : Ws R w q' n v u := ⟨h.ex, h.rd.mono hq, h.kp⟩
/-- Instructions out of a block put behind. -/
theorem Ls.push {R q n : Nat} {w u : World} {v : Value} (h : Ls R w q n v u) (hR : R < w.heap.size) (ty : TypeId) (hn : n ≤ 1000000) (Z m k : Nat) (js : List In4) (hm : js.length = m) (hm1 : 1 ≤ m) (hm2 : m ≤ 1000000)
    (hys : ∀ (j : Nat) x, (flatI js)[j]? = some x → u.cell? ⟨Z, j, none⟩ = some (.int .i64 x)) :
    ∃ v' w', (Builtin.append_ #[107, 107] ty #[v, .slice (some ⟨Z, 0, none⟩) m k]).run Tryz.prog u = .ok v' w' ∧ Hid (Ls R w q (n + m) v' w') := by
  obtain ⟨⟨g, cap, is, rfl, hl, ho⟩, hr, hk⟩ := h
  obtain ⟨g', cap', w', T, h1, h2, h3, h4⟩ := pushI (ty := ty) ho hl hn hk.size Z m k js hm hm1 hm2 hys
  exact ⟨_, w', h1, ⟨g', cap', is ++ js, rfl, by rw [List.length_append, hl, hm], h2⟩, rd_turn hr h3 (by omega) hr.lt, keep_up hk h3 h4⟩
theorem Ls.lit {R q n : Nat} {w u : World} {v : Value} (h : Ls R w q n v u) (hR : R < w.heap.size) (ty : TypeId) (hn : n ≤ 1000000) (op d a k : Int) :
    ∃ v' w', (Builtin.append_ #[107, 107] ty #[v, .slice (some ⟨u.heap.size, 0, none⟩) 1 1]).run Tryz.prog (u.alloc (.cells #[.int .i64 op, .int .i64 d, .int .i64 a, .int .i64 k] 38)) = .ok v' w' ∧ Hid (Ls R w q (n + 1) v' w') :=
  (h.below hR ((Below.refl _ _).alloc (Nat.le_refl _) _)).push hR ty hn u.heap.size 1 1 [⟨op, d, a, k⟩] rfl (Nat.le_refl _) (by omega) (fun j x hx => lit_cells (fs := [op, d, a, k]) j x hx)
theorem Ws.push {R q n : Nat} {w u : World} {v : Value} (h : Ws R w q n v u) (hR : R < w.heap.size) (ty : TypeId) (hn : n ≤ 1000000) (Z m k : Nat) (ys : List Int) (hm : ys.length = m) (hm1 : 1 ≤ m) (hm2 : m ≤ 1000000) (hb : ∀ y ∈ ys, 0 ≤ y ∧ y < 65536)
    (hys : ∀ (j : Nat) x, ys[j]? = some x → u.cell? ⟨Z, j, none⟩ = some (.int .i64 x)) :
    ∃ v' w', (Builtin.append_ #[23, 23] ty #[v, .slice (some ⟨Z, 0, none⟩) m k]).run Tryz.prog u = .ok v' w' ∧ Hid (Ws R w q (n + m) v' w') := by
  obtain ⟨⟨g, cap, xs, rfl, hl, ho, hx⟩, hr, hk⟩ := h
  obtain ⟨g', cap', w', T, h1, h2, h3, h4⟩ := pushN (ty := ty) ho hl hn hk.size Z m k ys hm hm1 hm2 hys
  exact ⟨_, w', h1, ⟨g', cap', xs ++ ys, rfl, by rw [List.length_append, hl, hm], h2, fun y hy => (List.mem_append.1 hy).elim (hx y) (hb y)⟩, rd_turn hr h3 (by omega) hr.lt, keep_up hk h3 h4⟩
theorem Ws.one {R q n : Nat} {w u : World} {v : Value} (h : Ws R w q n v u) (hR : R < w.heap.size) (ty : TypeId) (hn : n ≤ 1000000) (y : Int) (y0 : 0 ≤ y) (y1 : y < 65536) :
    ∃ v' w', (Builtin.append_ #[23, 23] ty #[v, .slice (some ⟨u.heap.size, 0, none⟩) 1 1]).run Tryz.prog (u.alloc (.cells #[.int .i64 y] 3)) = .ok v' w' ∧ Hid (Ws R w q (n + 1) v' w') :=
  (h.below hR ((Below.refl _ _).alloc (Nat.le_refl _) _)).push hR ty hn u.heap.size 1 1 [y] rfl (Nat.le_refl _) (by omega) (fun x hx => by rw [List.mem_singleton.1 hx]; exact ⟨y0, y1⟩) (fun j x hx => lit_cells (fs := [y]) j x hx)
theorem Ws.two {R q n : Nat} {w u : World} {v : Value} (h : Ws R w q n v u) (hR : R < w.heap.size) (ty : TypeId) (hn : n ≤ 1000000) (y z : Int) (y0 : 0 ≤ y ∧ y < 65536) (z0 : 0 ≤ z ∧ z < 65536) :
    ∃ v' w', (Builtin.append_ #[23, 23] ty #[v, .slice (some ⟨u.heap.size, 0, none⟩) 2 2]).run Tryz.prog (u.alloc (.cells #[.int .i64 y, .int .i64 z] 3)) = .ok v' w' ∧ Hid (Ws R w q (n + 2) v' w') :=
  (h.below hR ((Below.refl _ _).alloc (Nat.le_refl _) _)).push hR ty hn u.heap.size 2 2 [y, z] rfl (by omega) (by omega) (fun x hx => by
    rcases List.mem_cons.1 hx with rfl | hx
    · exact y0
    · rw [List.mem_singleton.1 hx]; exact z0) (fun j x hx => lit_cells (fs := [y, z]) j x hx)
theorem Ls.form {R q n : Nat} {w u : World} {v : Value} (h : Ls R w q n v u) : ∃ g cap : Nat, v = .slice (some ⟨g, 0, none⟩) n cap := by
  obtain ⟨⟨g, cap, _, hv, _⟩, _⟩ := h
  exact ⟨g, cap, hv⟩
theorem Ws.form {R q n : Nat} {w u : World} {v : Value} (h : Ws R w q n v u) : ∃ g cap : Nat, v = .slice (some ⟨g, 0, none⟩) n cap ∧ n ≤ cap ∧ cap ≤ maxLen := by
  obtain ⟨⟨g, cap, _, hv, _, ho, _⟩, _⟩ := h
  subst hv
  have := Push.owns_lt ho
  exact ⟨g, cap, rfl, this.2.2⟩
def lenV : Value → Nat
  | .slice _ n _ => n
  | _ => 0
/-- A word written into a slice of ints that the call made. -/
theorem own_set {w : World} {lo g n cap : Nat} {xs : List Int} (h : OwnN w lo (.slice (some ⟨g, 0, none⟩) n cap) xs) (i : Nat) (hi : i < xs.length) (y : Int) : OwnN (w.setCell ⟨g, i, none⟩ (.int .i64 y)) lo (.slice (some ⟨g, 0, none⟩) n cap) (xs.set i y) := by
  obtain ⟨h1, ⟨h0, _⟩ | ⟨g', cap', cur, hv, hb, hh, h3, h4, h5, h6⟩⟩ := h
  · cases h0
  · cases hv
    refine ⟨by simp [IntS.vals], Or.inr ⟨g, cap, cur.setIfInBounds i (.int .i64 y), by rw [List.length_set], hb, ?_, by rw [List.length_set]; exact h3, h4, by simpa using h5, ?_⟩⟩
    · exact heap_setCell_same w g i cur _ _ hh
    · rw [List.length_set, Array.toList_setIfInBounds, List.take_set, h6]
      simp [IntS.vals, List.map_set]
theorem own_at {w : World} {lo g n cap : Nat} {xs : List Int} (h : OwnN w lo (.slice (some ⟨g, 0, none⟩) n cap) xs) (i : Nat) (hi : i < xs.length) : (∃ y, w.cell? ⟨g, i, none⟩ = some (.int .i64 y)) ∧ w.frozen? ⟨g, i, none⟩ = false := by
  obtain ⟨h1, ⟨h0, _⟩ | ⟨g', cap', cur, hv, hb, hh, h3, h4, h5, h6⟩⟩ := h
  · cases h0
  · cases hv
    refine ⟨⟨xs[i], ?_⟩, ?_⟩
    · have e : (cur.toList.take (xs.length * 1))[i]? = some (.int .i64 xs[i]) := by rw [h6]; simp [IntS.vals, hi]
      rw [List.getElem?_take, if_pos (by omega)] at e
      unfold World.cell?
      simp only [hh]
      simpa using e
    · unfold World.frozen?
      simp [hh]
theorem Ws.set {R q n g cap : Nat} {w u : World} (h : Ws R w q n (.slice (some ⟨g, 0, none⟩) n cap) u) (i : Nat) (hi : i < n) (y : Int) (y0 : 0 ≤ y) (y1 : y < 65536) (hR : R < w.heap.size) : Ws R w q n (.slice (some ⟨g, 0, none⟩) n cap) (u.setCell ⟨g, i, none⟩ (.int .i64 y)) := by
  obtain ⟨⟨g', cap', xs, hv, hl, ho, hb⟩, hr, hk⟩ := h
  cases hv
  have lg := (Push.owns_lt ho).1
  have T : Turn g u (u.setCell ⟨g, i, none⟩ (.int .i64 y)) := (Turn.refl g u).setCell rfl _
  exact ⟨⟨g, cap, xs.set i y, rfl, by rw [List.length_set]; exact hl, own_set ho i (by omega) y, fun x hx => (List.mem_or_eq_of_mem_set hx).elim (hb x) (fun e => e ▸ ⟨y0, y1⟩)⟩, rd_turn hr T (by omega) hr.lt, keep_up hk T lg⟩
theorem Ws.at {R q n g cap : Nat} {w u : World} (h : Ws R w q n (.slice (some ⟨g, 0, none⟩) n cap) u) (i : Nat) (hi : i < n) : (∃ y, u.cell? ⟨g, i, none⟩ = some (.int .i64 y)) ∧ u.frozen? ⟨g, i, none⟩ = false := by
  obtain ⟨⟨g', cap', xs, hv, hl, ho, hb⟩, hr, hk⟩ := h
  cases hv
  exact own_at ho i (by omega)
theorem own_cells {t : TypeId} {c : Nat} {w : World} {lo g n n' cap : Nat} {fs : List Int} (h : OwnF t c w lo (.slice (some ⟨g, 0, none⟩) n cap) n' fs) (j : Nat) (x : Int) (hx : fs[j]? = some x) : w.cell? ⟨g, j, none⟩ = some (.int .i64 x) := by
  obtain ⟨h1, ⟨h0, _⟩ | ⟨g', cap', cur, hv, hb, hh, h3, h4, h5, h6⟩⟩ := h
  · cases h0
  · cases hv
    have hj : j < n * c := by
      have := (List.getElem?_eq_some_iff.1 hx).1
      simp [IntS.vals] at h1
      omega
    have e : (cur.toList.take (n * c))[j]? = some (.int .i64 x) := by rw [h6]; simp [IntS.vals, hx]
    rw [List.getElem?_take, if_pos hj] at e
    unfold World.cell?
    simp only [hh]
    simpa using e
theorem cells3 (w : World) (a b c x : Int) (ha : 0 ≤ a ∧ a < 65536) (hb : 0 ≤ b ∧ b < 65536) (hc : 0 ≤ c ∧ c < 65536) (h0 : 0 ≤ x) (h1 : x < 3) : ∃ y : Int, (w.alloc (.cells #[.int .i64 a, .int .i64 b, .int .i64 c] 3)).cell? ⟨w.heap.size, x.toNat, none⟩ = some (.int .i64 y) ∧ 0 ≤ y ∧ y < 65536 := by
  rw [World.cell?_alloc_new]
  have : x = 0 ∨ x = 1 ∨ x = 2 := by omega
  rcases this with rfl | rfl | rfl
  · exact ⟨a, rfl, ha⟩
  · exact ⟨b, rfl, hb⟩
  · exact ⟨c, rfl, hc⟩
set_option maxRecDepth 8000 in
set_option maxHeartbeats 16000000 in
theorem image (R q : Nat) (w : World) (h : Rd R q w) (hq : q ≤ 500000) :
    Calls Tryz.prog 83 #[.pointer (some ⟨R, 0, none⟩)] w fun e w' => ∃ (v : Value) (n : Nat), e = .returned v ∧ 50 ≤ n ∧ n ≤ 53 ∧ Ws R w (q + 2000) n v w' := by
  have hR := h.lt
  have L0 : Hid (Ls R w q 0 (.slice (some ⟨w.heap.size, 0, none⟩) 0 0) (w.alloc (.cells #[] 38))) := ⟨⟨_, _, [], rfl, rfl, own_emptyI (Nat.le_refl _)⟩, h.alloc _, (Keep.refl R w).alloc _⟩
  clear h
  go_enter Tryz.func83, Tryz.ntmps83
  go_wp2_with fail
  generalize w.alloc (.cells #[] 38) = u0 at L0 ⊢
  refine (pick R q 2 u0 L0.out.rd (by omega)).mono ?_
  rintro e u1 ⟨x, rfl, x0, x1, -, h1, k1⟩
  replace L0 := hide (L0.out.step hR h1 k1)
  clear h1 k1
  go_upto_if 11 with fail
  go_cut [3] (fun s3 wx => ∃ n, n ≤ 1 ∧ Hid (Ls R w (q + 1) n s3 wx))
  case first =>
    by_cases hx : x = 0
    · subst hx
      obtain ⟨v', w', hrun, L1⟩ := L0.out.lit hR 107 (by omega) 0 0 0 2
      clear L0
      go_wp2_with (at_builtin; refine push_list rfl _ _ rfl rfl rfl hrun ?_; refine Hid.out ?_)
      clear hrun
      refine hide ?_
      go_wp2_with fail
      go_meet
      exact ⟨1, Nat.le_refl _, L1⟩
    · have hx0 : (x == 0) = false := beq_eq_false_iff_ne.2 hx
      go_wp2_with fail
      go_meet
      exact ⟨0, by omega, L0⟩
  case rest =>
  obtain ⟨n0, hn0, L1⟩ := hcut
  clear L0 x0 x1 x
  go_wp2_with fail
  refine (pick R (q + 1) 5 wc L1.out.rd (by omega)).mono ?_
  rintro e u2 ⟨x, rfl, x0, x1, -, h1, k1⟩
  obtain ⟨X, rfl⟩ : ∃ X : Nat, x = X := ⟨x.toNat, by omega⟩
  have X4 : X ≤ 4 := by have := x1 (by omega); omega
  replace L1 := hide (L1.out.step hR h1 k1)
  clear h1 k1 x0 x1
  have hX : Hid ((1 : Int) + (X : Nat) = ((X + 1 : Nat) : Int)) := show _ = _ by omega
  go_upto_block 0 with fail
  go_cut [3] (fun s3 wx => ∃ n, n ≤ 42 ∧ Hid (Ls R w (q + 400) n s3 wx))
  case first =>
    go_wp2_with fail
    go_loopw [3, 4] (fun s i wr => ∃ (k j n : Nat), i = .int .i64 (k : Int) ∧ k + j = X + 1 ∧ n ≤ 42 ∧ Hid (Ls R w (q + 2 + 60 * j) n s wr)) (fun _ i _ => (intOf i).toNat)
    case atStart => exact ⟨X + 1, 0, n0, by rw [← hX.out], by omega, by omega, hide (L1.out.mono (by omega))⟩
    case round =>
      clear L1 hX
      obtain ⟨k, j, n, rfl, hkj, hn, LL⟩ := hrel
      obtain ⟨g, cap, rfl⟩ := LL.out.form
      by_cases h0 : k = 0
      · subst h0
        go_wp2_with fail
        go_meet
        exact ⟨n, hn, hide (LL.out.mono (by omega))⟩
      have gt : (0 : Int) < (k : Int) := by omega
      by_cases h34 : 34 ≤ n
      · have nl : ¬ ((n : Nat) : Int) < 34 := by omega
        go_wp2_with fail
        go_meet
        exact ⟨n, hn, hide (LL.out.mono (by omega))⟩
      have nl : ((n : Nat) : Int) < 34 := by omega
      obtain ⟨m, rfl⟩ : ∃ m, k = m + 1 := ⟨k - 1, by omega⟩
      have m5 : m ≤ 5 := by omega
      have ki : (((m + 1 : Nat) : Int) - 1) = (m : Int) := by omega
      go_wp2_with fail
      refine (pick R (q + 2 + 60 * j) 4 wr LL.out.rd (by omega)).mono ?_
      rintro e va ⟨y, rfl, y0, y1, -, h1, k1⟩
      replace LL := hide (LL.out.step hR h1 k1)
      clear h1 k1
      by_cases c0 : y = 0
      · subst c0
        go_wp2_with fail
        refine (body R (q + 2 + 60 * j + 1) n va LL.out.rd (by omega) (by omega)).mono ?_
        rintro e vb ⟨g2, cap2, n2, is2, rfl, l2, n21, n29, O2, h1, k1⟩
        replace LL := hide (LL.out.step hR h1 k1)
        obtain ⟨v', w', hrun, LN⟩ := LL.out.push hR 107 (by omega) g2 n2 cap2 is2 l2 n21 (by omega) (own_cells O2)
        have LM : Hid (Ls R w (q + 2 + 60 * (j + 1)) (n + n2) v' w') := LN.out.mono (by omega)
        clear LL LN O2 h1 k1
        go_wp2_with (at_builtin; refine push_list rfl _ _ rfl rfl rfl hrun ?_; refine Hid.out ?_)
        clear hrun
        refine hide ?_
        go_wp2
        exact ⟨⟨m, j + 1, n + n2, by first | rfl | (rw [ki]; done) | (simp; done) | (simp; omega), by omega, by omega, LM⟩, by simp [intOf] <;> omega⟩
      by_cases c1 : y = 1
      · subst c1
        go_wp2_with fail
        refine (over R (q + 2 + 60 * j + 1) n va LL.out.rd (by omega) (by omega)).mono ?_
        rintro e vb ⟨g2, cap2, n2, is2, rfl, l2, n21, n29, O2, h1, k1⟩
        replace LL := hide (LL.out.step hR h1 k1)
        obtain ⟨v', w', hrun, LN⟩ := LL.out.push hR 107 (by omega) g2 n2 cap2 is2 l2 n21 (by omega) (own_cells O2)
        have LM : Hid (Ls R w (q + 2 + 60 * (j + 1)) (n + n2) v' w') := LN.out.mono (by omega)
        clear LL LN O2 h1 k1
        go_wp2_with (at_builtin; refine push_list rfl _ _ rfl rfl rfl hrun ?_; refine Hid.out ?_)
        clear hrun
        refine hide ?_
        go_wp2
        exact ⟨⟨m, j + 1, n + n2, by first | rfl | (rw [ki]; done) | (simp; done) | (simp; omega), by omega, by omega, LM⟩, by simp [intOf] <;> omega⟩
      have m0 : (y == 0) = false := beq_eq_false_iff_ne.2 c0
      have m1 : (y == 1) = false := beq_eq_false_iff_ne.2 c1
      go_wp2_with fail
      refine (pick R (q + 2 + 60 * j + 1) 8 va LL.out.rd (by omega)).mono ?_
      rintro e vb ⟨z, rfl, z0, z1, -, h1, k1⟩
      replace LL := hide (LL.out.step hR h1 k1)
      clear h1 k1
      obtain ⟨Z, rfl⟩ : ∃ Z : Nat, z = Z := ⟨z.toNat, by omega⟩
      have Z7 : Z ≤ 7 := by have := z1 (by omega); omega
      have hZ : Hid ((1 : Int) + (Z : Nat) = ((Z + 1 : Nat) : Int)) := show _ = _ by omega
      clear z0 z1
      go_wp2
      go_loopw [3, 5] (fun s i wr => ∃ (k2 j2 n2 : Nat), i = .int .i64 (k2 : Int) ∧ k2 + j2 = Z + 1 ∧ n2 = n + j2 ∧ Hid (Ls R w (q + 2 + 60 * j + 2 + 7 * j2) n2 s wr)) (fun _ i _ => (intOf i).toNat)
      case atStart => exact ⟨Z + 1, 0, n, by rw [← hZ.out], by omega, by omega, hide (LL.out.mono (by omega))⟩
      case round =>
        clear LL hZ
        obtain ⟨k2, j2, n2, rfl, hkj2, hn2, LL⟩ := hrel
        have n242 : n2 ≤ 42 := by omega
        obtain ⟨g2, cap2, rfl⟩ := LL.out.form
        by_cases h02 : k2 = 0
        · subst h02
          have LM : Hid (Ls R w (q + 2 + 60 * (j + 1)) n2 (.slice (some ⟨g2, 0, none⟩) n2 cap2) wr) := LL.out.mono (by omega)
          clear LL hn2
          go_wp2
          exact ⟨⟨m, j + 1, n2, by first | rfl | (rw [ki]; done) | (simp; done) | (simp; omega), by omega, n242, LM⟩, by simp [intOf] <;> omega⟩
        · obtain ⟨m2, rfl⟩ : ∃ m2, k2 = m2 + 1 := ⟨k2 - 1, by omega⟩
          have gt2 : (0 : Int) < ((m2 + 1 : Nat) : Int) := by omega
          have m28 : m2 ≤ 8 := by omega
          have ki2 : (((m2 + 1 : Nat) : Int) - 1) = (m2 : Int) := by omega
          have HN := hide hn2
          clear hn2
          go_wp2_with fail
          refine (ins R (q + 2 + 60 * j + 2 + 7 * j2) wr LL.out.rd (by omega)).mono ?_
          rintro e vc ⟨op, d, a, c, rfl, h1, k1⟩
          replace LL := hide (LL.out.step hR h1 k1)
          clear h1 k1
          obtain ⟨v', w', hrun, LN⟩ := LL.out.lit hR 107 (by omega) op d a c
          have LM : Hid (Ls R w (q + 2 + 60 * j + 2 + 7 * (j2 + 1)) (n2 + 1) v' w') := LN.out.mono (by omega)
          clear LL LN
          go_wp2_with (at_builtin; refine push_list rfl _ _ rfl rfl rfl hrun ?_; refine Hid.out ?_)
          clear hrun
          refine hide ?_
          go_wp2
          exact ⟨⟨m2, j2 + 1, n2 + 1, by first | rfl | (rw [ki2]; done) | (simp; done) | (simp; omega), by omega, by have := HN.out; omega, LM⟩, by simp [intOf] <;> omega⟩
  case rest =>
  obtain ⟨n1, hn1, L2⟩ := hcut
  clear L1 hX
  obtain ⟨g, cap, rfl⟩ := L2.out.form
  obtain ⟨v', w', hrun, L3⟩ := L2.out.lit hR 107 (by omega) 0 0 0 0
  clear L2
  go_wp2_with (at_builtin; refine push_list rfl _ _ rfl rfl rfl hrun ?_; refine Hid.out ?_)
  clear hrun
  refine hide ?_
  obtain ⟨⟨g1, cap1, is, hv1, hl1, ho1⟩, hr1, hk1⟩ := L3.out
  subst hv1
  clear L3
  obtain ⟨B1, fr1⟩ := OwnF.frow ho1
  have HR1 := hide hr1
  have HK1 := hide hk1
  clear hr1 hk1 ho1
  go_wp2_with fail
  refine (Blk.specWords is B1 _ w' fr1 (by omega)).mono ?_
  rintro e va ⟨qs, c2, rfl, O2, hb⟩
  have W0 : Hid (∃ g2, qs = some ⟨g2, 0, none⟩ ∧ Ws R w (q + 400) (n1 + 1) (.slice (some ⟨g2, 0, none⟩) (n1 + 1) c2) va) := by
    have hl : (wordsL is).length = n1 + 1 := by unfold wordsL; rw [List.length_map, hl1]
    rcases OwnF.q_form O2 with ⟨_, _, e0, _⟩ | ⟨g2, rfl⟩
    · omega
    · refine ⟨g2, rfl, ⟨g2, c2, wordsL is, rfl, hl, ?_, words_bd is⟩, HR1.out.below (hb.mono (by have := HR1.out.lt; omega)), HK1.out.trans (Keep.of_below hb)⟩
      have := OwnF.mono (lo' := w.heap.size) O2 HK1.out.size
      rw [hl] at this
      unfold OwnN
      rw [hl]
      exact this
  have hl : (wordsL is).length = n1 + 1 := by unfold wordsL; rw [List.length_map, hl1]
  rw [hl]
  clear O2 hb fr1 HR1 HK1 hl1 hl
  obtain ⟨g2, rfl, W1⟩ := W0.out
  replace W1 := hide W1
  clear W0
  go_wp2
  go_loopw [6] (fun s wr => ∃ n, n ≤ 48 ∧ Hid (n1 < n) ∧ Hid (Ws R w (q + 400 + 11 * n) n s wr)) (fun s _ => 48 - lenV s)
  case atStart => exact ⟨n1 + 1, by omega, hide (by omega), hide (W1.out.mono (by omega))⟩
  case round =>
    clear W1
    obtain ⟨n, hn, HN, WW⟩ := hrel
    obtain ⟨g3, c3, rfl, hc1, hc2⟩ := WW.out.form
    by_cases h48 : n < 48
    · have lt48 : ((n : Nat) : Int) < 48 := by omega
      go_wp2_with fail
      refine (word R (q + 400 + 11 * n) wr WW.out.rd (by omega)).mono ?_
      rintro e vb ⟨y, rfl, y0, y1, h1, k1⟩
      replace WW := hide (WW.out.step hR h1 k1)
      have Y := hide (And.intro y0 y1)
      clear h1 k1 y0 y1
      go_wp2_with fail
      refine (ins R (q + 400 + 11 * n + 3) vb WW.out.rd (by omega)).mono ?_
      rintro e vc ⟨op, d, a, c, rfl, h1, k1⟩
      replace WW := hide (WW.out.step hR h1 k1)
      clear h1 k1
      go_wp2_with fail
      refine (Ins.insPut op d a c vc).mono ?_
      rintro e vd ⟨rfl, hb⟩
      replace WW := hide (WW.out.below hR hb)
      clear hb
      obtain ⟨z, ez⟩ : ∃ z, Ins.putN op d a c = z := ⟨_, rfl⟩
      have Z := hide (put_bd op d a c)
      rw [ez] at Z ⊢
      clear ez
      have SV : Hid (R < vd.heap.size) := Nat.lt_of_lt_of_le hR WW.out.kp.size
      have bo : Below vd.heap.size vd (vd.alloc (.cells #[.int .i64 0, .int .i64 y, .int .i64 z] 3)) := (Below.refl _ _).alloc (Nat.le_refl _) _
      replace WW := hide (WW.out.below hR bo)
      clear bo
      go_wp2_with fail
      refine (pick R (q + 400 + 11 * n + 3 + 7) 3 _ WW.out.rd (by omega)).mono ?_
      rintro e ve ⟨x, rfl, x0, x1, -, h1, k1⟩
      replace x1 := x1 (by omega)
      obtain ⟨t, ht, t0, t1⟩ := cells3 vd 0 y z x (by omega) Y.out Z.out x0 x1
      have ht2 : ve.cell? ⟨vd.heap.size, x.toNat, none⟩ = some (.int .i64 t) := (k1.cell (p := ⟨vd.heap.size, x.toNat, none⟩) (by simp) (by have := SV.out; show vd.heap.size ≠ R; omega)).trans ht
      replace WW := hide (WW.out.step hR h1 k1)
      clear h1 k1 ht
      obtain ⟨v', w', hrun, WN⟩ := WW.out.one hR 23 (by omega) t t0 t1
      have WM : Hid (Ws R w (q + 400 + 11 * (n + 1)) (n + 1) v' w') := WN.out.mono (by omega)
      clear WW WN Y Z t0 t1
      go_wp2_with (at_builtin; refine push_list rfl _ _ rfl rfl rfl hrun ?_; refine Hid.out ?_)
      clear hrun
      refine hide ?_
      obtain ⟨g4, c4, rfl, _⟩ := WM.out.form
      go_wp2
      exact ⟨⟨n + 1, by omega, hide (by have := HN.out; omega), WM⟩, by simp [lenV]; omega⟩
    · obtain rfl : n = 48 := by omega
      clear hn h48 HN
      have cc : (48 : Int) ≤ (c3 : Int) := by omega
      go_wp2_with fail
      refine (pick R (q + 400 + 11 * 48) 4 wr WW.out.rd (by omega)).mono ?_
      rintro e vb ⟨z, rfl, z0, z1, -, h1, k1⟩
      replace WW := hide (WW.out.step hR h1 k1)
      clear h1 k1
      obtain ⟨Z, rfl⟩ : ∃ Z : Nat, z = Z := ⟨z.toNat, by omega⟩
      have Z3 : Z ≤ 3 := by have := z1 (by omega); omega
      clear z0 z1 hc1 hc2 cc
      go_wp2
      go_loopw [6, 7] (fun s i wr => ∃ (k j n : Nat), i = .int .i64 (k : Int) ∧ k + j = Z ∧ n = 48 + j ∧ Hid (Ws R w (q + 930 + 9 * j) n s wr)) (fun _ i _ => (intOf i).toNat)
      case atStart => exact ⟨Z, 0, 48, rfl, by omega, by omega, hide (WW.out.mono (by omega))⟩
      case round =>
        clear WW
        obtain ⟨k, j, n, rfl, hkj, hn, WW⟩ := hrel
        have HN := hide hn
        have n51 : n ≤ 51 := by omega
        have n48 : 48 ≤ n := by omega
        clear hn
        obtain ⟨g5, c5, rfl, _⟩ := WW.out.form
        by_cases h0 : k = 0
        · subst h0
          replace WW := hide (WW.out.mono (q' := q + 960) (by omega))
          clear hkj HN
          go_wp2_with fail
          refine (Ins.insPut 14 3 0 0 wr).mono ?_
          rintro e vc ⟨rfl, hb⟩
          replace WW := hide (WW.out.below hR hb)
          clear hb
          obtain ⟨y, ey⟩ : ∃ y, Ins.putN 14 3 0 0 = y := ⟨_, rfl⟩
          have Y := hide (put_bd 14 3 0 0)
          rw [ey] at Y ⊢
          clear ey
          go_wp2_with fail
          refine (Ins.insPut 0 0 0 1 vc).mono ?_
          rintro e vd ⟨rfl, hb⟩
          replace WW := hide (WW.out.below hR hb)
          clear hb
          obtain ⟨z, ez⟩ : ∃ z, Ins.putN 0 0 0 1 = z := ⟨_, rfl⟩
          have Z := hide (put_bd 0 0 0 1)
          rw [ez] at Z ⊢
          clear ez
          obtain ⟨v', w', hrun, WN⟩ := WW.out.two hR 23 (by omega) y z Y.out Z.out
          clear WW Y Z
          go_wp2_with (at_builtin; refine push_list rfl _ _ rfl rfl rfl hrun ?_; refine Hid.out ?_)
          clear hrun
          refine hide ?_
          obtain ⟨g6, c6, rfl, _⟩ := WN.out.form
          go_wp2_with fail
          refine (odd R (q + 960) 9 w' WN.out.rd (by omega) (by omega) (by omega)).mono ?_
          rintro e ve ⟨b, rfl, h1, k1⟩
          replace WN := hide (WN.out.step hR h1 k1)
          clear h1 k1
          cases b with
          | false =>
            go_wp2
            go_ret
            exact ⟨_, n + 2, rfl, by omega, by omega, WN.out.mono (by omega)⟩
          | true =>
            go_wp2_with fail
            refine (pick R (q + 960 + 1) ((n + 2 : Nat) : Int) ve WN.out.rd (by omega)).mono ?_
            rintro e vf ⟨x, rfl, x0, x1, -, h1, k1⟩
            replace x1 := x1 (by omega)
            replace WN := hide (WN.out.step hR h1 k1)
            clear h1 k1
            go_wp2_with fail
            refine (word R (q + 960 + 1 + 1) vf WN.out.rd (by omega)).mono ?_
            rintro e vg ⟨y, rfl, y0, y1, h1, k1⟩
            replace WN := hide (WN.out.step hR h1 k1)
            clear h1 k1
            obtain ⟨X, rfl⟩ : ∃ X : Nat, x = X := ⟨x.toNat, by omega⟩
            have X1 : X < n + 2 := by omega
            obtain ⟨⟨y9, cx⟩, fx⟩ := WN.out.at X X1
            have FIN := hide ((WN.out.set X X1 y y0 y1 hR).mono (q' := q + 2000) (by omega))
            clear WN y0 y1
            go_wp2
            go_ret
            exact ⟨_, n + 2, rfl, by omega, by omega, FIN.out⟩
        · obtain ⟨m, rfl⟩ : ∃ m, k = m + 1 := ⟨k - 1, by omega⟩
          have gt : (0 : Int) < ((m + 1 : Nat) : Int) := by omega
          have m3 : m ≤ 3 := by omega
          have ki : (((m + 1 : Nat) : Int) - 1) = (m : Int) := by omega
          go_wp2_with fail
          refine (flat R (q + 930 + 9 * j) wr WW.out.rd (by omega)).mono ?_
          rintro e vc ⟨op, d, a, c, rfl, h1, k1⟩
          replace WW := hide (WW.out.step hR h1 k1)
          clear h1 k1
          go_wp2_with fail
          refine (Ins.insPut op d a c vc).mono ?_
          rintro e vd ⟨rfl, hb⟩
          replace WW := hide (WW.out.below hR hb)
          clear hb
          obtain ⟨y, ey⟩ : ∃ y, Ins.putN op d a c = y := ⟨_, rfl⟩
          have Y := hide (put_bd op d a c)
          rw [ey] at Y ⊢
          clear ey
          obtain ⟨v', w', hrun, WN⟩ := WW.out.one hR 23 (by omega) y Y.out.1 Y.out.2
          have WM : Hid (Ws R w (q + 930 + 9 * (j + 1)) (n + 1) v' w') := WN.out.mono (by omega)
          clear WW WN Y
          go_wp2_with (at_builtin; refine push_list rfl _ _ rfl rfl rfl hrun ?_; refine Hid.out ?_)
          clear hrun
          refine hide ?_
          go_wp2
          exact ⟨⟨m, j + 1, n + 1, by first | rfl | (rw [ki]; done) | (simp; done) | (simp; omega), by omega, by have := HN.out; omega, WM⟩, by simp [intOf] <;> omega⟩
end Go.Proofs.YtnhpmbhphbphaaaGreat.Draw
