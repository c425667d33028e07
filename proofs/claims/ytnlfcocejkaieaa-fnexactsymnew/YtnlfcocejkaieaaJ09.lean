/-
  A word as a sum, an atom as a sum: the program's PolConst and PolAtom, and the specification's.
  Atoms as data: slices that hold them; contracts of the laws' own szTabTab and eqTabTab.
  The laws' own eqTabTab and toTabTab.
  The laws' own toTabTab.
-/
import Derived.Test.YtnlfcocejkaieaaJ06
namespace Go.Proofs.Ytnlfcocejkaieaa.Pol
open Go.ChangeShapes Go.WideShapes Go.ChangeAt Go.RowKit IntS
def constP (n : Int) : List Mono := if 1 ≤ n ∧ n ≤ 65535 then [(n, [])] else []
def atomP (k : Int) : List Mono := if 0 ≤ k ∧ k < 200 then [(1, [k])] else []
theorem WPoly.const {w : World} {lo hi G : Nat} {n : Int} (h0 : Rec G [.int .i64 n, .slice none 0 0] w) (h1 : lo ≤ G) (h2 : G < hi) : WPoly w lo hi (.slice (some ⟨G, 0, none⟩) 1 1) [(n, [])] := by
  refine ⟨some ⟨G, 0, none⟩, G, 1, fun _ => 0, fun _ => .slice none 0 0, rfl, Nat.le_refl _, by unfold maxLen; omega, (fun h => by cases h), Or.inr ⟨rfl, h1, h2, h0.lt⟩, fun i x hx => ?_, fun i j x y hij hx hy => ?_⟩
  · cases i with
    | zero =>
      obtain rfl := Option.some.inj hx
      exact ⟨h0.cell 0 _ rfl, h0.soft _, h0.cell 1 _ rfl, nil_row w _, Or.inl rfl⟩
    | succ i => simp at hx
  · cases j with
    | zero => omega
    | succ j => simp at hy
theorem WPoly.atom {w : World} {lo hi G H : Nat} {k : Int} (h0 : Rec G [.int .i64 1, .slice (some ⟨H, 0, none⟩) 1 1] w) (h3 : Rec H [.int .i64 k] w) (h1 : lo ≤ G) (h2 : G < hi) (h4 : lo ≤ H) (h5 : H < hi) (h6 : H ≠ G) : WPoly w lo hi (.slice (some ⟨G, 0, none⟩) 1 1) [(1, [k])] := by
  refine ⟨some ⟨G, 0, none⟩, G, 1, fun _ => H, fun _ => .slice (some ⟨H, 0, none⟩) 1 1, rfl, Nat.le_refl _, by unfold maxLen; omega, (fun h => by cases h), Or.inr ⟨rfl, h1, h2, h0.lt⟩, fun i x hx => ?_, fun i j x y hij hx hy => ?_⟩
  · cases i with
    | zero =>
      obtain rfl := Option.some.inj hx
      refine ⟨h0.cell 0 _ rfl, h0.soft _, h0.cell 1 _ rfl, ⟨some ⟨H, 0, none⟩, 1, 0, rfl, Nat.le_refl _, by unfold maxLen; omega, (fun h => by cases h), Or.inr ⟨rfl, h3.lt, fun i x hx => ?_⟩⟩, Or.inr ⟨h4, h5, h6⟩⟩
      rw [Nat.zero_add]
      refine ⟨h3.cell i _ ?_, h3.soft i⟩
      cases i with
      | zero => obtain rfl := Option.some.inj hx; rfl
      | succ i => simp at hx
    | succ i => simp at hx
  · cases j with
    | zero => omega
    | succ j => simp at hy
set_option maxRecDepth 8000 in
set_option maxHeartbeats 4000000 in
theorem implConst (n : Int) (w : World) :
    Calls Try.prog 101 #[.int .i64 n] w fun e w' => ∃ a l c, e = .returned (.agg #[.slice a l c]) ∧ WPoly w' w.heap.size w'.heap.size (.slice a l c) (constP n) ∧ Below w.heap.size w w' := by
  by_cases hc : 1 ≤ n ∧ n ≤ 65535
  case neg =>
    by_cases e0 : n = 0
    · subst e0
      have HP : Hid (constP 0 = []) := if_neg hc
      have Z := hide (Rec.new w [.slice none 0 0] 35)
      have BB := hide ((Below.refl w.heap.size w).alloc (Nat.le_refl _) (.cells #[.slice none 0 0] 35))
      clear hc
      go_enter Try.func101, Try.ntmps101
      go_wp2
      generalize w.alloc (.cells #[.slice none 0 0] 35) = V at Z BB ⊢
      have z0 := Z.out.cell 0 _ rfl
      exact bodyPost_ret (v := .agg #[.slice none 0 0]) (by simp [results, Try.results101, go_sem, z0]) rfl ⟨none, 0, 0, rfl, by rw [HP.out]; exact WPoly.nil _ _ _, BB.out⟩
    have e0' : (n == 0) = false := by simp [e0]
    have HP : Hid (constP n = []) := if_neg hc
    have HW : Hid (Wrd.wok n = false) := Wrd.wok_f (by omega)
    clear e0
    have Z := hide (Rec.new w [.slice none 0 0] 35)
    have BB := hide ((Below.refl w.heap.size w).alloc (Nat.le_refl _) (.cells #[.slice none 0 0] 35))
    clear hc
    go_enter Try.func101, Try.ntmps101
    go_wp2_with fail
    refine (Wrd.implOk n _).mono ?_
    rintro e u ⟨rfl, rfl⟩
    rw [HW.out]
    go_wp2
    generalize w.alloc (.cells #[.slice none 0 0] 35) = V at Z BB ⊢
    have z0 := Z.out.cell 0 _ rfl
    exact bodyPost_ret (v := .agg #[.slice none 0 0]) (by simp [results, Try.results101, go_sem, z0]) rfl ⟨none, 0, 0, rfl, by rw [HP.out]; exact WPoly.nil _ _ _, BB.out⟩
  have HP : Hid (constP n = [(n, [])]) := if_pos hc
  have HW : Hid (Wrd.wok n = true) := Wrd.wok_t (by omega) (by omega)
  have e0' : (n == 0) = false := by simp; omega
  clear hc
  go_enter Try.func101, Try.ntmps101
  go_wp2_with fail
  refine (Wrd.implOk n _).mono ?_
  rintro e u ⟨rfl, rfl⟩
  rw [HW.out]
  go_wp2
  have Z := (Rec.new w [.slice (some ⟨w.heap.size + 1, 0, none⟩) 1 1] 35).alloc (.cells #[.int .i64 n, .slice none 0 0] 53)
  have M := Rec.new (w.alloc (.cells #[.slice (some ⟨w.heap.size + 1, 0, none⟩) 1 1] 35)) [.int .i64 n, .slice none 0 0] 53
  rw [show (w.alloc (.cells #[.slice (some ⟨w.heap.size + 1, 0, none⟩) 1 1] 35)).heap.size = w.heap.size + 1 by simp] at M
  have BB := ((Below.refl w.heap.size w).alloc (Nat.le_refl _) (.cells #[.slice (some ⟨w.heap.size + 1, 0, none⟩) 1 1] 35)).alloc (by simp) (.cells #[.int .i64 n, .slice none 0 0] 53)
  generalize (w.alloc (.cells #[.slice (some ⟨w.heap.size + 1, 0, none⟩) 1 1] 35)).alloc (.cells #[.int .i64 n, .slice none 0 0] 53) = V at Z M BB ⊢
  have z0 := Z.cell 0 _ rfl
  exact bodyPost_ret (v := .agg #[.slice (some ⟨w.heap.size + 1, 0, none⟩) 1 1]) (by simp [results, Try.results101, go_sem, z0]) rfl ⟨_, 1, 1, rfl, by rw [HP.out]; exact WPoly.const M (by omega) M.lt, BB⟩
set_option maxRecDepth 8000 in
set_option maxHeartbeats 4000000 in
theorem implAtom (n : Int) (w : World) :
    Calls Try.prog 97 #[.int .i64 n] w fun e w' => ∃ a l c, e = .returned (.agg #[.slice a l c]) ∧ WPoly w' w.heap.size w'.heap.size (.slice a l c) (atomP n) ∧ Below w.heap.size w w' := by
  by_cases hc : 0 ≤ n ∧ n < 200
  case neg =>
    have HP : Hid (atomP n = []) := if_neg hc
    have HW : Hid (atomB n = false) := decide_eq_false hc
    have Z := hide (Rec.new w [.slice none 0 0] 35)
    have BB := hide ((Below.refl w.heap.size w).alloc (Nat.le_refl _) (.cells #[.slice none 0 0] 35))
    clear hc
    go_enter Try.func97, Try.ntmps97
    go_wp2_with fail
    refine (isAtom n _).mono ?_
    rintro e u ⟨rfl, rfl⟩
    rw [HW.out]
    go_wp2
    generalize w.alloc (.cells #[.slice none 0 0] 35) = V at Z BB ⊢
    have z0 := Z.out.cell 0 _ rfl
    exact bodyPost_ret (v := .agg #[.slice none 0 0]) (by simp [results, Try.results97, go_sem, z0]) rfl ⟨none, 0, 0, rfl, by rw [HP.out]; exact WPoly.nil _ _ _, BB.out⟩
  have HP : Hid (atomP n = [(1, [n])]) := if_pos hc
  have HW : Hid (atomB n = true) := decide_eq_true hc
  clear hc
  go_enter Try.func97, Try.ntmps97
  go_wp2_with fail
  refine (isAtom n _).mono ?_
  rintro e u ⟨rfl, rfl⟩
  rw [HW.out]
  go_wp2
  have T3 := Three.new w [.slice (some ⟨w.heap.size + 1 + 1, 0, none⟩) 1 1] [.int .i64 n] [.int .i64 1, .slice (some ⟨w.heap.size + 1, 0, none⟩) 1 1] 35 3 53
  simp only [List.toArray] at T3
  generalize ((w.alloc (.cells #[.slice (some ⟨w.heap.size + 1 + 1, 0, none⟩) 1 1] 35)).alloc (.cells #[.int .i64 n] 3)).alloc (.cells #[.int .i64 1, .slice (some ⟨w.heap.size + 1, 0, none⟩) 1 1] 53) = V at T3 ⊢
  have z0 := T3.a.cell 0 _ rfl
  exact bodyPost_ret (v := .agg #[.slice (some ⟨w.heap.size + 1 + 1, 0, none⟩) 1 1]) (by simp [results, Try.results97, go_sem, z0]) rfl ⟨_, 1, 1, rfl, by rw [HP.out]; exact WPoly.atom T3.o T3.z (by omega) T3.o.lt (by omega) T3.z.lt (by omega), T3.bw⟩
set_option maxRecDepth 8000 in
set_option maxHeartbeats 4000000 in
theorem specAtom (n : Int) (w : World) :
    Calls Try.prog 12 #[.int .i64 n] w fun e w' => ∃ a l c, e = .returned (.agg #[.slice a l c]) ∧ WPoly w' w.heap.size w'.heap.size (.slice a l c) (atomP n) ∧ Below w.heap.size w w' := by
  by_cases hc : 0 ≤ n ∧ n < 200
  case neg =>
    have HP : Hid (atomP n = []) := if_neg hc
    have HW : Hid (inI n 0 199 = false) := (in_atom n).trans (decide_eq_false hc)
    have Z := hide (Rec.new w [.slice none 0 0] 35)
    have BB := hide ((Below.refl w.heap.size w).alloc (Nat.le_refl _) (.cells #[.slice none 0 0] 35))
    clear hc
    go_enter Try.func12, Try.ntmps12
    go_wp2_with fail
    refine (l1In n 0 199 _).mono ?_
    rintro e u ⟨rfl, rfl⟩
    rw [HW.out]
    go_wp2
    generalize w.alloc (.cells #[.slice none 0 0] 35) = V at Z BB ⊢
    have z0 := Z.out.cell 0 _ rfl
    exact bodyPost_ret (v := .agg #[.slice none 0 0]) (by simp [results, Try.results12, go_sem, z0]) rfl ⟨none, 0, 0, rfl, by rw [HP.out]; exact WPoly.nil _ _ _, BB.out⟩
  have HP : Hid (atomP n = [(1, [n])]) := if_pos hc
  have HW : Hid (inI n 0 199 = true) := (in_atom n).trans (decide_eq_true hc)
  clear hc
  go_enter Try.func12, Try.ntmps12
  go_wp2_with fail
  refine (l1In n 0 199 _).mono ?_
  rintro e u ⟨rfl, rfl⟩
  rw [HW.out]
  go_wp2
  have T3 := Three.new w [.slice (some ⟨w.heap.size + 1 + 1, 0, none⟩) 1 1] [.int .i64 n] [.int .i64 1, .slice (some ⟨w.heap.size + 1, 0, none⟩) 1 1] 35 3 53
  simp only [List.toArray] at T3
  generalize ((w.alloc (.cells #[.slice (some ⟨w.heap.size + 1 + 1, 0, none⟩) 1 1] 35)).alloc (.cells #[.int .i64 n] 3)).alloc (.cells #[.int .i64 1, .slice (some ⟨w.heap.size + 1, 0, none⟩) 1 1] 53) = V at T3 ⊢
  have z0 := T3.a.cell 0 _ rfl
  exact bodyPost_ret (v := .agg #[.slice (some ⟨w.heap.size + 1 + 1, 0, none⟩) 1 1]) (by simp [results, Try.results12, go_sem, z0]) rfl ⟨_, 1, 1, rfl, by rw [HP.out]; exact WPoly.atom T3.o T3.z (by omega) T3.o.lt (by omega) T3.z.lt (by omega), T3.bw⟩
end Go.Proofs.Ytnlfcocejkaieaa.Pol
namespace Go.Proofs.Ytnlfcocejkaieaa.Tab
set_option linter.unusedVariables false
open Go.ChangeShapes Go.WideShapes Go.ChangeAt Go.RowKit IntS Pol
/-- An atom: what it is, which one or how reckoned, and of which sums. -/
structure At where
  kd : Int
  k : Int
  x : List Mono
  y : List Mono
/-- The four cells of an atom at a place. -/
def AtAt (w : World) (B p : Nat) (t : At) : Prop := w.cell? ⟨B, p, none⟩ = some (.int .i64 t.kd) ∧ w.cell? ⟨B, p + 1, none⟩ = some (.int .i64 t.k) ∧ ∃ qx cx bx qy cy b, w.cell? ⟨B, p + 2, none⟩ = some (.slice qx t.x.length cx) ∧ PRow w bx (.slice qx t.x.length cx) t.x ∧ w.cell? ⟨B, p + 3, none⟩ = some (.slice qy t.y.length cy) ∧ PRow w b (.slice qy t.y.length cy) t.y
theorem AtAt.below {w w' : World} {B p : Nat} {t : At} (h : AtAt w B p t) (hb : Below w.heap.size w w') : AtAt w' B p t := by
  obtain ⟨h1, h2, qx, cx, bx, qy, cy, b, h3, h4, h5, h6⟩ := h
  exact ⟨cell_below hb h1, cell_below hb h2, qx, cx, bx, qy, cy, b, cell_below hb h3, h4.below hb, cell_below hb h5, h6.below hb⟩
/-- A slice that holds atoms. -/
structure TRow (w : World) (B : Nat) (v : Value) (ts : List At) : Prop where
  ex : ∃ a cap off, v = .slice a ts.length cap ∧ ts.length ≤ cap ∧ cap ≤ maxLen ∧ (a = none → cap = 0) ∧ (ts = [] ∨ (a = some ⟨B, off, none⟩ ∧ ∀ (i : Nat) t, ts[i]? = some t → AtAt w B (off + i * 4) t))
theorem TRow.below {w w' : World} {B : Nat} {v : Value} {ts : List At} (h : TRow w B v ts) (hb : Below w.heap.size w w') : TRow w' B v ts := by
  obtain ⟨a, cap, off, h1, h2, h3, hz, h4⟩ := h
  exact ⟨a, cap, off, h1, h2, h3, hz, h4.imp id fun ⟨e, q⟩ => ⟨e, fun i t ht => (q i t ht).below hb⟩⟩
def szA (t : At) : Nat := t.x.length + tot t.x + (t.y.length + tot t.y)
def totT : List At → Nat
  | [] => 0
  | t :: r => szA t + totT r
theorem totT_app : ∀ a b : List At, totT (a ++ b) = totT a + totT b
  | [], b => by simp [totT]
  | x :: a, b => by simp [totT, totT_app a b]; omega
theorem totT_next {ts : List At} {k : Nat} {t : At} (h : ts[k]? = some t) : totT (ts.take (k + 1)) = totT (ts.take k) + szA t := by
  rw [List.take_add_one, h, totT_app]
  simp [totT]
theorem totT_le {ts : List At} (k : Nat) : totT (ts.take k) ≤ totT ts := by
  have := totT_app (ts.take k) (ts.drop k)
  rw [List.take_append_drop] at this
  omega
theorem totT_at {ts : List At} {k : Nat} {t : At} (h : ts[k]? = some t) : szA t ≤ totT ts := by
  have := totT_next h
  have := totT_le (ts := ts) (k + 1)
  omega
def SmallT (ts : List At) : Prop := ts.length + totT ts ≤ 1048576
set_option maxHeartbeats 4000000 in
theorem eqTabAtom (t : At) (qx qx' : Option Addr) (cx cx' : Nat) (qy qy' : Option Addr) (cy cy' bx bx' b b' : Nat) (w : World) (hx : PRow w bx (.slice qx t.x.length cx) t.x) (hy : PRow w b (.slice qy t.y.length cy) t.y) (hx' : PRow w bx' (.slice qx' t.x.length cx') t.x) (hy' : PRow w b' (.slice qy' t.y.length cy') t.y) :
    Calls Try.prog 23 #[.agg #[.int .i64 t.kd, .int .i64 t.k, .slice qx t.x.length cx, .slice qy t.y.length cy], .agg #[.int .i64 t.kd, .int .i64 t.k, .slice qx' t.x.length cx', .slice qy' t.y.length cy']] w fun e w' => e = .returned (.bool true) ∧ Below w.heap.size w w' := by
  have bV : Below w.heap.size w ((w.alloc (.cells #[.int .i64 t.kd, .int .i64 t.k, .slice qx t.x.length cx, .slice qy t.y.length cy] 37)).alloc (.cells #[.int .i64 t.kd, .int .i64 t.k, .slice qx' t.x.length cx', .slice qy' t.y.length cy'] 37)) := ((Below.refl _ _).alloc (Nat.le_refl _) _).alloc (by simp) _
  have R := hide ((Rec.new w [.int .i64 t.kd, .int .i64 t.k, .slice qx t.x.length cx, .slice qy t.y.length cy] 37).alloc (.cells #[.int .i64 t.kd, .int .i64 t.k, .slice qx' t.x.length cx', .slice qy' t.y.length cy'] 37))
  have R' := Rec.new (w.alloc (.cells #[.int .i64 t.kd, .int .i64 t.k, .slice qx t.x.length cx, .slice qy t.y.length cy] 37)) [.int .i64 t.kd, .int .i64 t.k, .slice qx' t.x.length cx', .slice qy' t.y.length cy'] 37
  rw [show (w.alloc (.cells #[.int .i64 t.kd, .int .i64 t.k, .slice qx t.x.length cx, .slice qy t.y.length cy] 37)).heap.size = w.heap.size + 1 by simp] at R'
  replace R' := hide R'
  have HX := hide (hx.below bV)
  have HY := hide (hy.below bV)
  have HX' := hide (hx'.below bV)
  have HY' := hide (hy'.below bV)
  have BW := hide bV
  have n1 : (t.kd != t.kd) = false := by simp
  have n2 : (t.k != t.k) = false := by simp
  clear bV hx hy hx' hy'
  go_enter Try.func23, Try.ntmps23
  go_wp2_with fail
  refine (eqTrmPoly t.x bx bx' _ _ _ HX.out HX'.out).mono ?_
  rintro e u ⟨rfl, hb⟩
  replace R := hide (R.out.below hb)
  replace R' := hide (R'.out.below hb)
  replace HY := hide (HY.out.below hb)
  replace HY' := hide (HY'.out.below hb)
  replace BW := hide (BW.out.trans (hb.mono BW.out.size))
  clear hb
  have c3 := R.out.cell 3 _ rfl
  have c3' := R'.out.cell 3 _ rfl
  go_wp2_with fail
  refine (eqTrmPoly t.y b b' _ _ _ HY.out HY'.out).mono ?_
  rintro e u2 ⟨rfl, hb⟩
  replace BW := hide (BW.out.trans (hb.mono BW.out.size))
  clear hb c3 c3'
  go_wp2
  go_ret
  exact ⟨rfl, BW.out⟩
end Go.Proofs.Ytnlfcocejkaieaa.Tab
namespace Go.Proofs.Ytnlfcocejkaieaa.Tab
set_option linter.unusedVariables false
open Go.ChangeShapes Go.WideShapes Go.ChangeAt Go.RowKit IntS Pol
theorem poly_other {w : World} {lo hi : Nat} {v : Value} {ps : List Mono} (h : WPoly w lo hi v ps) (p : Addr) (x : Value) (hp : p.block < lo ∨ hi ≤ p.block) : WPoly (w.setCell p x) lo hi v ps :=
  h.keep (Keep.of_turn ((Turn.refl p.block w).setCell (p := p) rfl x)) (fun b h1 h2 (h3 : b = _) => by omega)
theorem setCell_size (w : World) (p : Addr) (x : Value) : (w.setCell p x).heap.size = w.heap.size := by simp [World.setCell]
end Go.Proofs.Ytnlfcocejkaieaa.Tab
namespace Go.Proofs.Ytnlfcocejkaieaa.Tab
set_option linter.unusedVariables false
open Go.ChangeShapes Go.WideShapes Go.ChangeAt Go.RowKit IntS Pol
def set4 (v : World) (B p : Nat) (a b c d : Value) : World := (((v.setCell ⟨B, p, none⟩ a).setCell ⟨B, p + 1, none⟩ b).setCell ⟨B, p + 2, none⟩ c).setCell ⟨B, p + 3, none⟩ d
theorem set4_far (v : World) (B p : Nat) (a b c d : Value) (q : Addr) (h : ∀ i, i < 4 → q ≠ ⟨B, p + i, none⟩) : (set4 v B p a b c d).cell? q = v.cell? q := by
  unfold set4
  rw [World.cell?_setCell_other _ _ _ _ (fun e => h 3 (by omega) e.symm), World.cell?_setCell_other _ _ _ _ (fun e => h 2 (by omega) e.symm), World.cell?_setCell_other _ _ _ _ (fun e => h 1 (by omega) e.symm), World.cell?_setCell_other _ _ _ _ (fun e => h 0 (by omega) (by rw [Nat.add_zero]; exact e.symm))]
theorem off_ne {B i j : Nat} (h : i ≠ j) : (⟨B, i, none⟩ : Addr) ≠ ⟨B, j, none⟩ := fun e => h (congrArg Addr.off e)
theorem set4_cells (v : World) (B p : Nat) (a b c d : Value) (h : ∀ i, i < 4 → ∃ y, v.cell? ⟨B, p + i, none⟩ = some y) : (set4 v B p a b c d).cell? ⟨B, p, none⟩ = some a ∧ (set4 v B p a b c d).cell? ⟨B, p + 1, none⟩ = some b ∧ (set4 v B p a b c d).cell? ⟨B, p + 2, none⟩ = some c ∧ (set4 v B p a b c d).cell? ⟨B, p + 3, none⟩ = some d := by
  obtain ⟨y0, h0⟩ := h 0 (by omega)
  obtain ⟨y1, h1⟩ := h 1 (by omega)
  obtain ⟨y2, h2⟩ := h 2 (by omega)
  obtain ⟨y3, h3⟩ := h 3 (by omega)
  unfold set4
  refine ⟨?_, ?_, ?_, ?_⟩
  · rw [World.cell?_setCell_other _ _ _ _ (off_ne (by omega)), World.cell?_setCell_other _ _ _ _ (off_ne (by omega)), World.cell?_setCell_other _ _ _ _ (off_ne (by omega))]
    exact World.cell?_setCell_same _ _ _ h0
  · rw [World.cell?_setCell_other _ _ _ _ (off_ne (by omega)), World.cell?_setCell_other _ _ _ _ (off_ne (by omega))]
    refine World.cell?_setCell_same _ _ _ (u := y1) ?_
    rw [World.cell?_setCell_other _ _ _ _ (off_ne (by omega))]
    exact h1
  · rw [World.cell?_setCell_other _ _ _ _ (off_ne (by omega))]
    refine World.cell?_setCell_same _ _ _ (u := y2) ?_
    rw [World.cell?_setCell_other _ _ _ _ (off_ne (by omega)), World.cell?_setCell_other _ _ _ _ (off_ne (by omega))]
    exact h2
  · refine World.cell?_setCell_same _ _ _ (u := y3) ?_
    rw [World.cell?_setCell_other _ _ _ _ (off_ne (by omega)), World.cell?_setCell_other _ _ _ _ (off_ne (by omega)), World.cell?_setCell_other _ _ _ _ (off_ne (by omega))]
    exact h3
theorem set4_soft (v : World) (B p : Nat) (a b c d : Value) (q : Addr) : (set4 v B p a b c d).frozen? q = v.frozen? q := by
  unfold set4
  rw [World.frozen?_setCell, World.frozen?_setCell, World.frozen?_setCell, World.frozen?_setCell]
theorem set4_turn (v : World) (B p : Nat) (a b c d : Value) : Turn B v (set4 v B p a b c d) :=
  ((((Turn.refl B v).setCell (p := ⟨B, p, none⟩) rfl a).setCell (p := ⟨B, p + 1, none⟩) rfl b).setCell (p := ⟨B, p + 2, none⟩) rfl c).setCell (p := ⟨B, p + 3, none⟩) rfl d
theorem set4_size (v : World) (B p : Nat) (a b c d : Value) : (set4 v B p a b c d).heap.size = v.heap.size := by unfold set4; simp only [setCell_size]
theorem poly_turn {B : Nat} {w w' : World} {lo hi : Nat} {v : Value} {ps : List Mono} (h : WPoly w lo hi v ps) (ht : Turn B w w') (hp : B < lo ∨ hi ≤ B) : WPoly w' lo hi v ps :=
  h.keep (Keep.of_turn ht) (fun b h1 h2 (h3 : b = _) => by omega)
/-- Where a list of atoms has been filled up to a place. -/
structure FillT (w : World) (n : Nat) (ts : List At) (j : Nat) (u : World) : Prop where
  below : Below w.heap.size w u
  lt : w.heap.size < u.heap.size
  done : ∃ l m h gx gy : Nat → Nat, (∀ (i : Nat) t, i < j → ts[i]? = some t → (u.cell? ⟨w.heap.size, i * 4, none⟩ = some (.int .i64 t.kd) ∧ u.cell? ⟨w.heap.size, i * 4 + 1, none⟩ = some (.int .i64 t.k) ∧ u.cell? ⟨w.heap.size, i * 4 + 2, none⟩ = some (.slice (some ⟨gx i, 0, none⟩) t.x.length t.x.length) ∧ u.cell? ⟨w.heap.size, i * 4 + 3, none⟩ = some (.slice (some ⟨gy i, 0, none⟩) t.y.length t.y.length)) ∧ WPoly u (l i) (m i) (.slice (some ⟨gx i, 0, none⟩) t.x.length t.x.length) t.x ∧ WPoly u (m i) (h i) (.slice (some ⟨gy i, 0, none⟩) t.y.length t.y.length) t.y ∧ w.heap.size < l i ∧ l i ≤ m i ∧ m i ≤ h i ∧ h i ≤ u.heap.size) ∧ ∀ i i', i < i' → i' < j → h i ≤ l i'
  left : ∀ i, i < n * 4 → ∃ y, u.cell? ⟨w.heap.size, i, none⟩ = some y
  soft : ∀ i, i < n * 4 → u.frozen? ⟨w.heap.size, i, none⟩ = false
theorem fillT_new (w : World) (n : Nat) (ts : List At) (t : TypeId) : FillT w n ts 0 (w.alloc (.cells (madeCells #[.int .i64 0, .int .i64 0, .slice none 0 0, .slice none 0 0] (n * 4)) t)) := by
  refine ⟨(Below.refl _ _).alloc (Nat.le_refl _) _, by simp, ⟨fun _ => 0, fun _ => 0, fun _ => 0, fun _ => 0, fun _ => 0, fun i x hi => by omega, fun i i' _ hi => by omega⟩, fun i hi => ?_, fun i hi => by simp⟩
  rw [World.cell?_alloc_new]
  have : i < (madeCells #[Value.int .i64 0, .int .i64 0, .slice none 0 0, .slice none 0 0] (n * 4)).size := by rw [size_madeCells]; exact hi
  exact ⟨_, Array.getElem?_eq_getElem this⟩
theorem FillT.next {w u u' : World} {n j gx gy mid : Nat} {ts : List At} {t : At} (h : FillT w n ts j u) (hj : j < n) (ht : ts[j]? = some t) (hb : Below u.heap.size u u') (hx : WPoly u' u.heap.size mid (.slice (some ⟨gx, 0, none⟩) t.x.length t.x.length) t.x) (hy : WPoly u' mid u'.heap.size (.slice (some ⟨gy, 0, none⟩) t.y.length t.y.length) t.y) (m1 : u.heap.size ≤ mid) (m2 : mid ≤ u'.heap.size) :
    FillT w n ts (j + 1) (set4 u' w.heap.size (j * 4) (.int .i64 t.kd) (.int .i64 t.k) (.slice (some ⟨gx, 0, none⟩) t.x.length t.x.length) (.slice (some ⟨gy, 0, none⟩) t.y.length t.y.length)) := by
  have hl := h.lt
  have hs := hb.size
  have N := set4_cells u' w.heap.size (j * 4) (.int .i64 t.kd) (.int .i64 t.k) (.slice (some ⟨gx, 0, none⟩) t.x.length t.x.length) (.slice (some ⟨gy, 0, none⟩) t.y.length t.y.length) (fun i hi => by
    obtain ⟨y, hy⟩ := h.left (j * 4 + i) (by omega)
    exact ⟨y, cell_below hb hy⟩)
  have F := set4_far u' w.heap.size (j * 4) (.int .i64 t.kd) (.int .i64 t.k) (.slice (some ⟨gx, 0, none⟩) t.x.length t.x.length) (.slice (some ⟨gy, 0, none⟩) t.y.length t.y.length)
  have S := set4_soft u' w.heap.size (j * 4) (.int .i64 t.kd) (.int .i64 t.k) (.slice (some ⟨gx, 0, none⟩) t.x.length t.x.length) (.slice (some ⟨gy, 0, none⟩) t.y.length t.y.length)
  have U := set4_turn u' w.heap.size (j * 4) (.int .i64 t.kd) (.int .i64 t.k) (.slice (some ⟨gx, 0, none⟩) t.x.length t.x.length) (.slice (some ⟨gy, 0, none⟩) t.y.length t.y.length)
  have Z := set4_size u' w.heap.size (j * 4) (.int .i64 t.kd) (.int .i64 t.k) (.slice (some ⟨gx, 0, none⟩) t.x.length t.x.length) (.slice (some ⟨gy, 0, none⟩) t.y.length t.y.length)
  have BB : Below w.heap.size w (set4 u' w.heap.size (j * 4) (.int .i64 t.kd) (.int .i64 t.k) (.slice (some ⟨gx, 0, none⟩) t.x.length t.x.length) (.slice (some ⟨gy, 0, none⟩) t.y.length t.y.length)) := ((((h.below.trans (hb.mono h.below.size)).setCell (p := ⟨w.heap.size, j * 4, none⟩) (Nat.le_refl _) _).setCell (p := ⟨w.heap.size, j * 4 + 1, none⟩) (Nat.le_refl _) _).setCell (p := ⟨w.heap.size, j * 4 + 2, none⟩) (Nat.le_refl _) _).setCell (p := ⟨w.heap.size, j * 4 + 3, none⟩) (Nat.le_refl _) _
  generalize set4 u' w.heap.size (j * 4) (.int .i64 t.kd) (.int .i64 t.k) (.slice (some ⟨gx, 0, none⟩) t.x.length t.x.length) (.slice (some ⟨gy, 0, none⟩) t.y.length t.y.length) = V at *
  obtain ⟨l, m, hh, px, py, hd, hinc⟩ := h.done
  have far (i d : Nat) (hi : i ≠ j) (hd : d < 4) : V.cell? ⟨w.heap.size, i * 4 + d, none⟩ = u'.cell? ⟨w.heap.size, i * 4 + d, none⟩ := F _ (fun k hk => off_ne (by omega))
  refine ⟨BB, by rw [Z]; omega, ⟨fun i => if i < j then l i else u.heap.size, fun i => if i < j then m i else mid, fun i => if i < j then hh i else u'.heap.size, fun i => if i < j then px i else gx, fun i => if i < j then py i else gy, fun i z hi hz => ?_, fun i i' hi hi' => ?_⟩, fun i hi => ?_, fun i hi => ?_⟩
  · by_cases e : i < j
    · simp only [if_pos e]
      obtain ⟨⟨k1, k2, k3, k4⟩, k5, k6, k7, k8, k9, k10⟩ := hd i z e hz
      have b5 : WPoly u' (l i) (m i) (.slice (some ⟨px i, 0, none⟩) z.x.length z.x.length) z.x := k5.below hb
      have b6 : WPoly u' (m i) (hh i) (.slice (some ⟨py i, 0, none⟩) z.y.length z.y.length) z.y := k6.below hb
      refine ⟨⟨?_, ?_, ?_, ?_⟩, poly_turn b5 U (Or.inl k7), poly_turn b6 U (Or.inl (by omega)), k7, k8, k9, by rw [Z]; omega⟩
      · exact (far i 0 (by omega) (by omega)).trans (cell_below hb k1)
      · exact (far i 1 (by omega) (by omega)).trans (cell_below hb k2)
      · exact (far i 2 (by omega) (by omega)).trans (cell_below hb k3)
      · exact (far i 3 (by omega) (by omega)).trans (cell_below hb k4)
    · obtain rfl : i = j := by omega
      rw [ht] at hz
      obtain rfl := Option.some.inj hz
      simp only [if_neg e]
      exact ⟨N, poly_turn hx U (Or.inl hl), poly_turn hy U (Or.inl (by omega)), hl, m1, m2, by rw [Z]; exact Nat.le_refl _⟩
  · by_cases e' : i' < j
    · simp only [if_pos e', if_pos (show i < j by omega)]
      exact hinc i i' hi e'
    · have : i < j := by omega
      simp only [if_neg e', if_pos this]
      obtain ⟨z, hz⟩ : ∃ z, ts[i]? = some z := ⟨_, List.getElem?_eq_getElem (by have := (List.getElem?_eq_some_iff.1 ht).1; omega)⟩
      exact (hd i z (by omega) hz).2.2.2.2.2.2
  · by_cases q : j * 4 ≤ i ∧ i < j * 4 + 4
    · have : i = j * 4 ∨ i = j * 4 + 1 ∨ i = j * 4 + 2 ∨ i = j * 4 + 3 := by omega
      rcases this with rfl | rfl | rfl | rfl
      · exact ⟨_, N.1⟩
      · exact ⟨_, N.2.1⟩
      · exact ⟨_, N.2.2.1⟩
      · exact ⟨_, N.2.2.2⟩
    · rw [F _ (fun k hk => off_ne (by omega))]
      obtain ⟨y, hy⟩ := h.left i hi
      exact ⟨y, cell_below hb hy⟩
  · rw [S]
    have e := hb.block w.heap.size h.lt
    rw [World.frozen?_of_block (w := u) (a := ⟨w.heap.size, i, none⟩) e]
    exact h.soft i hi
/-- Atoms whose lists lie in blocks of their own, from block lo on, below hi. -/
structure WT (w : World) (lo hi : Nat) (a : Option Addr) (G cap : Nat) (l m h : Nat → Nat) (sx sy : Nat → Value) (ts : List At) : Prop where
  le : ts.length ≤ cap
  mx : cap ≤ maxLen
  nl : a = none → cap = 0
  at_ : ts = [] ∨ (a = some ⟨G, 0, none⟩ ∧ lo ≤ G ∧ G < hi ∧ G < w.heap.size)
  cells : ∀ (i : Nat) t, ts[i]? = some t → (w.cell? ⟨G, i * 4, none⟩ = some (.int .i64 t.kd) ∧ w.frozen? ⟨G, i * 4, none⟩ = false ∧ w.cell? ⟨G, i * 4 + 1, none⟩ = some (.int .i64 t.k) ∧ w.frozen? ⟨G, i * 4 + 1, none⟩ = false ∧ w.cell? ⟨G, i * 4 + 2, none⟩ = some (sx i) ∧ w.cell? ⟨G, i * 4 + 3, none⟩ = some (sy i)) ∧ WPoly w (l i) (m i) (sx i) t.x ∧ WPoly w (m i) (h i) (sy i) t.y ∧ lo ≤ l i ∧ l i ≤ m i ∧ m i ≤ h i ∧ h i ≤ hi ∧ (G < l i ∨ h i ≤ G)
  apart : ∀ i j : Nat, i < j → j < ts.length → h i ≤ l j
structure WTab (w : World) (lo hi : Nat) (v : Value) (ts : List At) : Prop where
  ex : ∃ (a : Option Addr) (G cap : Nat) (l m h : Nat → Nat) (sx sy : Nat → Value), v = .slice a ts.length cap ∧ WT w lo hi a G cap l m h sx sy ts
theorem WTab.read {w : World} {lo hi : Nat} {v : Value} {ts : List At} (h : WTab w lo hi v ts) : ∃ B, TRow w B v ts := by
  obtain ⟨a, G, cap, l, m, hh, sx, sy, h1, h⟩ := h
  refine ⟨G, a, cap, 0, h1, h.le, h.mx, h.nl, h.at_.imp id (fun q => ⟨q.1, fun i x hx => ?_⟩)⟩
  obtain ⟨⟨k1, -, k2, -, k3, k4⟩, k5, k6, _⟩ := h.cells i x hx
  rw [Nat.zero_add]
  obtain ⟨bx, rx⟩ := k5.read
  obtain ⟨b, ry⟩ := k6.read
  obtain ⟨qx, _, cx, _, _, e1, _⟩ := k5
  obtain ⟨qy, _, cy, _, _, e2, _⟩ := k6
  rw [e1] at k3 rx
  rw [e2] at k4 ry
  exact ⟨k1, k2, qx, cx, bx, qy, cy, b, k3, rx, k4, ry⟩
theorem FillT.whole {w u : World} {n : Nat} {ts : List At} (h : FillT w n ts n u) (hn : ts.length = n) (hm : n ≤ maxLen) : WTab u w.heap.size u.heap.size (.slice (some ⟨w.heap.size, 0, none⟩) n n) ts := by
  obtain ⟨l, m, hh, gx, gy, hd, hinc⟩ := h.done
  refine ⟨some ⟨w.heap.size, 0, none⟩, w.heap.size, n, l, m, hh, fun i => .slice (some ⟨gx i, 0, none⟩) (ts.getD i ⟨0, 0, [], []⟩).x.length (ts.getD i ⟨0, 0, [], []⟩).x.length, fun i => .slice (some ⟨gy i, 0, none⟩) (ts.getD i ⟨0, 0, [], []⟩).y.length (ts.getD i ⟨0, 0, [], []⟩).y.length, by rw [hn], by omega, hm, (fun h => by cases h), Or.inr ⟨rfl, Nat.le_refl _, h.lt, h.lt⟩, fun i x hx => ?_, fun i j hij hj => hinc i j hij (by omega)⟩
  have hi : i < n := by rw [← hn]; exact (List.getElem?_eq_some_iff.1 hx).1
  obtain ⟨⟨k1, k2, k3, k4⟩, k5, k6, k7, k8, k9, k10⟩ := hd i x hi hx
  have e : ts.getD i ⟨0, 0, [], []⟩ = x := by simp [List.getD, hx]
  simp only [e]
  exact ⟨⟨k1, h.soft _ (by omega), k2, h.soft _ (by omega), k3, k4⟩, k5, k6, by omega, k8, k9, k10, Or.inl k7⟩
theorem make_atoms (n : Nat) (hn : n ≤ 1048576) (w : World) : (Instr.makeSlice 22 (.int .i64 (n : Int)) (.int .i64 (n : Int))).run Try.prog w = .ok (.slice (some ⟨w.heap.size, 0, none⟩) n n) (w.alloc (.cells (madeCells #[.int .i64 0, .int .i64 0, .slice none 0 0, .slice none 0 0] (n * 4)) 37)) := by
  have hinfo : (Try.prog.info? 37).map (fun i => (i.zero, i.size, i.bytes)) = some (some (.agg #[.int .i64 0, .int .i64 0, .slice none 0 0, .slice none 0 0]), 4, 64) := by kernel_rfl
  obtain ⟨i, hi, hzz⟩ := Option.map_eq_some_iff.1 hinfo
  simp only [Prod.mk.injEq] at hzz
  obtain ⟨hz, hs, hb⟩ := hzz
  have hr := run_make (P := Try.prog) w 22 37 i _ Try.underlying22 hi hz .i64 .i64 n n (by omega) (Int.le_refl _) (by rw [hb]; omega) (by omega)
  simp only [Int.toNat_natCast, hs] at hr
  exact hr
end Go.Proofs.Ytnlfcocejkaieaa.Tab
