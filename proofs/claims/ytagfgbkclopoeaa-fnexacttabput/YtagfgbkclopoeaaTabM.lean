/-
  Atoms as data: slices that hold them; contracts of the laws' own szTabTab and eqTabTab.
-/
import Derived.Test.YtagfgbkclopoeaaPolK
namespace Go.Proofs.Ytagfgbkclopoeaa.Tab
set_option linter.unusedVariables false
open Go.ChangeShapes Go.WideShapes Go.ChangeAt Go.RowKit IntS Pol
/-- An atom: what it is, which one or how reckoned, and of which sums. -/
structure At where
  kd : Int
  k : Int
  x : List Mono
  y : List Mono
/-- The four cells of an atom at a place. -/
def AtAt (w : World) (B p : Nat) (t : At) : Prop := w.cell? ⟨B, p, none⟩ = some (.int .i64 t.kd) ∧ w.cell? ⟨B, p + 1, none⟩ = some (.int .i64 t.k) ∧ ∃ qx cx bx qy cy b, w.cell? ⟨B, p + 2, none⟩ = some (.slice qx t.x.length cx) ∧ PRow w bx (.slice qx t.x.length cx) t.x ∧ w.cell? ⟨B, p + 3, none⟩ = some (.slice qy t.y.length cy) ∧ PRow w b (.slice qy t.y.length cy) t.y
theorem AtAt.below {w w' : World} {B p : Nat} {t : At} (h : AtAt w B p t) (hb : Below w.heap.size w w') : AtAt w' B p t := by
  obtain ⟨h1, h2, qx, cx, bx, qy, cy, b, h3, h4, h5, h6⟩ := h
  exact ⟨cell_below hb h1, cell_below hb h2, qx, cx, bx, qy, cy, b, cell_below hb h3, h4.below hb, cell_below hb h5, h6.below hb⟩
/-- A slice that holds atoms. -/
structure TRow (w : World) (B : Nat) (v : Value) (ts : List At) : Prop where
  ex : ∃ a cap off, v = .slice a ts.length cap ∧ ts.length ≤ cap ∧ cap ≤ maxLen ∧ (a = none → cap = 0) ∧ (ts = [] ∨ (a = some ⟨B, off, none⟩ ∧ ∀ (i : Nat) t, ts[i]? = some t → AtAt w B (off + i * 4) t))
theorem TRow.below {w w' : World} {B : Nat} {v : Value} {ts : List At} (h : TRow w B v ts) (hb : Below w.heap.size w w') : TRow w' B v ts := by
  obtain ⟨a, cap, off, h1, h2, h3, hz, h4⟩ := h
  exact ⟨a, cap, off, h1, h2, h3, hz, h4.imp id fun ⟨e, q⟩ => ⟨e, fun i t ht => (q i t ht).below hb⟩⟩
def szA (t : At) : Nat := t.x.length + tot t.x + (t.y.length + tot t.y)
def totT : List At → Nat
  | [] => 0
  | t :: r => szA t + totT r
theorem totT_app : ∀ a b : List At, totT (a ++ b) = totT a + totT b
  | [], b => by simp [totT]
  | x :: a, b => by simp [totT, totT_app a b]; omega
theorem totT_next {ts : List At} {k : Nat} {t : At} (h : ts[k]? = some t) : totT (ts.take (k + 1)) = totT (ts.take k) + szA t := by
  rw [List.take_add_one, h, totT_app]
  simp [totT]
theorem totT_le {ts : List At} (k : Nat) : totT (ts.take k) ≤ totT ts := by
  have := totT_app (ts.take k) (ts.drop k)
  rw [List.take_append_drop] at this
  omega
theorem totT_at {ts : List At} {k : Nat} {t : At} (h : ts[k]? = some t) : szA t ≤ totT ts := by
  have := totT_next h
  have := totT_le (ts := ts) (k + 1)
  omega
def SmallT (ts : List At) : Prop := ts.length + totT ts ≤ 1048576
set_option maxHeartbeats 4000000 in
theorem szTabAtom (t : At) (qx : Option Addr) (cx : Nat) (qy : Option Addr) (cy bx b : Nat) (left : Int) (w : World) (hx : PRow w bx (.slice qx t.x.length cx) t.x) (hy : PRow w b (.slice qy t.y.length cy) t.y) (h0 : 0 ≤ left) (h1 : left ≤ 1048576) :
    Calls Try.prog 6 #[.agg #[.int .i64 t.kd, .int .i64 t.k, .slice qx t.x.length cx, .slice qy t.y.length cy], .int .i64 left] w fun e w' => ∃ r : Int, e = .returned (.int .i64 r) ∧ -1 ≤ r ∧ (0 ≤ r → r = left - szA t) ∧ Below w.heap.size w w' := by
  have bV : Below w.heap.size w (w.alloc (.cells #[.int .i64 t.kd, .int .i64 t.k, .slice qx t.x.length cx, .slice qy t.y.length cy] 29)) := (Below.refl _ _).alloc (Nat.le_refl _) _
  have R := hide (Rec.new w [.int .i64 t.kd, .int .i64 t.k, .slice qx t.x.length cx, .slice qy t.y.length cy] 29)
  have HX := hide (hx.below bV)
  have HY := hide (hy.below bV)
  have BW := hide bV
  clear bV hx hy
  go_enter Try.func6, Try.ntmps6
  go_wp2_with fail
  refine (szTrmPoly t.x bx _ left _ HX.out h0 h1).mono ?_
  rintro e u ⟨r, rfl, r0, hr, hb⟩
  have HR := hide hr
  replace R := hide (R.out.below hb)
  replace HY := hide (HY.out.below hb)
  replace BW := hide (BW.out.trans (hb.mono BW.out.size))
  clear hr hb
  by_cases hs : r < 0
  · go_wp2
    go_ret
    exact ⟨-1, rfl, by omega, fun h => by omega, BW.out⟩
  have r1 : r ≤ 1048576 := by have := HR.out (by omega); omega
  have c3 := R.out.cell 3 _ rfl
  go_wp2_with fail
  refine (szTrmPoly t.y b _ r _ HY.out (by omega) r1).mono ?_
  rintro e u2 ⟨r', rfl, r0', hr', hb⟩
  have HR' := hide hr'
  replace BW := hide (BW.out.trans (hb.mono BW.out.size))
  clear hr' hb c3
  by_cases hs' : r' < 0
  · go_wp2
    go_ret
    exact ⟨-1, rfl, by omega, fun h => by omega, BW.out⟩
  · go_wp2
    go_ret
    exact ⟨r', rfl, by omega, fun h => by have := HR.out (by omega); have := HR'.out h; unfold szA; omega, BW.out⟩
set_option maxRecDepth 8000 in
set_option maxHeartbeats 4000000 in
theorem szTabAtomS (ts : List At) (B : Nat) (v : Value) (left : Int) (w : World) (h : TRow w B v ts) (h0 : 0 ≤ left) (h1 : left ≤ 1048576) :
    Calls Try.prog 22 #[v, .int .i64 left] w fun e w' => ∃ r : Int, e = .returned (.int .i64 r) ∧ -1 ≤ r ∧ (0 ≤ r → r = left - ts.length - totT ts) ∧ Below w.heap.size w w' := by
  obtain ⟨a, cap, off, rfl, h2, h3, hz, h4⟩ := h
  unfold maxLen at h3
  clear hz
  by_cases e1 : left < ts.length
  · have e2 : left - (ts.length : Int) < 0 := by omega
    clear h4 e1
    go_enter Try.func22, Try.ntmps22
    go_wp2
    go_ret
    exact ⟨-1, rfl, by omega, fun h => by omega, Below.refl _ _⟩
  have e2 : ¬ left - (ts.length : Int) < 0 := by omega
  obtain ⟨n, en⟩ : ∃ n, ts.length = n := ⟨_, rfl⟩
  have EN := hide en
  rw [en] at h2 e1 e2 ⊢
  have H4 := hide h4
  clear en h4
  go_enter Try.func22, Try.ntmps22
  go_wp2
  go_loopw [1, 5] (fun l i wr => ∃ (k : Nat) (r : Int), k ≤ n ∧ i = .int .i64 k ∧ l = .int .i64 r ∧ 0 ≤ r ∧ r ≤ 1048576 ∧ Hid (r = left - n - totT (ts.take k)) ∧ Hid (Below w.heap.size w wr)) (fun _ i _ => n - (intOf i).toNat)
  case atStart => exact ⟨0, left - n, by omega, rfl, rfl, by omega, by omega, by show _ = _; simp [totT], Below.refl _ _⟩
  case round =>
    obtain ⟨k, r, hk, rfl, rfl, r0, r1, HR, HB⟩ := hrel
    by_cases hlt : k < n
    · obtain ⟨t, et⟩ : ∃ t, ts[k]? = some t := ⟨_, List.getElem?_eq_getElem (by rw [EN.out]; exact hlt)⟩
      obtain ⟨rfl, hc⟩ := H4.out.resolve_left (fun e => by rw [e] at et; simp at et)
      obtain ⟨c0, c1, qx, cx, bx, qy, cy, b, c2, px, c3, py⟩ := (hc k t et).below HB.out
      have TN := hide (totT_next et)
      have PX := hide px
      have PY := hide py
      have lk : ((k : Nat) : Int) < (n : Nat) := by omega
      clear et hc px py
      go_wp2_with fail
      refine (szTabAtom t qx cx qy cy bx b r _ PX.out PY.out r0 r1).mono ?_
      rintro e u ⟨r', rfl, q0, hr, hb⟩
      have HR2 := hide hr
      have HB2 := hide (HB.out.trans (hb.mono HB.out.size))
      clear hb hr c0 c1 c2 c3
      by_cases hs : r' < 0
      · go_wp2
        go_ret
        exact ⟨-1, rfl, by omega, fun h => by omega, HB2.out⟩
      · have HR3 : Hid (r' = left - n - totT (ts.take (k + 1))) := show _ = _ by have := HR.out; have := TN.out; have := HR2.out (by omega); omega
        have rl : r' ≤ 1048576 := by have := HR2.out (by omega); omega
        go_wp2
        exact ⟨⟨k + 1, r', by omega, by go_num, rfl, by omega, rl, HR3, HB2⟩, by simp [intOf]; omega⟩
    · have HD : Hid (r = left - n - totT ts) := show _ = _ by
        have := HR.out
        rw [List.take_of_length_le (by rw [EN.out]; omega)] at this
        exact this
      go_wp2
      go_ret
      exact ⟨r, rfl, by omega, fun _ => HD.out, HB.out⟩
theorem szTabTab (ts : List At) (B : Nat) (v : Value) (left : Int) (w : World) (h : TRow w B v ts) (h0 : 0 ≤ left) (h1 : left ≤ 1048576) :
    Calls Try.prog 5 #[.agg #[v], .int .i64 left] w fun e w' => ∃ r : Int, e = .returned (.int .i64 r) ∧ -1 ≤ r ∧ (0 ≤ r → r = left - ts.length - totT ts) ∧ Below w.heap.size w w' := by
  have bV : Below w.heap.size w (w.alloc (.cells #[v] 24)) := (Below.refl _ _).alloc (Nat.le_refl _) _
  have H := hide (h.below bV)
  have BW := hide bV
  obtain ⟨a, cap, off, rfl, _⟩ := h
  clear bV
  go_enter Try.func5, Try.ntmps5
  go_wp2_with fail
  refine (szTabAtomS ts B _ left _ H.out h0 h1).mono ?_
  rintro e u ⟨r, rfl, r0, hr, hb⟩
  have HR := hide hr
  replace BW := hide (BW.out.trans (hb.mono BW.out.size))
  clear hr hb
  by_cases hs : r < 0
  · go_wp2
    go_ret
    exact ⟨-1, rfl, by omega, fun h => by omega, BW.out⟩
  · go_wp2
    go_ret
    exact ⟨r, rfl, by omega, HR.out, BW.out⟩
set_option maxHeartbeats 4000000 in
theorem eqTabAtom (t : At) (qx qx' : Option Addr) (cx cx' : Nat) (qy qy' : Option Addr) (cy cy' bx bx' b b' : Nat) (w : World) (hx : PRow w bx (.slice qx t.x.length cx) t.x) (hy : PRow w b (.slice qy t.y.length cy) t.y) (hx' : PRow w bx' (.slice qx' t.x.length cx') t.x) (hy' : PRow w b' (.slice qy' t.y.length cy') t.y) :
    Calls Try.prog 12 #[.agg #[.int .i64 t.kd, .int .i64 t.k, .slice qx t.x.length cx, .slice qy t.y.length cy], .agg #[.int .i64 t.kd, .int .i64 t.k, .slice qx' t.x.length cx', .slice qy' t.y.length cy']] w fun e w' => e = .returned (.bool true) ∧ Below w.heap.size w w' := by
  have bV : Below w.heap.size w ((w.alloc (.cells #[.int .i64 t.kd, .int .i64 t.k, .slice qx t.x.length cx, .slice qy t.y.length cy] 42)).alloc (.cells #[.int .i64 t.kd, .int .i64 t.k, .slice qx' t.x.length cx', .slice qy' t.y.length cy'] 42)) := ((Below.refl _ _).alloc (Nat.le_refl _) _).alloc (by simp) _
  have R := hide ((Rec.new w [.int .i64 t.kd, .int .i64 t.k, .slice qx t.x.length cx, .slice qy t.y.length cy] 42).alloc (.cells #[.int .i64 t.kd, .int .i64 t.k, .slice qx' t.x.length cx', .slice qy' t.y.length cy'] 42))
  have R' := Rec.new (w.alloc (.cells #[.int .i64 t.kd, .int .i64 t.k, .slice qx t.x.length cx, .slice qy t.y.length cy] 42)) [.int .i64 t.kd, .int .i64 t.k, .slice qx' t.x.length cx', .slice qy' t.y.length cy'] 42
  rw [show (w.alloc (.cells #[.int .i64 t.kd, .int .i64 t.k, .slice qx t.x.length cx, .slice qy t.y.length cy] 42)).heap.size = w.heap.size + 1 by simp] at R'
  replace R' := hide R'
  have HX := hide (hx.below bV)
  have HY := hide (hy.below bV)
  have HX' := hide (hx'.below bV)
  have HY' := hide (hy'.below bV)
  have BW := hide bV
  have n1 : (t.kd != t.kd) = false := by simp
  have n2 : (t.k != t.k) = false := by simp
  clear bV hx hy hx' hy'
  go_enter Try.func12, Try.ntmps12
  go_wp2_with fail
  refine (eqTrmPoly t.x bx bx' _ _ _ HX.out HX'.out).mono ?_
  rintro e u ⟨rfl, hb⟩
  replace R := hide (R.out.below hb)
  replace R' := hide (R'.out.below hb)
  replace HY := hide (HY.out.below hb)
  replace HY' := hide (HY'.out.below hb)
  replace BW := hide (BW.out.trans (hb.mono BW.out.size))
  clear hb
  have c3 := R.out.cell 3 _ rfl
  have c3' := R'.out.cell 3 _ rfl
  go_wp2_with fail
  refine (eqTrmPoly t.y b b' _ _ _ HY.out HY'.out).mono ?_
  rintro e u2 ⟨rfl, hb⟩
  replace BW := hide (BW.out.trans (hb.mono BW.out.size))
  clear hb c3 c3'
  go_wp2
  go_ret
  exact ⟨rfl, BW.out⟩
end Go.Proofs.Ytagfgbkclopoeaa.Tab
