/-
  Which atoms are ok, and the specification's TabOk.
-/
import Derived.Test.YtagfgbkclopoeaaTabE
import Derived.Test.YtagfgbkclopoeaaPolL
import Derived.Test.YtagfgbkclopoeaaPolO
namespace Go.Proofs.Ytagfgbkclopoeaa.Tab
set_option linter.unusedVariables false
open Go.ChangeShapes Go.WideShapes Go.ChangeAt Go.RowKit IntS Pol
def bareB (t : At) : Bool := decide (t.x.length = 0) && decide (t.y.length = 0)
/-- Whether an atom is ok behind so many. -/
def atomB (t : At) (n : Int) : Bool := if t.kd = 1 then inI t.k 0 3 && bareB t else if t.kd = 2 ∨ t.kd = 3 then inI t.k 0 199 && bareB t else if t.kd = 4 then inI t.k 1 5 && okP t.x && okP t.y && underB t.x n && underB t.y n else false
theorem atom_reg {t : At} {n : Int} (h : t.kd = 1) : atomB t n = (inI t.k 0 3 && bareB t) := if_pos h
theorem atom_in {t : At} {n : Int} (h : t.kd = 2 ∨ t.kd = 3) : atomB t n = (inI t.k 0 199 && bareB t) := by unfold atomB; rw [if_neg (by omega), if_pos h]
theorem atom_do {t : At} {n : Int} (h : t.kd = 4) : atomB t n = (inI t.k 1 5 && okP t.x && okP t.y && underB t.x n && underB t.y n) := by unfold atomB; rw [if_neg (by omega), if_neg (by omega), if_pos h]
theorem atom_no {t : At} {n : Int} (h1 : t.kd ≠ 1) (h2 : t.kd ≠ 2) (h3 : t.kd ≠ 3) (h4 : t.kd ≠ 4) : atomB t n = false := by unfold atomB; rw [if_neg h1, if_neg (by omega), if_neg h4]
def sameB (s t : At) : Bool := decide (s.kd = t.kd) && decide (s.k = t.k) && decide (ordP s.x t.x = 0) && decide (ordP s.y t.y = 0)
set_option maxHeartbeats 4000000 in
theorem l5Bare (t : At) (qx : Option Addr) (cx : Nat) (qy : Option Addr) (cy : Nat) (w : World) (hx : t.x.length ≤ maxLen) (hy : t.y.length ≤ maxLen) :
    Calls Try.prog 74 #[.agg #[.int .i64 t.kd, .int .i64 t.k, .slice qx t.x.length cx, .slice qy t.y.length cy]] w fun e w' => e = .returned (.bool (bareB t)) ∧ Below w.heap.size w w' := by
  have BW : Hid (Below w.heap.size w (w.alloc (.cells #[.int .i64 t.kd, .int .i64 t.k, .slice qx t.x.length cx, .slice qy t.y.length cy] 42))) := (Below.refl _ _).alloc (Nat.le_refl _) _
  unfold maxLen at hx hy
  by_cases h0 : t.x.length = 0
  · by_cases h1 : t.y.length = 0
    · have HD : Hid (bareB t = true) := show _ = _ by unfold bareB; rw [decide_eq_true h0, decide_eq_true h1]; rfl
      rw [h0, h1] at BW ⊢
      go_enter Try.func74, Try.ntmps74
      go_wp2
      go_ret
      exact ⟨ret_bool HD.out.symm, BW.out⟩
    · have HD : Hid (bareB t = false) := show _ = _ by unfold bareB; rw [decide_eq_true h0, decide_eq_false h1]; rfl
      rw [h0] at BW ⊢
      generalize t.y.length = m at hy h1 BW ⊢
      have h2 : ((m : Int) == 0) = false := by simp; omega
      go_enter Try.func74, Try.ntmps74
      go_wp2
      go_ret
      exact ⟨ret_bool HD.out.symm, BW.out⟩
  · have HD : Hid (bareB t = false) := show _ = _ by unfold bareB; rw [decide_eq_false h0]; rfl
    generalize t.x.length = m at hx h0 BW ⊢
    have h2 : ((m : Int) == 0) = false := by simp; omega
    go_enter Try.func74, Try.ntmps74
    go_wp2
    go_ret
    exact ⟨ret_bool HD.out.symm, BW.out⟩
theorem prow_max {w : World} {B : Nat} {q : Option Addr} {c : Nat} {ps : List Mono} {n : Nat} (h : PRow w B (.slice q n c) ps) : ps.length ≤ maxLen := by
  obtain ⟨a, cap, off, h1, h2, h3, _⟩ := h
  omega
set_option maxRecDepth 8000 in
set_option maxHeartbeats 8000000 in
theorem l5Atom (t : At) (n : Int) (qx : Option Addr) (cx : Nat) (qy : Option Addr) (cy bx b : Nat) (w : World) (hx : PRow w bx (.slice qx t.x.length cx) t.x) (hy : PRow w b (.slice qy t.y.length cy) t.y) :
    Calls Try.prog 49 #[.agg #[.int .i64 t.kd, .int .i64 t.k, .slice qx t.x.length cx, .slice qy t.y.length cy], .int .i64 n] w fun e w' => e = .returned (.bool (atomB t n)) ∧ Below w.heap.size w w' := by
  have bV : Below w.heap.size w (w.alloc (.cells #[.int .i64 t.kd, .int .i64 t.k, .slice qx t.x.length cx, .slice qy t.y.length cy] 42)) := (Below.refl _ _).alloc (Nat.le_refl _) _
  have R := hide (Rec.new w [.int .i64 t.kd, .int .i64 t.k, .slice qx t.x.length cx, .slice qy t.y.length cy] 42)
  have MX := hide (prow_max hx)
  have MY := hide (prow_max hy)
  have HX := hide (hx.below bV)
  have HY := hide (hy.below bV)
  have BW := hide bV
  clear bV hx hy
  by_cases e1 : t.kd = 1
  · have AT := hide (atom_reg (n := n) e1)
    rw [e1] at R BW HX HY ⊢
    go_enter Try.func49, Try.ntmps49
    go_wp2_with fail
    refine (l1In t.k 0 3 _).mono ?_
    rintro e u ⟨rfl, rfl⟩
    cases ei : inI t.k 0 3 with
    | false =>
      have HD : Hid (atomB t n = false) := AT.out.trans (by rw [ei]; rfl)
      clear ei AT
      go_wp2
      go_ret
      exact ⟨ret_bool HD.out.symm, BW.out⟩
    | true =>
      have HD : Hid (atomB t n = bareB t) := AT.out.trans (by rw [ei]; rfl)
      clear ei AT
      go_wp2_with fail
      have C := fun u => l5Bare t qx cx qy cy u MX.out MY.out
      simp only [e1] at C
      refine (C _).mono ?_
      rintro e u ⟨rfl, hb⟩
      replace BW := hide (BW.out.trans (hb.mono BW.out.size))
      clear hb C
      cases eb : bareB t <;> (
        go_wp2
        go_ret
        exact ⟨ret_bool (by rw [HD.out, eb]), BW.out⟩)
  by_cases e2 : t.kd = 2 ∨ t.kd = 3
  · have AT := hide (atom_in (n := n) e2)
    clear e1
    rcases e2 with e2 | e2 <;> (
      rw [e2] at R BW HX HY ⊢
      go_enter Try.func49, Try.ntmps49
      go_wp2_with fail
      refine (l1In t.k 0 199 _).mono ?_
      rintro e u ⟨rfl, rfl⟩
      cases ei : inI t.k 0 199 with
      | false =>
        have HD : Hid (atomB t n = false) := AT.out.trans (by rw [ei]; rfl)
        clear ei AT
        go_wp2
        go_ret
        exact ⟨ret_bool HD.out.symm, BW.out⟩
      | true =>
        have HD : Hid (atomB t n = bareB t) := AT.out.trans (by rw [ei]; rfl)
        clear ei AT
        go_wp2_with fail
        have C := fun u => l5Bare t qx cx qy cy u MX.out MY.out
        simp only [e2] at C
        refine (C _).mono ?_
        rintro e u ⟨rfl, hb⟩
        replace BW := hide (BW.out.trans (hb.mono BW.out.size))
        clear hb C
        cases eb : bareB t <;> (
          go_wp2
          go_ret
          exact ⟨ret_bool (by rw [HD.out, eb]), BW.out⟩))
  by_cases e4 : t.kd = 4
  · have AT := hide (atom_do (n := n) e4)
    clear e1 e2
    rw [e4] at R BW HX HY ⊢
    go_enter Try.func49, Try.ntmps49
    go_wp2_with fail
    refine (l1In t.k 1 5 _).mono ?_
    rintro e u ⟨rfl, rfl⟩
    cases ei : inI t.k 1 5 with
    | false =>
      have HD : Hid (atomB t n = false) := AT.out.trans (by rw [ei]; rfl)
      clear ei AT
      go_wp2
      go_ret
      exact ⟨ret_bool HD.out.symm, BW.out⟩
    | true =>
      replace AT : Hid (atomB t n = (okP t.x && okP t.y && underB t.x n && underB t.y n)) := AT.out.trans (by rw [ei]; rfl)
      clear ei
      go_wp2_with fail
      refine (specOk t.x bx _ _ HX.out).mono ?_
      rintro e u ⟨rfl, hb⟩
      replace R := hide (R.out.below hb)
      replace HX := hide (HX.out.below hb)
      replace HY := hide (HY.out.below hb)
      replace BW := hide (BW.out.trans (hb.mono BW.out.size))
      clear hb
      cases ei : okP t.x with
      | false =>
        have HD : Hid (atomB t n = false) := AT.out.trans (by rw [ei]; rfl)
        clear ei AT
        go_wp2
        go_ret
        exact ⟨ret_bool HD.out.symm, BW.out⟩
      | true =>
        replace AT : Hid (atomB t n = (okP t.y && underB t.x n && underB t.y n)) := AT.out.trans (by rw [ei]; rfl)
        clear ei
        have c3 := R.out.cell 3 _ rfl
        go_wp2_with fail
        refine (specOk t.y b _ _ HY.out).mono ?_
        rintro e u2 ⟨rfl, hb⟩
        replace R := hide (R.out.below hb)
        replace HX := hide (HX.out.below hb)
        replace HY := hide (HY.out.below hb)
        replace BW := hide (BW.out.trans (hb.mono BW.out.size))
        clear hb c3
        cases ei : okP t.y with
        | false =>
          have HD : Hid (atomB t n = false) := AT.out.trans (by rw [ei]; rfl)
          clear ei AT
          go_wp2
          go_ret
          exact ⟨ret_bool HD.out.symm, BW.out⟩
        | true =>
          replace AT : Hid (atomB t n = (underB t.x n && underB t.y n)) := AT.out.trans (by rw [ei]; rfl)
          clear ei
          have c2 := R.out.cell 2 _ rfl
          go_wp2_with fail
          refine (specUnder t.x n bx _ _ HX.out).mono ?_
          rintro e u3 ⟨rfl, hb⟩
          replace R := hide (R.out.below hb)
          replace HY := hide (HY.out.below hb)
          replace BW := hide (BW.out.trans (hb.mono BW.out.size))
          clear hb c2
          cases ei : underB t.x n with
          | false =>
            have HD : Hid (atomB t n = false) := AT.out.trans (by rw [ei]; rfl)
            clear ei AT
            go_wp2
            go_ret
            exact ⟨ret_bool HD.out.symm, BW.out⟩
          | true =>
            replace AT : Hid (atomB t n = underB t.y n) := AT.out.trans (by rw [ei]; rfl)
            clear ei
            have c3 := R.out.cell 3 _ rfl
            go_wp2_with fail
            refine (specUnder t.y n b _ _ HY.out).mono ?_
            rintro e u4 ⟨rfl, hb⟩
            replace BW := hide (BW.out.trans (hb.mono BW.out.size))
            clear hb c3
            cases ei : underB t.y n <;> (
              go_wp2
              go_ret
              exact ⟨ret_bool (by rw [AT.out, ei]), BW.out⟩)
  have HD := hide (atom_no (n := n) e1 (fun h => e2 (Or.inl h)) (fun h => e2 (Or.inr h)) e4)
  have n1 : (t.kd == 1) = false := by simpa using e1
  have n2 : (t.kd == 2) = false := by simp; omega
  have n3 : (t.kd == 3) = false := by simp; omega
  have n4 : (t.kd == 4) = false := by simpa using e4
  clear R HX HY
  go_enter Try.func49, Try.ntmps49
  go_wp2
  go_ret
  exact ⟨ret_bool HD.out.symm, BW.out⟩
set_option maxRecDepth 8000 in
set_option maxHeartbeats 8000000 in
theorem l5Same (s t : At) (qx qx' : Option Addr) (cx cx' : Nat) (qy qy' : Option Addr) (cy cy' bx bx' b b' : Nat) (w : World) (hx : PRow w bx (.slice qx s.x.length cx) s.x) (hy : PRow w b (.slice qy s.y.length cy) s.y) (hx' : PRow w bx' (.slice qx' t.x.length cx') t.x) (hy' : PRow w b' (.slice qy' t.y.length cy') t.y) :
    Calls Try.prog 50 #[.agg #[.int .i64 s.kd, .int .i64 s.k, .slice qx s.x.length cx, .slice qy s.y.length cy], .agg #[.int .i64 t.kd, .int .i64 t.k, .slice qx' t.x.length cx', .slice qy' t.y.length cy']] w fun e w' => e = .returned (.bool (sameB s t)) ∧ Below w.heap.size w w' := by
  have bV : Below w.heap.size w ((w.alloc (.cells #[.int .i64 s.kd, .int .i64 s.k, .slice qx s.x.length cx, .slice qy s.y.length cy] 42)).alloc (.cells #[.int .i64 t.kd, .int .i64 t.k, .slice qx' t.x.length cx', .slice qy' t.y.length cy'] 42)) := ((Below.refl _ _).alloc (Nat.le_refl _) _).alloc (by simp) _
  have R := hide ((Rec.new w [.int .i64 s.kd, .int .i64 s.k, .slice qx s.x.length cx, .slice qy s.y.length cy] 42).alloc (.cells #[.int .i64 t.kd, .int .i64 t.k, .slice qx' t.x.length cx', .slice qy' t.y.length cy'] 42))
  have R' := Rec.new (w.alloc (.cells #[.int .i64 s.kd, .int .i64 s.k, .slice qx s.x.length cx, .slice qy s.y.length cy] 42)) [.int .i64 t.kd, .int .i64 t.k, .slice qx' t.x.length cx', .slice qy' t.y.length cy'] 42
  rw [show (w.alloc (.cells #[.int .i64 s.kd, .int .i64 s.k, .slice qx s.x.length cx, .slice qy s.y.length cy] 42)).heap.size = w.heap.size + 1 by simp] at R'
  replace R' := hide R'
  have HX := hide (hx.below bV)
  have HY := hide (hy.below bV)
  have HX' := hide (hx'.below bV)
  have HY' := hide (hy'.below bV)
  have BW := hide bV
  clear bV hx hy hx' hy'
  have AT : Hid (sameB s t = (decide (s.kd = t.kd) && decide (s.k = t.k) && decide (ordP s.x t.x = 0) && decide (ordP s.y t.y = 0))) := rfl
  by_cases e1 : s.kd = t.kd
  · have m1 : (s.kd == t.kd) = true := by simpa using e1
    by_cases e2 : s.k = t.k
    · have m2 : (s.k == t.k) = true := by simpa using e2
      replace AT : Hid (sameB s t = (decide (ordP s.x t.x = 0) && decide (ordP s.y t.y = 0))) := AT.out.trans (by rw [decide_eq_true e1, decide_eq_true e2]; rfl)
      clear e1 e2
      go_enter Try.func50, Try.ntmps50
      go_wp2_with fail
      refine (specOrder s.x t.x bx bx' _ _ _ HX.out HX'.out).mono ?_
      rintro e u ⟨rfl, hb⟩
      replace R := hide (R.out.below hb)
      replace R' := hide (R'.out.below hb)
      replace HY := hide (HY.out.below hb)
      replace HY' := hide (HY'.out.below hb)
      replace BW := hide (BW.out.trans (hb.mono BW.out.size))
      clear hb HX HX'
      generalize ordP s.x t.x = o at AT ⊢
      by_cases e3 : o = 0
      · replace AT : Hid (sameB s t = decide (ordP s.y t.y = 0)) := AT.out.trans (by rw [decide_eq_true e3]; rfl)
        subst e3
        have c3 := R.out.cell 3 _ rfl
        have c3' := R'.out.cell 3 _ rfl
        go_wp2_with fail
        refine (specOrder s.y t.y b b' _ _ _ HY.out HY'.out).mono ?_
        rintro e u2 ⟨rfl, hb⟩
        replace BW := hide (BW.out.trans (hb.mono BW.out.size))
        clear hb c3 c3'
        generalize ordP s.y t.y = o at AT ⊢
        by_cases e4 : o = 0
        · replace AT : Hid (sameB s t = true) := AT.out.trans (decide_eq_true e4)
          subst e4
          go_wp2
          go_ret
          exact ⟨ret_bool AT.out.symm, BW.out⟩
        · replace AT : Hid (sameB s t = false) := AT.out.trans (decide_eq_false e4)
          have m4 : (o == 0) = false := by simpa using e4
          go_wp2
          go_ret
          exact ⟨ret_bool AT.out.symm, BW.out⟩
      · replace AT : Hid (sameB s t = false) := AT.out.trans (by rw [decide_eq_false e3]; rfl)
        have m3 : (o == 0) = false := by simpa using e3
        go_wp2
        go_ret
        exact ⟨ret_bool AT.out.symm, BW.out⟩
    · have m2 : (s.k == t.k) = false := by simpa using e2
      replace AT : Hid (sameB s t = false) := AT.out.trans (by rw [decide_eq_false e2]; simp)
      clear e1
      go_enter Try.func50, Try.ntmps50
      go_wp2
      go_ret
      exact ⟨ret_bool AT.out.symm, BW.out⟩
  · have m1 : (s.kd == t.kd) = false := by simpa using e1
    replace AT : Hid (sameB s t = false) := AT.out.trans (by rw [decide_eq_false e1]; rfl)
    go_enter Try.func50, Try.ntmps50
    go_wp2
    go_ret
    exact ⟨ret_bool AT.out.symm, BW.out⟩
end Go.Proofs.Ytagfgbkclopoeaa.Tab
