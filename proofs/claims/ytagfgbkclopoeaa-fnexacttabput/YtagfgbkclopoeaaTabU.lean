/-
  The program's isRegister, isOp, madeOf, atomOk.
-/
import Derived.Test.YtagfgbkclopoeaaTabS
namespace Go.Proofs.Ytagfgbkclopoeaa.Tab
set_option linter.unusedVariables false
open Go.ChangeShapes Go.WideShapes Go.ChangeAt Go.RowKit IntS Pol
theorem in_t {n lo hi : Int} (h0 : lo ≤ n) (h1 : n ≤ hi) : inI n lo hi = true := decide_eq_true ⟨h0, h1⟩
theorem in_f {n lo hi : Int} (h : ¬ (lo ≤ n ∧ n ≤ hi)) : inI n lo hi = false := decide_eq_false h
theorem isRegister (k : Int) (w : World) : Calls Try.prog 53 #[.int .i64 k] w fun e w' => e = .returned (.bool (inI k 0 3)) ∧ w' = w := by
  by_cases h0 : 0 ≤ k
  · by_cases h1 : k < 4
    · have HD : Hid (inI k 0 3 = true) := in_t h0 (by omega)
      go_enter Try.func53, Try.ntmps53
      go_wp2
      go_ret
      exact ⟨ret_bool HD.out.symm, rfl⟩
    · have HD : Hid (inI k 0 3 = false) := in_f (by omega)
      go_enter Try.func53, Try.ntmps53
      go_wp2
      go_ret
      exact ⟨ret_bool HD.out.symm, rfl⟩
  · have HD : Hid (inI k 0 3 = false) := in_f (by omega)
    go_enter Try.func53, Try.ntmps53
    go_wp2
    go_ret
    exact ⟨ret_bool HD.out.symm, rfl⟩
theorem isOp (k : Int) (w : World) : Calls Try.prog 54 #[.int .i64 k] w fun e w' => e = .returned (.bool (inI k 1 5)) ∧ w' = w := by
  by_cases h0 : 1 ≤ k
  · by_cases h1 : k ≤ 5
    · have HD : Hid (inI k 1 5 = true) := in_t h0 h1
      go_enter Try.func54, Try.ntmps54
      go_wp2
      go_ret
      exact ⟨ret_bool HD.out.symm, rfl⟩
    · have HD : Hid (inI k 1 5 = false) := in_f (by omega)
      go_enter Try.func54, Try.ntmps54
      go_wp2
      go_ret
      exact ⟨ret_bool HD.out.symm, rfl⟩
  · have HD : Hid (inI k 1 5 = false) := in_f (by omega)
    go_enter Try.func54, Try.ntmps54
    go_wp2
    go_ret
    exact ⟨ret_bool HD.out.symm, rfl⟩
theorem madeOf (ps : List Mono) (n : Int) (B : Nat) (v : Value) (w : World) (h : PRow w B v ps) :
    Calls Try.prog 55 #[.agg #[v], .int .i64 n] w fun e w' => e = .returned (.bool (okP ps && underB ps n)) ∧ Below w.heap.size w w' := by
  have bV : Below w.heap.size w (w.alloc (.cells #[v] 40)) := (Below.refl _ _).alloc (Nat.le_refl _) _
  have z0 : (w.alloc (.cells #[v] 40)).cell? ⟨w.heap.size, 0, none⟩ = some v := by rw [World.cell?_alloc_new]; rfl
  have H := hide (h.below bV)
  have BW := hide bV
  obtain ⟨a, cap, off, rfl, _⟩ := h
  clear bV
  go_enter Try.func55, Try.ntmps55
  go_wp2_with fail
  generalize w.alloc (.cells #[.slice a ps.length cap] 40) = V at z0 H BW ⊢
  go_wp2_with fail
  refine (implOk ps B _ _ H.out).mono ?_
  rintro e u ⟨rfl, hb⟩
  have y0 := cell_below hb z0
  have H2 := hide (H.out.below hb)
  replace BW := hide (BW.out.trans (hb.mono BW.out.size))
  clear hb z0 H
  cases ok : okP ps with
  | false =>
    go_wp2
    go_ret
    exact ⟨ret_bool (by rw [ok]; rfl), BW.out⟩
  | true =>
    have OK := hide ok
    clear ok
    go_wp2_with fail
    refine (implUnder ps n B _ _ H2.out).mono ?_
    rintro e u2 ⟨rfl, hb⟩
    replace BW := hide (BW.out.trans (hb.mono BW.out.size))
    clear hb y0
    cases ei : underB ps n <;> (
      go_wp2
      go_ret
      exact ⟨ret_bool (by rw [OK.out, ei]; rfl), BW.out⟩)
set_option maxRecDepth 8000 in
set_option maxHeartbeats 8000000 in
theorem atomOk (t : At) (n : Int) (qx : Option Addr) (cx : Nat) (qy : Option Addr) (cy bx b : Nat) (w : World) (hx : PRow w bx (.slice qx t.x.length cx) t.x) (hy : PRow w b (.slice qy t.y.length cy) t.y) :
    Calls Try.prog 31 #[.agg #[.int .i64 t.kd, .int .i64 t.k, .slice qx t.x.length cx, .slice qy t.y.length cy], .int .i64 n] w fun e w' => e = .returned (.bool (atomB t n)) ∧ Below w.heap.size w w' := by
  have bV : Below w.heap.size w (w.alloc (.cells #[.int .i64 t.kd, .int .i64 t.k, .slice qx t.x.length cx, .slice qy t.y.length cy] 42)) := (Below.refl _ _).alloc (Nat.le_refl _) _
  have R := hide (Rec.new w [.int .i64 t.kd, .int .i64 t.k, .slice qx t.x.length cx, .slice qy t.y.length cy] 42)
  have MX := prow_max hx
  have MY := prow_max hy
  have HX := hide (hx.below bV)
  have HY := hide (hy.below bV)
  have BW := hide bV
  unfold maxLen at MX MY
  clear bV hx hy
  -- generated
  obtain ⟨nx, enx⟩ : ∃ m, t.x.length = m := ⟨_, rfl⟩
  obtain ⟨ny, eny⟩ : ∃ m, t.y.length = m := ⟨_, rfl⟩
  have BD : Hid (bareB t = (decide (nx = 0) && decide (ny = 0))) := show _ = _ by unfold bareB; rw [enx, eny]
  rw [enx, eny] at R HX HY BW ⊢
  rw [enx] at MX
  rw [eny] at MY
  clear enx eny
  by_cases x0 : nx = 0
  · subst x0
    by_cases y0 : ny = 0
    · subst y0
      replace BD : Hid (bareB t = true) := BD.out
      by_cases e1 : t.kd = 1
      · have AT := hide (atom_reg (n := n) e1)
        rw [e1] at R BW HX HY ⊢
        go_enter Try.func31, Try.ntmps31
        go_wp2_with fail
        refine (isRegister t.k _).mono ?_
        rintro e u ⟨rfl, rfl⟩
        have HD : Hid (atomB t n = inI t.k 0 3) := AT.out.trans (by rw [BD.out, Bool.and_true])
        clear AT BD
        cases ei : inI t.k 0 3 <;> (
          go_wp2
          go_ret
          exact ⟨ret_bool (by rw [HD.out, ei]), BW.out⟩)
      by_cases e2 : t.kd = 2
      · have AT := hide (atom_in (n := n) (Or.inl e2))
        clear e1
        rw [e2] at R BW HX HY ⊢
        have HE : Hid (atomB t n = inI t.k 0 199) := AT.out.trans (by rw [BD.out, Bool.and_true])
        clear AT BD
        by_cases k0 : 0 ≤ t.k
        · by_cases k1 : t.k < 200
          · have HD : Hid (atomB t n = true) := HE.out.trans (in_t k0 (by omega))
            go_enter Try.func31, Try.ntmps31
            go_wp2
            go_ret
            exact ⟨ret_bool HD.out.symm, BW.out⟩
          · have HD : Hid (atomB t n = false) := HE.out.trans (in_f (by omega))
            go_enter Try.func31, Try.ntmps31
            go_wp2
            go_ret
            exact ⟨ret_bool HD.out.symm, BW.out⟩
        · have HD : Hid (atomB t n = false) := HE.out.trans (in_f (by omega))
          go_enter Try.func31, Try.ntmps31
          go_wp2
          go_ret
          exact ⟨ret_bool HD.out.symm, BW.out⟩
      by_cases e3 : t.kd = 3
      · have AT := hide (atom_in (n := n) (Or.inr e3))
        clear e1 e2
        rw [e3] at R BW HX HY ⊢
        have HE : Hid (atomB t n = inI t.k 0 199) := AT.out.trans (by rw [BD.out, Bool.and_true])
        clear AT BD
        by_cases k0 : 0 ≤ t.k
        · by_cases k1 : t.k < 200
          · have HD : Hid (atomB t n = true) := HE.out.trans (in_t k0 (by omega))
            go_enter Try.func31, Try.ntmps31
            go_wp2
            go_ret
            exact ⟨ret_bool HD.out.symm, BW.out⟩
          · have HD : Hid (atomB t n = false) := HE.out.trans (in_f (by omega))
            go_enter Try.func31, Try.ntmps31
            go_wp2
            go_ret
            exact ⟨ret_bool HD.out.symm, BW.out⟩
        · have HD : Hid (atomB t n = false) := HE.out.trans (in_f (by omega))
          go_enter Try.func31, Try.ntmps31
          go_wp2
          go_ret
          exact ⟨ret_bool HD.out.symm, BW.out⟩
      by_cases e4 : t.kd = 4
      · have AT := hide (atom_do (n := n) e4)
        clear e1 e2 e3 BD
        rw [e4] at R BW HX HY ⊢
        go_enter Try.func31, Try.ntmps31
        go_wp2_with fail
        refine (isOp t.k _).mono ?_
        rintro e u ⟨rfl, rfl⟩
        cases ei : inI t.k 1 5 with
        | false =>
          have HD : Hid (atomB t n = false) := AT.out.trans (by rw [ei]; rfl)
          clear ei AT
          go_wp2
          go_ret
          exact ⟨ret_bool HD.out.symm, BW.out⟩
        | true =>
          replace AT : Hid (atomB t n = (okP t.x && okP t.y && underB t.x n && underB t.y n)) := AT.out.trans (by rw [ei]; rfl)
          clear ei
          go_wp2_with fail
          refine (madeOf t.x n bx _ _ HX.out).mono ?_
          rintro e u ⟨rfl, hb⟩
          replace R := hide (R.out.below hb)
          replace HY := hide (HY.out.below hb)
          replace BW := hide (BW.out.trans (hb.mono BW.out.size))
          clear hb
          cases ei : (okP t.x && underB t.x n) with
          | false =>
            have HD : Hid (atomB t n = false) := AT.out.trans (by revert ei; cases okP t.x <;> cases underB t.x n <;> simp)
            clear ei AT
            go_wp2
            go_ret
            exact ⟨ret_bool HD.out.symm, BW.out⟩
          | true =>
            replace AT : Hid (atomB t n = (okP t.y && underB t.y n)) := AT.out.trans (by revert ei; cases okP t.x <;> cases underB t.x n <;> simp)
            clear ei
            have c3 := R.out.cell 3 _ rfl
            go_wp2_with fail
            refine (madeOf t.y n b _ _ HY.out).mono ?_
            rintro e u2 ⟨rfl, hb⟩
            replace BW := hide (BW.out.trans (hb.mono BW.out.size))
            clear hb c3
            cases ei : (okP t.y && underB t.y n) <;> (
              go_wp2
              go_ret
              exact ⟨ret_bool (by rw [AT.out, ei]), BW.out⟩)
      have HD := hide (atom_no (n := n) e1 e2 e3 e4)
      have n1 : (t.kd == 1) = false := by simpa using e1
      have n2 : (t.kd == 2) = false := by simpa using e2
      have n3 : (t.kd == 3) = false := by simpa using e3
      have n4 : (t.kd == 4) = false := by simpa using e4
      clear R HX HY BD e1 e2 e3 e4
      go_enter Try.func31, Try.ntmps31
      go_wp2
      go_ret
      exact ⟨ret_bool HD.out.symm, BW.out⟩
    · replace BD : Hid (bareB t = false) := BD.out.trans (by rw [decide_eq_false y0]; rfl)
      have y1 : ((ny : Int) == 0) = false := by simp; omega
      by_cases e1 : t.kd = 1
      · have AT := hide (atom_reg (n := n) e1)
        rw [e1] at R BW HX HY ⊢
        go_enter Try.func31, Try.ntmps31
        have HD : Hid (atomB t n = false) := AT.out.trans (by rw [BD.out, Bool.and_false])
        clear AT BD
        go_wp2
        go_ret
        exact ⟨ret_bool HD.out.symm, BW.out⟩
      by_cases e2 : t.kd = 2
      · have AT := hide (atom_in (n := n) (Or.inl e2))
        clear e1
        rw [e2] at R BW HX HY ⊢
        go_enter Try.func31, Try.ntmps31
        have HD : Hid (atomB t n = false) := AT.out.trans (by rw [BD.out, Bool.and_false])
        clear AT BD
        go_wp2
        go_ret
        exact ⟨ret_bool HD.out.symm, BW.out⟩
      by_cases e3 : t.kd = 3
      · have AT := hide (atom_in (n := n) (Or.inr e3))
        clear e1 e2
        rw [e3] at R BW HX HY ⊢
        go_enter Try.func31, Try.ntmps31
        have HD : Hid (atomB t n = false) := AT.out.trans (by rw [BD.out, Bool.and_false])
        clear AT BD
        go_wp2
        go_ret
        exact ⟨ret_bool HD.out.symm, BW.out⟩
      by_cases e4 : t.kd = 4
      · have AT := hide (atom_do (n := n) e4)
        clear e1 e2 e3 BD
        rw [e4] at R BW HX HY ⊢
        go_enter Try.func31, Try.ntmps31
        go_wp2_with fail
        refine (isOp t.k _).mono ?_
        rintro e u ⟨rfl, rfl⟩
        cases ei : inI t.k 1 5 with
        | false =>
          have HD : Hid (atomB t n = false) := AT.out.trans (by rw [ei]; rfl)
          clear ei AT
          go_wp2
          go_ret
          exact ⟨ret_bool HD.out.symm, BW.out⟩
        | true =>
          replace AT : Hid (atomB t n = (okP t.x && okP t.y && underB t.x n && underB t.y n)) := AT.out.trans (by rw [ei]; rfl)
          clear ei
          go_wp2_with fail
          refine (madeOf t.x n bx _ _ HX.out).mono ?_
          rintro e u ⟨rfl, hb⟩
          replace R := hide (R.out.below hb)
          replace HY := hide (HY.out.below hb)
          replace BW := hide (BW.out.trans (hb.mono BW.out.size))
          clear hb
          cases ei : (okP t.x && underB t.x n) with
          | false =>
            have HD : Hid (atomB t n = false) := AT.out.trans (by revert ei; cases okP t.x <;> cases underB t.x n <;> simp)
            clear ei AT
            go_wp2
            go_ret
            exact ⟨ret_bool HD.out.symm, BW.out⟩
          | true =>
            replace AT : Hid (atomB t n = (okP t.y && underB t.y n)) := AT.out.trans (by revert ei; cases okP t.x <;> cases underB t.x n <;> simp)
            clear ei
            have c3 := R.out.cell 3 _ rfl
            go_wp2_with fail
            refine (madeOf t.y n b _ _ HY.out).mono ?_
            rintro e u2 ⟨rfl, hb⟩
            replace BW := hide (BW.out.trans (hb.mono BW.out.size))
            clear hb c3
            cases ei : (okP t.y && underB t.y n) <;> (
              go_wp2
              go_ret
              exact ⟨ret_bool (by rw [AT.out, ei]), BW.out⟩)
      have HD := hide (atom_no (n := n) e1 e2 e3 e4)
      have n1 : (t.kd == 1) = false := by simpa using e1
      have n2 : (t.kd == 2) = false := by simpa using e2
      have n3 : (t.kd == 3) = false := by simpa using e3
      have n4 : (t.kd == 4) = false := by simpa using e4
      clear R HX HY BD e1 e2 e3 e4
      go_enter Try.func31, Try.ntmps31
      go_wp2
      go_ret
      exact ⟨ret_bool HD.out.symm, BW.out⟩
  · replace BD : Hid (bareB t = false) := BD.out.trans (by rw [decide_eq_false x0]; rfl)
    have x1 : ((nx : Int) == 0) = false := by simp; omega
    by_cases e1 : t.kd = 1
    · have AT := hide (atom_reg (n := n) e1)
      rw [e1] at R BW HX HY ⊢
      go_enter Try.func31, Try.ntmps31
      have HD : Hid (atomB t n = false) := AT.out.trans (by rw [BD.out, Bool.and_false])
      clear AT BD
      go_wp2
      go_ret
      exact ⟨ret_bool HD.out.symm, BW.out⟩
    by_cases e2 : t.kd = 2
    · have AT := hide (atom_in (n := n) (Or.inl e2))
      clear e1
      rw [e2] at R BW HX HY ⊢
      go_enter Try.func31, Try.ntmps31
      have HD : Hid (atomB t n = false) := AT.out.trans (by rw [BD.out, Bool.and_false])
      clear AT BD
      go_wp2
      go_ret
      exact ⟨ret_bool HD.out.symm, BW.out⟩
    by_cases e3 : t.kd = 3
    · have AT := hide (atom_in (n := n) (Or.inr e3))
      clear e1 e2
      rw [e3] at R BW HX HY ⊢
      go_enter Try.func31, Try.ntmps31
      have HD : Hid (atomB t n = false) := AT.out.trans (by rw [BD.out, Bool.and_false])
      clear AT BD
      go_wp2
      go_ret
      exact ⟨ret_bool HD.out.symm, BW.out⟩
    by_cases e4 : t.kd = 4
    · have AT := hide (atom_do (n := n) e4)
      clear e1 e2 e3 BD
      rw [e4] at R BW HX HY ⊢
      go_enter Try.func31, Try.ntmps31
      go_wp2_with fail
      refine (isOp t.k _).mono ?_
      rintro e u ⟨rfl, rfl⟩
      cases ei : inI t.k 1 5 with
      | false =>
        have HD : Hid (atomB t n = false) := AT.out.trans (by rw [ei]; rfl)
        clear ei AT
        go_wp2
        go_ret
        exact ⟨ret_bool HD.out.symm, BW.out⟩
      | true =>
        replace AT : Hid (atomB t n = (okP t.x && okP t.y && underB t.x n && underB t.y n)) := AT.out.trans (by rw [ei]; rfl)
        clear ei
        go_wp2_with fail
        refine (madeOf t.x n bx _ _ HX.out).mono ?_
        rintro e u ⟨rfl, hb⟩
        replace R := hide (R.out.below hb)
        replace HY := hide (HY.out.below hb)
        replace BW := hide (BW.out.trans (hb.mono BW.out.size))
        clear hb
        cases ei : (okP t.x && underB t.x n) with
        | false =>
          have HD : Hid (atomB t n = false) := AT.out.trans (by revert ei; cases okP t.x <;> cases underB t.x n <;> simp)
          clear ei AT
          go_wp2
          go_ret
          exact ⟨ret_bool HD.out.symm, BW.out⟩
        | true =>
          replace AT : Hid (atomB t n = (okP t.y && underB t.y n)) := AT.out.trans (by revert ei; cases okP t.x <;> cases underB t.x n <;> simp)
          clear ei
          have c3 := R.out.cell 3 _ rfl
          go_wp2_with fail
          refine (madeOf t.y n b _ _ HY.out).mono ?_
          rintro e u2 ⟨rfl, hb⟩
          replace BW := hide (BW.out.trans (hb.mono BW.out.size))
          clear hb c3
          cases ei : (okP t.y && underB t.y n) <;> (
            go_wp2
            go_ret
            exact ⟨ret_bool (by rw [AT.out, ei]), BW.out⟩)
    have HD := hide (atom_no (n := n) e1 e2 e3 e4)
    have n1 : (t.kd == 1) = false := by simpa using e1
    have n2 : (t.kd == 2) = false := by simpa using e2
    have n3 : (t.kd == 3) = false := by simpa using e3
    have n4 : (t.kd == 4) = false := by simpa using e4
    clear R HX HY BD e1 e2 e3 e4
    go_enter Try.func31, Try.ntmps31
    go_wp2
    go_ret
    exact ⟨ret_bool HD.out.symm, BW.out⟩
end Go.Proofs.Ytagfgbkclopoeaa.Tab
