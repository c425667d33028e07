/-
  Which atoms are ok, and the specification's TabOk.
  The program's isRegister, isOp, madeOf, atomOk.
  A range over a function whose iterator makes what it hands over: the round is told what holds of it in the round's own world.
  Library functions laid at this dump by the shelf's own tool (lay-plain): keysM, sortedS, sortS, sortI.
-/
import Derived.Test.YtggilenddbobnaaGreatAl
import Derived.Test.YtggilenddbobnaaGreatJ12
import Derived.Test.YtggilenddbobnaaGreatJ10
import Derived.RangeFuncNested
import Derived.RangeFuncBound
import Derived.RangeFuncCalls
import Derived.RangeFuncLeaves
import Derived.RangeFuncWrites
import Derived.Shelf.Abstract
import Derived.Shelf.RegionOpen
import Derived.WalkKit
import Derived.OwnWalkIn
import Derived.TacticsInMore
import Derived.LoopNIn
import Derived.LoopIn
import Derived.Shelf.SlIter.Nil
import Derived.Ground.GgzProg
import Derived.Shelf.SortM.Plain
import Derived.Shelf.SortM.SortNone
import Derived.Ground.SlgmProg
import Derived.Test.YtggilenddbobnaaGreatProg
namespace Go.Proofs.YtggilenddbobnaaGreat.Tab
set_option linter.unusedVariables false
open Go.ChangeShapes Go.WideShapes Go.ChangeAt Go.RowKit IntS Pol
def bareB (t : At) : Bool := decide (t.x.length = 0) && decide (t.y.length = 0)
/-- Whether an atom is ok behind so many. -/
def atomB (t : At) (n : Int) : Bool := if t.kd = 1 then inI t.k 0 3 && bareB t else if t.kd = 2 ∨ t.kd = 3 then inI t.k 0 199 && bareB t else if t.kd = 4 then inI t.k 1 5 && okP t.x && okP t.y && underB t.x n && underB t.y n else false
theorem atom_reg {t : At} {n : Int} (h : t.kd = 1) : atomB t n = (inI t.k 0 3 && bareB t) := if_pos h
theorem atom_in {t : At} {n : Int} (h : t.kd = 2 ∨ t.kd = 3) : atomB t n = (inI t.k 0 199 && bareB t) := by unfold atomB; rw [if_neg (by omega), if_pos h]
theorem atom_do {t : At} {n : Int} (h : t.kd = 4) : atomB t n = (inI t.k 1 5 && okP t.x && okP t.y && underB t.x n && underB t.y n) := by unfold atomB; rw [if_neg (by omega), if_neg (by omega), if_pos h]
theorem atom_no {t : At} {n : Int} (h1 : t.kd ≠ 1) (h2 : t.kd ≠ 2) (h3 : t.kd ≠ 3) (h4 : t.kd ≠ 4) : atomB t n = false := by unfold atomB; rw [if_neg h1, if_neg (by omega), if_neg h4]
def sameB (s t : At) : Bool := decide (s.kd = t.kd) && decide (s.k = t.k) && decide (ordP s.x t.x = 0) && decide (ordP s.y t.y = 0)
set_option maxHeartbeats 4000000 in
theorem l5Bare (t : At) (qx : Option Addr) (cx : Nat) (qy : Option Addr) (cy : Nat) (w : World) (hx : t.x.length ≤ maxLen) (hy : t.y.length ≤ maxLen) :
 Calls Tryz.prog 75 #[.agg #[.int .i64 t.kd, .int .i64 t.k, .slice qx t.x.length cx, .slice qy t.y.length cy]] w fun e w' => e = .returned (.bool (bareB t)) ∧ Below w.heap.size w w' := by
 have BW : Hid (Below w.heap.size w (w.alloc (.cells #[.int .i64 t.kd, .int .i64 t.k, .slice qx t.x.length cx, .slice qy t.y.length cy] 63))) := (Below.refl _ _).alloc (Nat.le_refl _) _
 unfold maxLen at hx hy
 by_cases h0 : t.x.length = 0
 · by_cases h1 : t.y.length = 0
   · have HD : Hid (bareB t = true) := show _ = _ by unfold bareB; rw [decide_eq_true h0, decide_eq_true h1]; rfl
     rw [h0, h1] at BW ⊢
     go_enter Tryz.func75, Tryz.ntmps75
     go_wp2
     go_ret
     exact ⟨ret_bool HD.out.symm, BW.out⟩
   · have HD : Hid (bareB t = false) := show _ = _ by unfold bareB; rw [decide_eq_true h0, decide_eq_false h1]; rfl
     rw [h0] at BW ⊢
     generalize t.y.length = m at hy h1 BW ⊢
     have h2 : ((m : Int) == 0) = false := by simp; omega
     go_enter Tryz.func75, Tryz.ntmps75
     go_wp2
     go_ret
     exact ⟨ret_bool HD.out.symm, BW.out⟩
 · have HD : Hid (bareB t = false) := show _ = _ by unfold bareB; rw [decide_eq_false h0]; rfl
   generalize t.x.length = m at hx h0 BW ⊢
   have h2 : ((m : Int) == 0) = false := by simp; omega
   go_enter Tryz.func75, Tryz.ntmps75
   go_wp2
   go_ret
   exact ⟨ret_bool HD.out.symm, BW.out⟩
theorem prow_max {w : World} {B : Nat} {q : Option Addr} {c : Nat} {ps : List Mono} {n : Nat} (h : PRow w B (.slice q n c) ps) : ps.length ≤ maxLen := by
 obtain ⟨a, cap, off, h1, h2, h3, _⟩ := h
 omega
set_option maxRecDepth 8000 in
set_option maxHeartbeats 8000000 in
theorem l5Atom (t : At) (n : Int) (qx : Option Addr) (cx : Nat) (qy : Option Addr) (cy bx b : Nat) (w : World) (hx : PRow w bx (.slice qx t.x.length cx) t.x) (hy : PRow w b (.slice qy t.y.length cy) t.y) :
 Calls Tryz.prog 41 #[.agg #[.int .i64 t.kd, .int .i64 t.k, .slice qx t.x.length cx, .slice qy t.y.length cy], .int .i64 n] w fun e w' => e = .returned (.bool (atomB t n)) ∧ Below w.heap.size w w' := by
 have bV : Below w.heap.size w (w.alloc (.cells #[.int .i64 t.kd, .int .i64 t.k, .slice qx t.x.length cx, .slice qy t.y.length cy] 63)) := (Below.refl _ _).alloc (Nat.le_refl _) _
 have R := hide (Rec.new w [.int .i64 t.kd, .int .i64 t.k, .slice qx t.x.length cx, .slice qy t.y.length cy] 63)
 have MX := hide (prow_max hx)
 have MY := hide (prow_max hy)
 have HX := hide (hx.below bV)
 have HY := hide (hy.below bV)
 have BW := hide bV
 clear bV hx hy
 by_cases e1 : t.kd = 1
 · have AT := hide (atom_reg (n := n) e1)
   rw [e1] at R BW HX HY ⊢
   go_enter Tryz.func41, Tryz.ntmps41
   go_wp2_with fail
   refine (l1In t.k 0 3 _).mono ?_
   rintro e u ⟨rfl, rfl⟩
   cases ei : inI t.k 0 3 with
   | false =>
    have HD : Hid (atomB t n = false) := AT.out.trans (by rw [ei]; rfl)
    clear ei AT
    go_wp2
    go_ret
    exact ⟨ret_bool HD.out.symm, BW.out⟩
   | true =>
    have HD : Hid (atomB t n = bareB t) := AT.out.trans (by rw [ei]; rfl)
    clear ei AT
    go_wp2_with fail
    have C := fun u => l5Bare t qx cx qy cy u MX.out MY.out
    simp only [e1] at C
    refine (C _).mono ?_
    rintro e u ⟨rfl, hb⟩
    replace BW := hide (BW.out.trans (hb.mono BW.out.size))
    clear hb C
    cases eb : bareB t <;> (
     go_wp2
     go_ret
     exact ⟨ret_bool (by rw [HD.out, eb]), BW.out⟩)
 by_cases e2 : t.kd = 2 ∨ t.kd = 3
 · have AT := hide (atom_in (n := n) e2)
   clear e1
   rcases e2 with e2 | e2 <;> (
    rw [e2] at R BW HX HY ⊢
    go_enter Tryz.func41, Tryz.ntmps41
    go_wp2_with fail
    refine (l1In t.k 0 199 _).mono ?_
    rintro e u ⟨rfl, rfl⟩
    cases ei : inI t.k 0 199 with
    | false =>
     have HD : Hid (atomB t n = false) := AT.out.trans (by rw [ei]; rfl)
     clear ei AT
     go_wp2
     go_ret
     exact ⟨ret_bool HD.out.symm, BW.out⟩
    | true =>
     have HD : Hid (atomB t n = bareB t) := AT.out.trans (by rw [ei]; rfl)
     clear ei AT
     go_wp2_with fail
     have C := fun u => l5Bare t qx cx qy cy u MX.out MY.out
     simp only [e2] at C
     refine (C _).mono ?_
     rintro e u ⟨rfl, hb⟩
     replace BW := hide (BW.out.trans (hb.mono BW.out.size))
     clear hb C
     cases eb : bareB t <;> (
      go_wp2
      go_ret
      exact ⟨ret_bool (by rw [HD.out, eb]), BW.out⟩))
 by_cases e4 : t.kd = 4
 · have AT := hide (atom_do (n := n) e4)
   clear e1 e2
   rw [e4] at R BW HX HY ⊢
   go_enter Tryz.func41, Tryz.ntmps41
   go_wp2_with fail
   refine (l1In t.k 1 5 _).mono ?_
   rintro e u ⟨rfl, rfl⟩
   cases ei : inI t.k 1 5 with
   | false =>
    have HD : Hid (atomB t n = false) := AT.out.trans (by rw [ei]; rfl)
    clear ei AT
    go_wp2
    go_ret
    exact ⟨ret_bool HD.out.symm, BW.out⟩
   | true =>
    replace AT : Hid (atomB t n = (okP t.x && okP t.y && underB t.x n && underB t.y n)) := AT.out.trans (by rw [ei]; rfl)
    clear ei
    go_wp2_with fail
    refine (specOk t.x bx _ _ HX.out).mono ?_
    rintro e u ⟨rfl, hb⟩
    replace R := hide (R.out.below hb)
    replace HX := hide (HX.out.below hb)
    replace HY := hide (HY.out.below hb)
    replace BW := hide (BW.out.trans (hb.mono BW.out.size))
    clear hb
    cases ei : okP t.x with
    | false =>
     have HD : Hid (atomB t n = false) := AT.out.trans (by rw [ei]; rfl)
     clear ei AT
     go_wp2
     go_ret
     exact ⟨ret_bool HD.out.symm, BW.out⟩
    | true =>
     replace AT : Hid (atomB t n = (okP t.y && underB t.x n && underB t.y n)) := AT.out.trans (by rw [ei]; rfl)
     clear ei
     have c3 := R.out.cell 3 _ rfl
     go_wp2_with fail
     refine (specOk t.y b _ _ HY.out).mono ?_
     rintro e u2 ⟨rfl, hb⟩
     replace R := hide (R.out.below hb)
     replace HX := hide (HX.out.below hb)
     replace HY := hide (HY.out.below hb)
     replace BW := hide (BW.out.trans (hb.mono BW.out.size))
     clear hb c3
     cases ei : okP t.y with
     | false =>
      have HD : Hid (atomB t n = false) := AT.out.trans (by rw [ei]; rfl)
      clear ei AT
      go_wp2
      go_ret
      exact ⟨ret_bool HD.out.symm, BW.out⟩
     | true =>
      replace AT : Hid (atomB t n = (underB t.x n && underB t.y n)) := AT.out.trans (by rw [ei]; rfl)
      clear ei
      have c2 := R.out.cell 2 _ rfl
      go_wp2_with fail
      refine (specUnder t.x n bx _ _ HX.out).mono ?_
      rintro e u3 ⟨rfl, hb⟩
      replace R := hide (R.out.below hb)
      replace HY := hide (HY.out.below hb)
      replace BW := hide (BW.out.trans (hb.mono BW.out.size))
      clear hb c2
      cases ei : underB t.x n with
      | false =>
       have HD : Hid (atomB t n = false) := AT.out.trans (by rw [ei]; rfl)
       clear ei AT
       go_wp2
       go_ret
       exact ⟨ret_bool HD.out.symm, BW.out⟩
      | true =>
       replace AT : Hid (atomB t n = underB t.y n) := AT.out.trans (by rw [ei]; rfl)
       clear ei
       have c3 := R.out.cell 3 _ rfl
       go_wp2_with fail
       refine (specUnder t.y n b _ _ HY.out).mono ?_
       rintro e u4 ⟨rfl, hb⟩
       replace BW := hide (BW.out.trans (hb.mono BW.out.size))
       clear hb c3
       cases ei : underB t.y n <;> (
        go_wp2
        go_ret
        exact ⟨ret_bool (by rw [AT.out, ei]), BW.out⟩)
 have HD := hide (atom_no (n := n) e1 (fun h => e2 (Or.inl h)) (fun h => e2 (Or.inr h)) e4)
 have n1 : (t.kd == 1) = false := by simpa using e1
 have n2 : (t.kd == 2) = false := by simp; omega
 have n3 : (t.kd == 3) = false := by simp; omega
 have n4 : (t.kd == 4) = false := by simpa using e4
 clear R HX HY
 go_enter Tryz.func41, Tryz.ntmps41
 go_wp2
 go_ret
 exact ⟨ret_bool HD.out.symm, BW.out⟩
set_option maxRecDepth 8000 in
set_option maxHeartbeats 8000000 in
theorem l5Same (s t : At) (qx qx' : Option Addr) (cx cx' : Nat) (qy qy' : Option Addr) (cy cy' bx bx' b b' : Nat) (w : World) (hx : PRow w bx (.slice qx s.x.length cx) s.x) (hy : PRow w b (.slice qy s.y.length cy) s.y) (hx' : PRow w bx' (.slice qx' t.x.length cx') t.x) (hy' : PRow w b' (.slice qy' t.y.length cy') t.y) :
 Calls Tryz.prog 42 #[.agg #[.int .i64 s.kd, .int .i64 s.k, .slice qx s.x.length cx, .slice qy s.y.length cy], .agg #[.int .i64 t.kd, .int .i64 t.k, .slice qx' t.x.length cx', .slice qy' t.y.length cy']] w fun e w' => e = .returned (.bool (sameB s t)) ∧ Below w.heap.size w w' := by
 have bV : Below w.heap.size w ((w.alloc (.cells #[.int .i64 s.kd, .int .i64 s.k, .slice qx s.x.length cx, .slice qy s.y.length cy] 63)).alloc (.cells #[.int .i64 t.kd, .int .i64 t.k, .slice qx' t.x.length cx', .slice qy' t.y.length cy'] 63)) := ((Below.refl _ _).alloc (Nat.le_refl _) _).alloc (by simp) _
 have R := hide ((Rec.new w [.int .i64 s.kd, .int .i64 s.k, .slice qx s.x.length cx, .slice qy s.y.length cy] 63).alloc (.cells #[.int .i64 t.kd, .int .i64 t.k, .slice qx' t.x.length cx', .slice qy' t.y.length cy'] 63))
 have R' := Rec.new (w.alloc (.cells #[.int .i64 s.kd, .int .i64 s.k, .slice qx s.x.length cx, .slice qy s.y.length cy] 63)) [.int .i64 t.kd, .int .i64 t.k, .slice qx' t.x.length cx', .slice qy' t.y.length cy'] 63
 rw [show (w.alloc (.cells #[.int .i64 s.kd, .int .i64 s.k, .slice qx s.x.length cx, .slice qy s.y.length cy] 63)).heap.size = w.heap.size + 1 by simp] at R'
 replace R' := hide R'
 have HX := hide (hx.below bV)
 have HY := hide (hy.below bV)
 have HX' := hide (hx'.below bV)
 have HY' := hide (hy'.below bV)
 have BW := hide bV
 clear bV hx hy hx' hy'
 have AT : Hid (sameB s t = (decide (s.kd = t.kd) && decide (s.k = t.k) && decide (ordP s.x t.x = 0) && decide (ordP s.y t.y = 0))) := rfl
 by_cases e1 : s.kd = t.kd
 · have m1 : (s.kd == t.kd) = true := by simpa using e1
   by_cases e2 : s.k = t.k
   · have m2 : (s.k == t.k) = true := by simpa using e2
     replace AT : Hid (sameB s t = (decide (ordP s.x t.x = 0) && decide (ordP s.y t.y = 0))) := AT.out.trans (by rw [decide_eq_true e1, decide_eq_true e2]; rfl)
     clear e1 e2
     go_enter Tryz.func42, Tryz.ntmps42
     go_wp2_with fail
     refine (specOrder s.x t.x bx bx' _ _ _ HX.out HX'.out).mono ?_
     rintro e u ⟨rfl, hb⟩
     replace R := hide (R.out.below hb)
     replace R' := hide (R'.out.below hb)
     replace HY := hide (HY.out.below hb)
     replace HY' := hide (HY'.out.below hb)
     replace BW := hide (BW.out.trans (hb.mono BW.out.size))
     clear hb HX HX'
     generalize ordP s.x t.x = o at AT ⊢
     by_cases e3 : o = 0
     · replace AT : Hid (sameB s t = decide (ordP s.y t.y = 0)) := AT.out.trans (by rw [decide_eq_true e3]; rfl)
       subst e3
       have c3 := R.out.cell 3 _ rfl
       have c3' := R'.out.cell 3 _ rfl
       go_wp2_with fail
       refine (specOrder s.y t.y b b' _ _ _ HY.out HY'.out).mono ?_
       rintro e u2 ⟨rfl, hb⟩
       replace BW := hide (BW.out.trans (hb.mono BW.out.size))
       clear hb c3 c3'
       generalize ordP s.y t.y = o at AT ⊢
       by_cases e4 : o = 0
       · replace AT : Hid (sameB s t = true) := AT.out.trans (decide_eq_true e4)
         subst e4
         go_wp2
         go_ret
         exact ⟨ret_bool AT.out.symm, BW.out⟩
       · replace AT : Hid (sameB s t = false) := AT.out.trans (decide_eq_false e4)
         have m4 : (o == 0) = false := by simpa using e4
         go_wp2
         go_ret
         exact ⟨ret_bool AT.out.symm, BW.out⟩
     · replace AT : Hid (sameB s t = false) := AT.out.trans (by rw [decide_eq_false e3]; rfl)
       have m3 : (o == 0) = false := by simpa using e3
       go_wp2
       go_ret
       exact ⟨ret_bool AT.out.symm, BW.out⟩
   · have m2 : (s.k == t.k) = false := by simpa using e2
     replace AT : Hid (sameB s t = false) := AT.out.trans (by rw [decide_eq_false e2]; simp)
     clear e1
     go_enter Tryz.func42, Tryz.ntmps42
     go_wp2
     go_ret
     exact ⟨ret_bool AT.out.symm, BW.out⟩
 · have m1 : (s.kd == t.kd) = false := by simpa using e1
   replace AT : Hid (sameB s t = false) := AT.out.trans (by rw [decide_eq_false e1]; rfl)
   go_enter Tryz.func42, Tryz.ntmps42
   go_wp2
   go_ret
   exact ⟨ret_bool AT.out.symm, BW.out⟩
end Go.Proofs.YtggilenddbobnaaGreat.Tab
namespace Go.Proofs.YtggilenddbobnaaGreat.Tab
set_option linter.unusedVariables false
open Go.ChangeShapes Go.WideShapes Go.ChangeAt Go.RowKit IntS Pol
theorem in_t {n lo hi : Int} (h0 : lo ≤ n) (h1 : n ≤ hi) : inI n lo hi = true := decide_eq_true ⟨h0, h1⟩
theorem in_f {n lo hi : Int} (h : ¬ (lo ≤ n ∧ n ≤ hi)) : inI n lo hi = false := decide_eq_false h
theorem isRegister (k : Int) (w : World) : Calls Tryz.prog 102 #[.int .i64 k] w fun e w' => e = .returned (.bool (inI k 0 3)) ∧ w' = w := by
 by_cases h0 : 0 ≤ k
 · by_cases h1 : k < 4
   · have HD : Hid (inI k 0 3 = true) := in_t h0 (by omega)
     go_enter Tryz.func102, Tryz.ntmps102
     go_wp2
     go_ret
     exact ⟨ret_bool HD.out.symm, rfl⟩
   · have HD : Hid (inI k 0 3 = false) := in_f (by omega)
     go_enter Tryz.func102, Tryz.ntmps102
     go_wp2
     go_ret
     exact ⟨ret_bool HD.out.symm, rfl⟩
 · have HD : Hid (inI k 0 3 = false) := in_f (by omega)
   go_enter Tryz.func102, Tryz.ntmps102
   go_wp2
   go_ret
   exact ⟨ret_bool HD.out.symm, rfl⟩
theorem isOp (k : Int) (w : World) : Calls Tryz.prog 26 #[.int .i64 k] w fun e w' => e = .returned (.bool (inI k 1 5)) ∧ w' = w := by
 by_cases h0 : 1 ≤ k
 · by_cases h1 : k ≤ 5
   · have HD : Hid (inI k 1 5 = true) := in_t h0 h1
     go_enter Tryz.func26, Tryz.ntmps26
     go_wp2
     go_ret
     exact ⟨ret_bool HD.out.symm, rfl⟩
   · have HD : Hid (inI k 1 5 = false) := in_f (by omega)
     go_enter Tryz.func26, Tryz.ntmps26
     go_wp2
     go_ret
     exact ⟨ret_bool HD.out.symm, rfl⟩
 · have HD : Hid (inI k 1 5 = false) := in_f (by omega)
   go_enter Tryz.func26, Tryz.ntmps26
   go_wp2
   go_ret
   exact ⟨ret_bool HD.out.symm, rfl⟩
theorem madeOf (ps : List Mono) (n : Int) (B : Nat) (v : Value) (w : World) (h : PRow w B v ps) :
 Calls Tryz.prog 27 #[.agg #[v], .int .i64 n] w fun e w' => e = .returned (.bool (okP ps && underB ps n)) ∧ Below w.heap.size w w' := by
 have bV : Below w.heap.size w (w.alloc (.cells #[v] 35)) := (Below.refl _ _).alloc (Nat.le_refl _) _
 have z0 : (w.alloc (.cells #[v] 35)).cell? ⟨w.heap.size, 0, none⟩ = some v := by rw [World.cell?_alloc_new]; rfl
 have H := hide (h.below bV)
 have BW := hide bV
 obtain ⟨a, cap, off, rfl, _⟩ := h
 clear bV
 go_enter Tryz.func27, Tryz.ntmps27
 go_wp2_with fail
 generalize w.alloc (.cells #[.slice a ps.length cap] 35) = V at z0 H BW ⊢
 go_wp2_with fail
 refine (implOk ps B _ _ H.out).mono ?_
 rintro e u ⟨rfl, hb⟩
 have y0 := cell_below hb z0
 have H2 := hide (H.out.below hb)
 replace BW := hide (BW.out.trans (hb.mono BW.out.size))
 clear hb z0 H
 cases ok : okP ps with
 | false =>
  go_wp2
  go_ret
  exact ⟨ret_bool (by rw [ok]; rfl), BW.out⟩
 | true =>
  have OK := hide ok
  clear ok
  go_wp2_with fail
  refine (implUnder ps n B _ _ H2.out).mono ?_
  rintro e u2 ⟨rfl, hb⟩
  replace BW := hide (BW.out.trans (hb.mono BW.out.size))
  clear hb y0
  cases ei : underB ps n <;> (
   go_wp2
   go_ret
   exact ⟨ret_bool (by rw [OK.out, ei]; rfl), BW.out⟩)
set_option maxRecDepth 8000 in
set_option maxHeartbeats 8000000 in
theorem atomOk (t : At) (n : Int) (qx : Option Addr) (cx : Nat) (qy : Option Addr) (cy bx b : Nat) (w : World) (hx : PRow w bx (.slice qx t.x.length cx) t.x) (hy : PRow w b (.slice qy t.y.length cy) t.y) :
 Calls Tryz.prog 67 #[.agg #[.int .i64 t.kd, .int .i64 t.k, .slice qx t.x.length cx, .slice qy t.y.length cy], .int .i64 n] w fun e w' => e = .returned (.bool (atomB t n)) ∧ Below w.heap.size w w' := by
 have bV : Below w.heap.size w (w.alloc (.cells #[.int .i64 t.kd, .int .i64 t.k, .slice qx t.x.length cx, .slice qy t.y.length cy] 63)) := (Below.refl _ _).alloc (Nat.le_refl _) _
 have R := hide (Rec.new w [.int .i64 t.kd, .int .i64 t.k, .slice qx t.x.length cx, .slice qy t.y.length cy] 63)
 have MX := prow_max hx
 have MY := prow_max hy
 have HX := hide (hx.below bV)
 have HY := hide (hy.below bV)
 have BW := hide bV
 unfold maxLen at MX MY
 clear bV hx hy
 -- generated
 obtain ⟨nx, enx⟩ : ∃ m, t.x.length = m := ⟨_, rfl⟩
 obtain ⟨ny, eny⟩ : ∃ m, t.y.length = m := ⟨_, rfl⟩
 have BD : Hid (bareB t = (decide (nx = 0) && decide (ny = 0))) := show _ = _ by unfold bareB; rw [enx, eny]
 rw [enx, eny] at R HX HY BW ⊢
 rw [enx] at MX
 rw [eny] at MY
 clear enx eny
 by_cases x0 : nx = 0
 · subst x0
   by_cases y0 : ny = 0
   · subst y0
     replace BD : Hid (bareB t = true) := BD.out
     by_cases e1 : t.kd = 1
     · have AT := hide (atom_reg (n := n) e1)
       rw [e1] at R BW HX HY ⊢
       go_enter Tryz.func67, Tryz.ntmps67
       go_wp2_with fail
       refine (isRegister t.k _).mono ?_
       rintro e u ⟨rfl, rfl⟩
       have HD : Hid (atomB t n = inI t.k 0 3) := AT.out.trans (by rw [BD.out, Bool.and_true])
       clear AT BD
       cases ei : inI t.k 0 3 <;> (
        go_wp2
        go_ret
        exact ⟨ret_bool (by rw [HD.out, ei]), BW.out⟩)
     by_cases e2 : t.kd = 2
     · have AT := hide (atom_in (n := n) (Or.inl e2))
       clear e1
       rw [e2] at R BW HX HY ⊢
       have HE : Hid (atomB t n = inI t.k 0 199) := AT.out.trans (by rw [BD.out, Bool.and_true])
       clear AT BD
       by_cases k0 : 0 ≤ t.k
       · by_cases k1 : t.k < 200
         · have HD : Hid (atomB t n = true) := HE.out.trans (in_t k0 (by omega))
           go_enter Tryz.func67, Tryz.ntmps67
           go_wp2
           go_ret
           exact ⟨ret_bool HD.out.symm, BW.out⟩
         · have HD : Hid (atomB t n = false) := HE.out.trans (in_f (by omega))
           go_enter Tryz.func67, Tryz.ntmps67
           go_wp2
           go_ret
           exact ⟨ret_bool HD.out.symm, BW.out⟩
       · have HD : Hid (atomB t n = false) := HE.out.trans (in_f (by omega))
         go_enter Tryz.func67, Tryz.ntmps67
         go_wp2
         go_ret
         exact ⟨ret_bool HD.out.symm, BW.out⟩
     by_cases e3 : t.kd = 3
     · have AT := hide (atom_in (n := n) (Or.inr e3))
       clear e1 e2
       rw [e3] at R BW HX HY ⊢
       have HE : Hid (atomB t n = inI t.k 0 199) := AT.out.trans (by rw [BD.out, Bool.and_true])
       clear AT BD
       by_cases k0 : 0 ≤ t.k
       · by_cases k1 : t.k < 200
         · have HD : Hid (atomB t n = true) := HE.out.trans (in_t k0 (by omega))
           go_enter Tryz.func67, Tryz.ntmps67
           go_wp2
           go_ret
           exact ⟨ret_bool HD.out.symm, BW.out⟩
         · have HD : Hid (atomB t n = false) := HE.out.trans (in_f (by omega))
           go_enter Tryz.func67, Tryz.ntmps67
           go_wp2
           go_ret
           exact ⟨ret_bool HD.out.symm, BW.out⟩
       · have HD : Hid (atomB t n = false) := HE.out.trans (in_f (by omega))
         go_enter Tryz.func67, Tryz.ntmps67
         go_wp2
         go_ret
         exact ⟨ret_bool HD.out.symm, BW.out⟩
     by_cases e4 : t.kd = 4
     · have AT := hide (atom_do (n := n) e4)
       clear e1 e2 e3 BD
       rw [e4] at R BW HX HY ⊢
       go_enter Tryz.func67, Tryz.ntmps67
       go_wp2_with fail
       refine (isOp t.k _).mono ?_
       rintro e u ⟨rfl, rfl⟩
       cases ei : inI t.k 1 5 with
       | false =>
        have HD : Hid (atomB t n = false) := AT.out.trans (by rw [ei]; rfl)
        clear ei AT
        go_wp2
        go_ret
        exact ⟨ret_bool HD.out.symm, BW.out⟩
       | true =>
        replace AT : Hid (atomB t n = (okP t.x && okP t.y && underB t.x n && underB t.y n)) := AT.out.trans (by rw [ei]; rfl)
        clear ei
        go_wp2_with fail
        refine (madeOf t.x n bx _ _ HX.out).mono ?_
        rintro e u ⟨rfl, hb⟩
        replace R := hide (R.out.below hb)
        replace HY := hide (HY.out.below hb)
        replace BW := hide (BW.out.trans (hb.mono BW.out.size))
        clear hb
        cases ei : (okP t.x && underB t.x n) with
        | false =>
         have HD : Hid (atomB t n = false) := AT.out.trans (by revert ei; cases okP t.x <;> cases underB t.x n <;> simp)
         clear ei AT
         go_wp2
         go_ret
         exact ⟨ret_bool HD.out.symm, BW.out⟩
        | true =>
         replace AT : Hid (atomB t n = (okP t.y && underB t.y n)) := AT.out.trans (by revert ei; cases okP t.x <;> cases underB t.x n <;> simp)
         clear ei
         have c3 := R.out.cell 3 _ rfl
         go_wp2_with fail
         refine (madeOf t.y n b _ _ HY.out).mono ?_
         rintro e u2 ⟨rfl, hb⟩
         replace BW := hide (BW.out.trans (hb.mono BW.out.size))
         clear hb c3
         cases ei : (okP t.y && underB t.y n) <;> (
          go_wp2
          go_ret
          exact ⟨ret_bool (by rw [AT.out, ei]), BW.out⟩)
     have HD := hide (atom_no (n := n) e1 e2 e3 e4)
     have n1 : (t.kd == 1) = false := by simpa using e1
     have n2 : (t.kd == 2) = false := by simpa using e2
     have n3 : (t.kd == 3) = false := by simpa using e3
     have n4 : (t.kd == 4) = false := by simpa using e4
     clear R HX HY BD e1 e2 e3 e4
     go_enter Tryz.func67, Tryz.ntmps67
     go_wp2
     go_ret
     exact ⟨ret_bool HD.out.symm, BW.out⟩
   · replace BD : Hid (bareB t = false) := BD.out.trans (by rw [decide_eq_false y0]; rfl)
     have y1 : ((ny : Int) == 0) = false := by simp; omega
     by_cases e1 : t.kd = 1
     · have AT := hide (atom_reg (n := n) e1)
       rw [e1] at R BW HX HY ⊢
       go_enter Tryz.func67, Tryz.ntmps67
       have HD : Hid (atomB t n = false) := AT.out.trans (by rw [BD.out, Bool.and_false])
       clear AT BD
       go_wp2
       go_ret
       exact ⟨ret_bool HD.out.symm, BW.out⟩
     by_cases e2 : t.kd = 2
     · have AT := hide (atom_in (n := n) (Or.inl e2))
       clear e1
       rw [e2] at R BW HX HY ⊢
       go_enter Tryz.func67, Tryz.ntmps67
       have HD : Hid (atomB t n = false) := AT.out.trans (by rw [BD.out, Bool.and_false])
       clear AT BD
       go_wp2
       go_ret
       exact ⟨ret_bool HD.out.symm, BW.out⟩
     by_cases e3 : t.kd = 3
     · have AT := hide (atom_in (n := n) (Or.inr e3))
       clear e1 e2
       rw [e3] at R BW HX HY ⊢
       go_enter Tryz.func67, Tryz.ntmps67
       have HD : Hid (atomB t n = false) := AT.out.trans (by rw [BD.out, Bool.and_false])
       clear AT BD
       go_wp2
       go_ret
       exact ⟨ret_bool HD.out.symm, BW.out⟩
     by_cases e4 : t.kd = 4
     · have AT := hide (atom_do (n := n) e4)
       clear e1 e2 e3 BD
       rw [e4] at R BW HX HY ⊢
       go_enter Tryz.func67, Tryz.ntmps67
       go_wp2_with fail
       refine (isOp t.k _).mono ?_
       rintro e u ⟨rfl, rfl⟩
       cases ei : inI t.k 1 5 with
       | false =>
        have HD : Hid (atomB t n = false) := AT.out.trans (by rw [ei]; rfl)
        clear ei AT
        go_wp2
        go_ret
        exact ⟨ret_bool HD.out.symm, BW.out⟩
       | true =>
        replace AT : Hid (atomB t n = (okP t.x && okP t.y && underB t.x n && underB t.y n)) := AT.out.trans (by rw [ei]; rfl)
        clear ei
        go_wp2_with fail
        refine (madeOf t.x n bx _ _ HX.out).mono ?_
        rintro e u ⟨rfl, hb⟩
        replace R := hide (R.out.below hb)
        replace HY := hide (HY.out.below hb)
        replace BW := hide (BW.out.trans (hb.mono BW.out.size))
        clear hb
        cases ei : (okP t.x && underB t.x n) with
        | false =>
         have HD : Hid (atomB t n = false) := AT.out.trans (by revert ei; cases okP t.x <;> cases underB t.x n <;> simp)
         clear ei AT
         go_wp2
         go_ret
         exact ⟨ret_bool HD.out.symm, BW.out⟩
        | true =>
         replace AT : Hid (atomB t n = (okP t.y && underB t.y n)) := AT.out.trans (by revert ei; cases okP t.x <;> cases underB t.x n <;> simp)
         clear ei
         have c3 := R.out.cell 3 _ rfl
         go_wp2_with fail
         refine (madeOf t.y n b _ _ HY.out).mono ?_
         rintro e u2 ⟨rfl, hb⟩
         replace BW := hide (BW.out.trans (hb.mono BW.out.size))
         clear hb c3
         cases ei : (okP t.y && underB t.y n) <;> (
          go_wp2
          go_ret
          exact ⟨ret_bool (by rw [AT.out, ei]), BW.out⟩)
     have HD := hide (atom_no (n := n) e1 e2 e3 e4)
     have n1 : (t.kd == 1) = false := by simpa using e1
     have n2 : (t.kd == 2) = false := by simpa using e2
     have n3 : (t.kd == 3) = false := by simpa using e3
     have n4 : (t.kd == 4) = false := by simpa using e4
     clear R HX HY BD e1 e2 e3 e4
     go_enter Tryz.func67, Tryz.ntmps67
     go_wp2
     go_ret
     exact ⟨ret_bool HD.out.symm, BW.out⟩
 · replace BD : Hid (bareB t = false) := BD.out.trans (by rw [decide_eq_false x0]; rfl)
   have x1 : ((nx : Int) == 0) = false := by simp; omega
   by_cases e1 : t.kd = 1
   · have AT := hide (atom_reg (n := n) e1)
     rw [e1] at R BW HX HY ⊢
     go_enter Tryz.func67, Tryz.ntmps67
     have HD : Hid (atomB t n = false) := AT.out.trans (by rw [BD.out, Bool.and_false])
     clear AT BD
     go_wp2
     go_ret
     exact ⟨ret_bool HD.out.symm, BW.out⟩
   by_cases e2 : t.kd = 2
   · have AT := hide (atom_in (n := n) (Or.inl e2))
     clear e1
     rw [e2] at R BW HX HY ⊢
     go_enter Tryz.func67, Tryz.ntmps67
     have HD : Hid (atomB t n = false) := AT.out.trans (by rw [BD.out, Bool.and_false])
     clear AT BD
     go_wp2
     go_ret
     exact ⟨ret_bool HD.out.symm, BW.out⟩
   by_cases e3 : t.kd = 3
   · have AT := hide (atom_in (n := n) (Or.inr e3))
     clear e1 e2
     rw [e3] at R BW HX HY ⊢
     go_enter Tryz.func67, Tryz.ntmps67
     have HD : Hid (atomB t n = false) := AT.out.trans (by rw [BD.out, Bool.and_false])
     clear AT BD
     go_wp2
     go_ret
     exact ⟨ret_bool HD.out.symm, BW.out⟩
   by_cases e4 : t.kd = 4
   · have AT := hide (atom_do (n := n) e4)
     clear e1 e2 e3 BD
     rw [e4] at R BW HX HY ⊢
     go_enter Tryz.func67, Tryz.ntmps67
     go_wp2_with fail
     refine (isOp t.k _).mono ?_
     rintro e u ⟨rfl, rfl⟩
     cases ei : inI t.k 1 5 with
     | false =>
      have HD : Hid (atomB t n = false) := AT.out.trans (by rw [ei]; rfl)
      clear ei AT
      go_wp2
      go_ret
      exact ⟨ret_bool HD.out.symm, BW.out⟩
     | true =>
      replace AT : Hid (atomB t n = (okP t.x && okP t.y && underB t.x n && underB t.y n)) := AT.out.trans (by rw [ei]; rfl)
      clear ei
      go_wp2_with fail
      refine (madeOf t.x n bx _ _ HX.out).mono ?_
      rintro e u ⟨rfl, hb⟩
      replace R := hide (R.out.below hb)
      replace HY := hide (HY.out.below hb)
      replace BW := hide (BW.out.trans (hb.mono BW.out.size))
      clear hb
      cases ei : (okP t.x && underB t.x n) with
      | false =>
       have HD : Hid (atomB t n = false) := AT.out.trans (by revert ei; cases okP t.x <;> cases underB t.x n <;> simp)
       clear ei AT
       go_wp2
       go_ret
       exact ⟨ret_bool HD.out.symm, BW.out⟩
      | true =>
       replace AT : Hid (atomB t n = (okP t.y && underB t.y n)) := AT.out.trans (by revert ei; cases okP t.x <;> cases underB t.x n <;> simp)
       clear ei
       have c3 := R.out.cell 3 _ rfl
       go_wp2_with fail
       refine (madeOf t.y n b _ _ HY.out).mono ?_
       rintro e u2 ⟨rfl, hb⟩
       replace BW := hide (BW.out.trans (hb.mono BW.out.size))
       clear hb c3
       cases ei : (okP t.y && underB t.y n) <;> (
        go_wp2
        go_ret
        exact ⟨ret_bool (by rw [AT.out, ei]), BW.out⟩)
   have HD := hide (atom_no (n := n) e1 e2 e3 e4)
   have n1 : (t.kd == 1) = false := by simpa using e1
   have n2 : (t.kd == 2) = false := by simpa using e2
   have n3 : (t.kd == 3) = false := by simpa using e3
   have n4 : (t.kd == 4) = false := by simpa using e4
   clear R HX HY BD e1 e2 e3 e4
   go_enter Tryz.func67, Tryz.ntmps67
   go_wp2
   go_ret
   exact ⟨ret_bool HD.out.symm, BW.out⟩
end Go.Proofs.YtggilenddbobnaaGreat.Tab
namespace Go.Proofs.YtggilenddbobnaaGreat.Rng
set_option linter.unusedVariables false
open Go Go.RowKit
/-- The world has grown; what lay below block B, and every block that holds cells, is as it was. -/
structure Mild (B : Nat) (A A' : World) : Prop where
 os : A'.os = A.os
 tape : A'.tape = A.tape
 output : A'.output = A.output
 size : A.heap.size ≤ A'.heap.size
 low : ∀ k : Nat, k < B → k < A.heap.size → A'.heap[k]? = A.heap[k]?
 cells : ∀ (k : Nat) cs t z, A.heap[k]? = some (Obj.cells cs t z) → A'.heap[k]? = some (Obj.cells cs t z)
theorem Mild.trans {B : Nat} {A A' A'' : World} (h : Mild B A A') (k : Mild B A' A'') : Mild B A A'' :=
 ⟨k.os.trans h.os, k.tape.trans h.tape, k.output.trans h.output, Nat.le_trans h.size k.size, fun i hi hl => (k.low i hi (Nat.lt_of_lt_of_le hl h.size)).trans (h.low i hi hl), fun i cs t z e => k.cells i cs t z (h.cells i cs t z e)⟩
theorem lt_of_some {A : World} {k : Nat} {o : Obj} (h : A.heap[k]? = some o) : k < A.heap.size := (Array.getElem?_eq_some_iff.1 h).1
theorem Mild.of_below {B : Nat} {A A' : World} (h : Below A.heap.size A A') : Mild B A A' :=
 ⟨h.os, h.tape, h.output, h.size, fun k _ hl => h.block k hl, fun k cs t z e => (h.block k (lt_of_some e)).trans e⟩
theorem Mild.put {B : Nat} {A : World} {l : Nat} {o : Obj} (o' : Obj) (hB : B ≤ l) (hl : A.heap[l]? = some o) (ho : o.isCells = false) : Mild B A (A.putObj l o') :=
 ⟨rfl, rfl, rfl, by simp, fun k hk _ => World.putObj_heap_other (by omega), fun k cs t z e => by
  have : k ≠ l := fun e2 => by subst e2; rw [hl] at e; cases e; cases ho
  rw [World.putObj_heap_other this]
  exact e⟩
theorem Mild.alloc {B : Nat} (A : World) (o : Obj) : Mild B A (A.alloc o) := Mild.of_below ((Below.refl _ A).alloc (Nat.le_refl _) _)
theorem Mild.below {B : Nat} {w A A' : World} (h : Below B w A) (hm : Mild B A A') (hB : B ≤ w.heap.size) : Below B w A' :=
 ⟨hm.os.trans h.os, hm.tape.trans h.tape, hm.output.trans h.output, Nat.le_trans h.size hm.size, fun k hk => (hm.low k hk (Nat.lt_of_lt_of_le (Nat.lt_of_lt_of_le hk hB) h.size)).trans (h.block k hk)⟩
theorem Mild.cell {B : Nat} {A A' : World} (h : Mild B A A') {a : Addr} {v : Value} (hc : A.cell? a = some v) : A'.cell? a = some v := by
 unfold World.cell? at hc ⊢
 cases ho : A.heap[a.block]? with
 | none => simp [ho] at hc
 | some o =>
  cases o with
  | cells cs t z => rw [h.cells _ _ _ _ ho]; simpa [ho] using hc
  | _ => simp [ho] at hc
/-- Blocks of cells of these types are as they were. -/
def Kept (kt : TypeId → Prop) (A A' : World) : Prop := ∀ (k : Nat) cs t z, kt t → A.heap[k]? = some (Obj.cells cs t z) → A'.heap[k]? = some (Obj.cells cs t z)
theorem Kept.trans {kt : TypeId → Prop} {A B C : World} (h : Kept kt A B) (k : Kept kt B C) : Kept kt A C := fun i cs t z ht e => k i cs t z ht (h i cs t z ht e)
theorem Kept.refl {kt : TypeId → Prop} (A : World) : Kept kt A A := fun _ _ _ _ _ h => h
theorem Mild.kept {B : Nat} {kt : TypeId → Prop} {A A' : World} (h : Mild B A A') : Kept kt A A' := fun i cs t z _ e => h.cells i cs t z e
/-- What an iterator promises: each round is asked in a world that has grown out of one in which the caller's invariant held, and Fact holds of what it is handed. -/
def Tells {α : Type} (P : Program) (gf : Nat) (lb : Array Value) (encs : α → Array Value) (Src : World → Prop) (Fact : List α → α → World → World → Prop) (S : List α → Prop) (kt : TypeId → Prop) : Prop :=
 ∀ (l : Nat) (J Jx : List α → World → Prop) (W : World), (∀ pre A, J pre A → Src A) → (∀ pre A A', J pre A → Below A.heap.size A A' → J pre A') →
  (∀ pre x A₀ A, J pre A₀ → Below A₀.heap.size A₀ A → Fact pre x A₀ A → YieldAt Fence.wide 0 P l (encs x) A fun e A' => (e = .returned (.bool true) ∧ J (pre ++ [x]) A' ∧ Kept kt A A') ∨ (e = .returned (.bool false) ∧ Jx (pre ++ [x]) A')) →
  J [] W → CallsIn Fence.wide 0 P gf (#[.func (.yield l) #[] #[]] ++ lb) W fun e A => (∃ v, e = .returned v) ∧ ((∃ xs, S xs ∧ J xs A) ∨ ∃ pre, Jx pre A)
/-- How a round's body ends. -/
def roundEnds {α : Type} (B : Nat) (kt : TypeId → Prop) (I Ix : List α → World → Prop) (xs : List α) (A : World) : Exit → Act → World → Prop
 | .normal, _, A' => KeepsFrom B A A' ∧ I xs A' ∧ Kept kt A A'
 | .ret, _, A' => KeepsFrom B A A' ∧ Ix xs A'
 | _, _, _ => False
theorem range {P : Program} {α : Type} {g : Operand} {ps : Array Tmp} {assign body : Code} {Q : Exit → Act → World → Prop} {a : Act} {w : World}
 {gf : Nat} {lb : Array Value} (hg : a.eval g = .func (.func gf) #[] lb) (eg : ∀ args w, (callFunc gf args).run P w = .ok (.enter gf args) w)
 {encs : α → Array Value} {Src : World → Prop} {Fact : List α → α → World → World → Prop} {S : List α → Prop} {kt : TypeId → Prop} (T : Tells P gf lb encs Src Fact S kt) (hps : ∀ x, (encs x).size = ps.size)
 (I Ix : List α → World → Prop) (Ax : List α → α → Act → World → Prop) (hS : ∀ pre A, I pre A → Src A)
 (hI : ∀ pre A A', I pre A → Mild w.heap.size A A' → I pre A') (hIx : ∀ pre A A', Ix pre A → Mild w.heap.size A A' → Ix pre A')
 (hA : ∀ pre x a₁ A A', Ax pre x a₁ A → Mild w.heap.size A A' → Ax pre x a₁ A') (h0 : I [] w)
 (hassign : ∀ (l : Nat) (pre : List α) (x : α) (A₀ A : World) (K : Act → World → Prop), I pre A₀ → Below A₀.heap.size A₀ A → Fact pre x A₀ A → (∀ a₁ A₁, KeepsFrom w.heap.size A A₁ → Kept kt A A₁ → Ax pre x a₁ A₁ → K a₁ A₁) →
  assign.wpIn (Fence.wide.inRound l) 0 P (Exit.then K (fun _ _ _ => False)) { tmps := (ps.zip (encs x)).foldl (fun t (p, v) => t.setIfInBounds p v) a.tmps, defers := [] } A)
 (hbody : ∀ (l : Nat) (pre : List α) (x : α) (a₁ : Act) (A : World), Ax pre x a₁ A → body.wpIn (Fence.wide.inRound l) 0 P (roundEnds w.heap.size kt I Ix (pre ++ [x]) A) a₁ A)
 (hdone : ∀ (D : Nat) (xs : List α) (A : World), w.heap.size ≤ D → S xs → I xs A → A.heap[D]? = some (.deferred (some [])) → Q .normal { a with defers := { target := .collected D, args := #[] } :: a.defers } A)
 (hstop : ∀ (D : Nat) (pre : List α) (A : World), w.heap.size ≤ D → Ix pre A → A.heap[D]? = some (.deferred (some [])) → Q .ret { a with defers := { target := .collected D, args := #[] } :: a.defers } A) :
 (Code.rangeFunc g ps assign body).wpIn Fence.wide 0 P Q a w := by
 refine wpIn_rangeFunc ?_
 intro fn hfn
 obtain ⟨rec, hrec⟩ : ∃ rec : LoopState → Option Code → Loop, rec = fun st pe => { state := st, pending := pe, fn, tmps := a.tmps, params := ps, assign, body, defers := w.heap.size } := ⟨_, rfl⟩
 obtain ⟨l, el⟩ : ∃ l, l = w.heap.size + 1 := ⟨_, rfl⟩
 obtain ⟨W1, hW1⟩ : ∃ W1, (w.alloc (.deferred (some []))).alloc (.loop (rec .ready none)) = W1 := ⟨_, rfl⟩
 have hL1 : W1.heap[l]? = some (.loop (rec .ready none)) := by
  have h := World.alloc_heap_new (w.alloc (.deferred (some []))) (.loop (rec .ready none))
  rw [World.size_alloc] at h
  rw [← hW1, el]
  exact h
 have hK1 : W1.heap[w.heap.size]? = some (.deferred (some [])) := by
  rw [← hW1]
  exact (Below.heap_alloc _ _ _ (by simp)).trans (World.alloc_heap_new w _)
 have hI1 : I [] W1 := by
  rw [← hW1]
  exact hI _ _ _ h0 ((Mild.alloc w _).trans (Mild.alloc _ _))
 refine ⟨l, [{ target := .collected w.heap.size, args := #[] }], W1, { target := .fn (.func gf) lb, args := #[.func (.yield l) #[] #[]] }, W1, gf, #[.func (.yield l) #[] #[]] ++ lb, W1, ?_, ?_, fun f' _ => trivial, ?_, (fun h => by cases h), ?_⟩
 · rw [← hW1, hrec, el]
   exact run_enterLoop_outer _ _ _ _ _
 · simp only [resolve, hg]
   simp [go_sem]
 · simp [invoke, go_sem, eg]
 · refine (T l (fun pre A => I pre A ∧ A.heap[l]? = some (.loop (rec .ready none)) ∧ A.heap[w.heap.size]? = some (.deferred (some [])))
    (fun pre A => Ix pre A ∧ A.heap[l]? = some (.loop (rec .done (some .ret))) ∧ A.heap[w.heap.size]? = some (.deferred (some []))) W1
    (fun pre A h => hS pre A h.1)
    (fun pre A A' h hb => ⟨hI _ _ _ h.1 (Mild.of_below hb), (hb.block l (lt_of_some h.2.1)).trans h.2.1, (hb.block _ (lt_of_some h.2.2)).trans h.2.2⟩) ?_ ⟨hI1, hL1, hK1⟩).mono ?_
   · rintro pre x A₀ A ⟨hi, hl0, hk0⟩ hb0 hf
     have hl := (hb0.block l (lt_of_some hl0)).trans hl0
     have hk := (hb0.block _ (lt_of_some hk0)).trans hk0
     have hy := run_yield (P := P) (args := encs x) hl (by rw [hrec]; exact hps x)
     rw [hrec] at hy
     refine ⟨fn, _, assign, body, hy, roundIn_of_wpIn hfn (hassign l pre x A₀ A _ hi hb0 hf fun a₁ A₁ hk1 hk1' hax => ?_)⟩
     have hl1 := hk1.same l _ (by omega) hl rfl
     have hd1 := hk1.same w.heap.size _ (Nat.le_refl _) hk rfl
     have hlt1 := lt_of_some hl1
     obtain ⟨A₂, hA2⟩ : ∃ A₂, A₁.putObj l (.loop { rec .ready none with state := .busy }) = A₂ := ⟨_, rfl⟩
     refine ⟨A₂, by rw [← hA2]; exact run_beginRound hl1 (by rw [hrec]), ?_⟩
     have hl2 : A₂.heap[l]? = some (.loop { rec .ready none with state := .busy }) := by rw [← hA2]; exact World.putObj_heap_same hlt1
     have hd2 : A₂.heap[w.heap.size]? = some (.deferred (some [])) := by rw [← hA2]; exact (World.putObj_heap_other (by omega)).trans hd1
     have hkt2 : Kept kt A A₂ := hk1'.trans (by rw [← hA2]; exact (Mild.put (B := w.heap.size) _ (by omega) hl1 rfl).kept)
     have hax2 : Ax pre x a₁ A₂ := by rw [← hA2]; exact hA _ _ _ _ _ hax (Mild.put _ (by omega) hl1 rfl)
     refine wpIn_mono (hbody l pre x a₁ A₂ hax2) ?_
     have fin : ∀ (jump : Option Code) (A₃ : World), KeepsFrom w.heap.size A₂ A₃ → ∃ A₄, (Instr.endRound l jump).run P A₃ = .ok (.bool jump.isNone) A₄ ∧ Mild w.heap.size A₃ A₄ ∧
      A₄.heap[l]? = some (.loop (rec (if jump.isNone then .ready else .done) jump)) ∧ A₄.heap[w.heap.size]? = some (.deferred (some [])) := fun jump A₃ h3 => by
      have hl3 := h3.same l _ (by omega) hl2 rfl
      have hd3 := h3.same w.heap.size _ (Nat.le_refl _) hd2 rfl
      have hr := run_endRound (P := P) jump hl3
      rw [hrec] at hr ⊢
      exact ⟨_, hr, Mild.put _ (by omega) hl3 rfl, World.putObj_heap_same (lt_of_some hl3), (World.putObj_heap_other (by omega)).trans hd3⟩
     rintro e a3 A₃ hp
     cases e with
     | normal =>
      obtain ⟨A₄, hr, hm, hl4, hd4⟩ := fin none A₃ hp.1
      exact ⟨_, _, hr, .inl ⟨rfl, ⟨hI _ _ _ hp.2.1 hm, hl4, hd4⟩, (hkt2.trans hp.2.2).trans hm.kept⟩⟩
     | ret =>
      obtain ⟨A₄, hr, hm, hl4, hd4⟩ := fin (some .ret) A₃ hp.1
      exact ⟨_, _, hr, .inr ⟨rfl, hIx _ _ _ hp.2 hm, hl4, hd4⟩⟩
     | exit id => exact hp.elim
     | goto t => exact hp.elim
     | panic ch => exact hp.elim
     | outgrown => exact hp.elim
   · rintro e A ⟨⟨v, rfl⟩, (⟨xs, hs, hi, hl, hk⟩ | ⟨pre, hi, hl, hk⟩)⟩
     · refine ⟨none, _, by have := run_endLoop (P := P) hl (by rw [hrec]; simp); rw [hrec] at this; exact this, hdone _ xs _ (Nat.le_refl _) hs (hI _ _ _ hi (Mild.put _ (by omega) hl rfl)) ((World.putObj_heap_other (by omega)).trans hk)⟩
     · refine ⟨some .ret, _, by have := run_endLoop (P := P) hl (by rw [hrec]; simp); rw [hrec] at this; exact this, wpIn_ret (hstop _ pre _ (Nat.le_refl _) (hIx _ _ _ hi (Mild.put _ (by omega) hl rfl)) ((World.putObj_heap_other (by omega)).trans hk))⟩
end Go.Proofs.YtggilenddbobnaaGreat.Rng
namespace Go.Proofs
open Go.Shelf
def Tryz.keysM_ren : Go.Shelf.Ren := ⟨fun | 7 => 127 | 10 => 134 | n => n, fun | 23 => 108 | 26 => 9 | 3 => 3 | 28 => 142 | 0 => 0 | 27 => 141 | 33 => 147 | 4 => 4 | n => n, fun | n => n⟩
theorem Tryz.keysM : Go.Proofs.SlLaysZ.n7 Tryz.prog Tryz.keysM_ren := {
 mixed := by kernel_rfl
 f7 := ⟨Tryz.f127.name, by decide, Tryz.func127.trans (congrArg some (by kernel_rfl))⟩
 f10 := ⟨Tryz.f134.name, by decide, Tryz.func134.trans (congrArg some (by kernel_rfl))⟩
 t0 := Tryz.underlying0
 a0 := Tryz.isAgg0
 z0 := Tryz.sizeOf0
 v0 := Tryz.zeroValue0
 t4 := Tryz.underlying4
 a4 := Tryz.isAgg4
 z4 := Tryz.sizeOf4
 v4 := Tryz.zeroValue4
 t23 := Tryz.underlying108
 a23 := Tryz.isAgg108
 z23 := Tryz.sizeOf108
 v23 := Tryz.zeroValue108
 t26 := Tryz.underlying9
 a26 := Tryz.isAgg9
 z26 := Tryz.sizeOf9
 v26 := Tryz.zeroValue9
 t27 := Tryz.underlying141
 a27 := Tryz.isAgg141
 z27 := Tryz.sizeOf141
 v27 := Tryz.zeroValue141
 t28 := Tryz.underlying142
 a28 := Tryz.isAgg142
 z28 := Tryz.sizeOf142
 v28 := Tryz.zeroValue142
 t33 := Tryz.underlying147
 a33 := Tryz.isAgg147
 z33 := Tryz.sizeOf147
 v33 := Tryz.zeroValue147 }
def Tryz.sortedS_ren : Go.Shelf.Ren := ⟨fun | 6 => 126 | 8 => 132 | 9 => 133 | 11 => 138 | 13 => 137 | 12 => 139 | 23 => 148 | 24 => 149 | 14 => 150 | 15 => 151 | 16 => 152 | 17 => 153 | 18 => 154 | 19 => 155 | 20 => 156 | 21 => 157 | 22 => 158 | 25 => 164 | 26 => 160 | 27 => 161 | 28 => 165 | 29 => 166 | 30 => 167 | 31 => 169 | n => n, fun | 26 => 9 | 28 => 142 | 24 => 139 | 0 => 0 | 3 => 3 | 37 => 133 | 48 => 161 | 50 => 163 | 4 => 4 | 40 => 155 | 39 => 154 | 45 => 92 | 5 => 5 | 9 => 9 | 51 => 170 | 55 => 174 | 57 => 178 | 58 => 179 | 33 => 147 | n => n, fun | n => n⟩
theorem Tryz.sortedS : Go.Proofs.SlLaysZ.n6 Tryz.prog Tryz.sortedS_ren := {
 mixed := by kernel_rfl
 f6 := ⟨Tryz.f126.name, by decide, Tryz.func126.trans (congrArg some (by kernel_rfl))⟩
 f8 := ⟨Tryz.f132.name, by decide, Tryz.func132.trans (congrArg some (by kernel_rfl))⟩
 f11 := ⟨Tryz.f138.name, by decide, Tryz.func138.trans (congrArg some (by kernel_rfl))⟩
 t0 := Tryz.underlying0
 a0 := Tryz.isAgg0
 z0 := Tryz.sizeOf0
 v0 := Tryz.zeroValue0
 t24 := Tryz.underlying139
 a24 := Tryz.isAgg139
 z24 := Tryz.sizeOf139
 v24 := Tryz.zeroValue139
 t26 := Tryz.underlying9
 a26 := Tryz.isAgg9
 z26 := Tryz.sizeOf9
 v26 := Tryz.zeroValue9
 t28 := Tryz.underlying142
 a28 := Tryz.isAgg142
 z28 := Tryz.sizeOf142
 v28 := Tryz.zeroValue142
 i26 := by kernel_rfl }
def Tryz.sortS_ren : Go.Shelf.Ren := ⟨fun | 6 => 133 | 8 => 137 | 9 => 139 | 19 => 148 | 20 => 149 | 21 => 150 | 22 => 151 | 23 => 152 | 24 => 153 | 25 => 154 | 26 => 155 | 27 => 156 | 28 => 157 | 29 => 158 | 36 => 164 | 31 => 160 | 32 => 161 | 37 => 165 | 38 => 166 | 39 => 167 | 41 => 169 | n => n, fun | 27 => 139 | 29 => 9 | 3 => 3 | 32 => 133 | 26 => 139 | 0 => 0 | 44 => 161 | 46 => 163 | 4 => 4 | 36 => 155 | 35 => 154 | 41 => 92 | 5 => 5 | 9 => 9 | 53 => 170 | 57 => 174 | 63 => 178 | 64 => 179 | n => n, fun | n => n⟩
theorem Tryz.sortS : Go.Proofs.SlLaysM.n6 Tryz.prog Tryz.sortS_ren := {
 mixed := by kernel_rfl
 f6 := ⟨Tryz.f133.name, by decide, Tryz.func133.trans (congrArg some (by kernel_rfl))⟩
 f8 := Tryz.func137.trans (congrArg some (by kernel_rfl))
 f9 := ⟨Tryz.f139.name, by decide, Tryz.func139.trans (congrArg some (by kernel_rfl))⟩
 f19 := Tryz.func148.trans (congrArg some (by kernel_rfl))
 f20 := Tryz.func149.trans (congrArg some (by kernel_rfl))
 f21 := ⟨Tryz.f150.name, by decide, Tryz.func150.trans (congrArg some (by kernel_rfl))⟩
 f22 := ⟨Tryz.f151.name, by decide, Tryz.func151.trans (congrArg some (by kernel_rfl))⟩
 f23 := ⟨Tryz.f152.name, by decide, Tryz.func152.trans (congrArg some (by kernel_rfl))⟩
 f24 := ⟨Tryz.f153.name, by decide, Tryz.func153.trans (congrArg some (by kernel_rfl))⟩
 f25 := ⟨Tryz.f154.name, by decide, Tryz.func154.trans (congrArg some (by kernel_rfl))⟩
 f26 := ⟨Tryz.f155.name, by decide, Tryz.func155.trans (congrArg some (by kernel_rfl))⟩
 f27 := ⟨Tryz.f156.name, by decide, Tryz.func156.trans (congrArg some (by kernel_rfl))⟩
 f28 := ⟨Tryz.f157.name, by decide, Tryz.func157.trans (congrArg some (by kernel_rfl))⟩
 f29 := ⟨Tryz.f158.name, by decide, Tryz.func158.trans (congrArg some (by kernel_rfl))⟩
 f31 := Tryz.func160.trans (congrArg some (by kernel_rfl))
 f32 := Tryz.func161.trans (congrArg some (by kernel_rfl))
 f36 := ⟨Tryz.f164.name, by decide, Tryz.func164.trans (congrArg some (by kernel_rfl))⟩
 f37 := ⟨Tryz.f165.name, by decide, Tryz.func165.trans (congrArg some (by kernel_rfl))⟩
 f38 := ⟨Tryz.f166.name, by decide, Tryz.func166.trans (congrArg some (by kernel_rfl))⟩
 f39 := ⟨Tryz.f167.name, by decide, Tryz.func167.trans (congrArg some (by kernel_rfl))⟩
 f41 := ⟨Tryz.f169.name, by decide, Tryz.func169.trans (congrArg some (by kernel_rfl))⟩
 t0 := Tryz.underlying0
 a0 := Tryz.isAgg0
 z0 := Tryz.sizeOf0
 v0 := Tryz.zeroValue0
 t3 := Tryz.underlying3
 a3 := Tryz.isAgg3
 z3 := Tryz.sizeOf3
 v3 := Tryz.zeroValue3
 t4 := Tryz.underlying4
 a4 := Tryz.isAgg4
 z4 := Tryz.sizeOf4
 v4 := Tryz.zeroValue4
 t5 := Tryz.underlying5
 a5 := Tryz.isAgg5
 z5 := Tryz.sizeOf5
 v5 := Tryz.zeroValue5
 t9 := Tryz.underlying9
 a9 := Tryz.isAgg9
 z9 := Tryz.sizeOf9
 v9 := Tryz.zeroValue9
 t26 := Tryz.underlying139
 a26 := Tryz.isAgg139
 z26 := Tryz.sizeOf139
 v26 := Tryz.zeroValue139
 t27 := Tryz.underlying139
 a27 := Tryz.isAgg139
 z27 := Tryz.sizeOf139
 v27 := Tryz.zeroValue139
 t29 := Tryz.underlying9
 a29 := Tryz.isAgg9
 z29 := Tryz.sizeOf9
 v29 := Tryz.zeroValue9
 t32 := Tryz.underlying133
 a32 := Tryz.isAgg133
 z32 := Tryz.sizeOf133
 v32 := Tryz.zeroValue133
 t35 := Tryz.underlying154
 a35 := Tryz.isAgg154
 z35 := Tryz.sizeOf154
 v35 := Tryz.zeroValue154
 t36 := Tryz.underlying155
 a36 := Tryz.isAgg155
 z36 := Tryz.sizeOf155
 v36 := Tryz.zeroValue155
 t41 := Tryz.underlying92
 a41 := Tryz.isAgg92
 z41 := Tryz.sizeOf92
 v41 := Tryz.zeroValue92
 t44 := Tryz.underlying161
 a44 := Tryz.isAgg161
 z44 := Tryz.sizeOf161
 v44 := Tryz.zeroValue161
 t46 := Tryz.underlying163
 a46 := Tryz.isAgg163
 z46 := Tryz.sizeOf163
 v46 := Tryz.zeroValue163
 t53 := Tryz.underlying170
 a53 := Tryz.isAgg170
 z53 := Tryz.sizeOf170
 v53 := Tryz.zeroValue170
 t57 := Tryz.underlying174
 a57 := Tryz.isAgg174
 z57 := Tryz.sizeOf174
 v57 := Tryz.zeroValue174
 t63 := Tryz.underlying178
 a63 := Tryz.isAgg178
 z63 := Tryz.sizeOf178
 v63 := Tryz.zeroValue178
 t64 := Tryz.underlying179
 a64 := Tryz.isAgg179
 z64 := Tryz.sizeOf179
 v64 := Tryz.zeroValue179 }
def Tryz.sortI_ren : Go.Shelf.Ren := ⟨fun | 5 => 130 | 8 => 137 | 7 => 136 | 19 => 148 | 20 => 149 | 10 => 140 | 11 => 141 | 12 => 142 | 13 => 143 | 14 => 144 | 15 => 145 | 16 => 122 | 17 => 146 | 18 => 147 | 30 => 159 | 31 => 160 | 32 => 161 | 33 => 162 | 34 => 163 | 35 => 101 | 40 => 168 | n => n, fun | 23 => 73 | 25 => 3 | 3 => 3 | 32 => 133 | 22 => 73 | 0 => 0 | 44 => 161 | 46 => 163 | 4 => 4 | 36 => 155 | 35 => 154 | 41 => 92 | 5 => 5 | 9 => 9 | 53 => 170 | 57 => 174 | 63 => 178 | 64 => 179 | n => n, fun | n => n⟩
theorem Tryz.sortI : Go.Proofs.SlLaysM.n5 Tryz.prog Tryz.sortI_ren := {
 mixed := by kernel_rfl
 f5 := ⟨Tryz.f130.name, by decide, Tryz.func130.trans (congrArg some (by kernel_rfl))⟩
 f7 := ⟨Tryz.f136.name, by decide, Tryz.func136.trans (congrArg some (by kernel_rfl))⟩
 f8 := Tryz.func137.trans (congrArg some (by kernel_rfl))
 f10 := ⟨Tryz.f140.name, by decide, Tryz.func140.trans (congrArg some (by kernel_rfl))⟩
 f11 := ⟨Tryz.f141.name, by decide, Tryz.func141.trans (congrArg some (by kernel_rfl))⟩
 f12 := ⟨Tryz.f142.name, by decide, Tryz.func142.trans (congrArg some (by kernel_rfl))⟩
 f13 := ⟨Tryz.f143.name, by decide, Tryz.func143.trans (congrArg some (by kernel_rfl))⟩
 f14 := ⟨Tryz.f144.name, by decide, Tryz.func144.trans (congrArg some (by kernel_rfl))⟩
 f15 := ⟨Tryz.f145.name, by decide, Tryz.func145.trans (congrArg some (by kernel_rfl))⟩
 f16 := ⟨Tryz.f122.name, by decide, Tryz.func122.trans (congrArg some (by kernel_rfl))⟩
 f17 := ⟨Tryz.f146.name, by decide, Tryz.func146.trans (congrArg some (by kernel_rfl))⟩
 f18 := ⟨Tryz.f147.name, by decide, Tryz.func147.trans (congrArg some (by kernel_rfl))⟩
 f19 := Tryz.func148.trans (congrArg some (by kernel_rfl))
 f20 := Tryz.func149.trans (congrArg some (by kernel_rfl))
 f30 := ⟨Tryz.f159.name, by decide, Tryz.func159.trans (congrArg some (by kernel_rfl))⟩
 f31 := Tryz.func160.trans (congrArg some (by kernel_rfl))
 f32 := Tryz.func161.trans (congrArg some (by kernel_rfl))
 f33 := ⟨Tryz.f162.name, by decide, Tryz.func162.trans (congrArg some (by kernel_rfl))⟩
 f34 := ⟨Tryz.f163.name, by decide, Tryz.func163.trans (congrArg some (by kernel_rfl))⟩
 f35 := ⟨Tryz.f101.name, by decide, Tryz.func101.trans (congrArg some (by kernel_rfl))⟩
 f40 := ⟨Tryz.f168.name, by decide, Tryz.func168.trans (congrArg some (by kernel_rfl))⟩
 t0 := Tryz.underlying0
 a0 := Tryz.isAgg0
 z0 := Tryz.sizeOf0
 v0 := Tryz.zeroValue0
 t3 := Tryz.underlying3
 a3 := Tryz.isAgg3
 z3 := Tryz.sizeOf3
 v3 := Tryz.zeroValue3
 t4 := Tryz.underlying4
 a4 := Tryz.isAgg4
 z4 := Tryz.sizeOf4
 v4 := Tryz.zeroValue4
 t5 := Tryz.underlying5
 a5 := Tryz.isAgg5
 z5 := Tryz.sizeOf5
 v5 := Tryz.zeroValue5
 t9 := Tryz.underlying9
 a9 := Tryz.isAgg9
 z9 := Tryz.sizeOf9
 v9 := Tryz.zeroValue9
 t22 := Tryz.underlying73
 a22 := Tryz.isAgg73
 z22 := Tryz.sizeOf73
 v22 := Tryz.zeroValue73
 t23 := Tryz.underlying73
 a23 := Tryz.isAgg73
 z23 := Tryz.sizeOf73
 v23 := Tryz.zeroValue73
 t25 := Tryz.underlying3
 a25 := Tryz.isAgg3
 z25 := Tryz.sizeOf3
 v25 := Tryz.zeroValue3
 t32 := Tryz.underlying133
 a32 := Tryz.isAgg133
 z32 := Tryz.sizeOf133
 v32 := Tryz.zeroValue133
 t35 := Tryz.underlying154
 a35 := Tryz.isAgg154
 z35 := Tryz.sizeOf154
 v35 := Tryz.zeroValue154
 t36 := Tryz.underlying155
 a36 := Tryz.isAgg155
 z36 := Tryz.sizeOf155
 v36 := Tryz.zeroValue155
 t41 := Tryz.underlying92
 a41 := Tryz.isAgg92
 z41 := Tryz.sizeOf92
 v41 := Tryz.zeroValue92
 t44 := Tryz.underlying161
 a44 := Tryz.isAgg161
 z44 := Tryz.sizeOf161
 v44 := Tryz.zeroValue161
 t46 := Tryz.underlying163
 a46 := Tryz.isAgg163
 z46 := Tryz.sizeOf163
 v46 := Tryz.zeroValue163
 t53 := Tryz.underlying170
 a53 := Tryz.isAgg170
 z53 := Tryz.sizeOf170
 v53 := Tryz.zeroValue170
 t57 := Tryz.underlying174
 a57 := Tryz.isAgg174
 z57 := Tryz.sizeOf174
 v57 := Tryz.zeroValue174
 t63 := Tryz.underlying178
 a63 := Tryz.isAgg178
 z63 := Tryz.sizeOf178
 v63 := Tryz.zeroValue178
 t64 := Tryz.underlying179
 a64 := Tryz.isAgg179
 z64 := Tryz.sizeOf179
 v64 := Tryz.zeroValue179 }
end Go.Proofs
