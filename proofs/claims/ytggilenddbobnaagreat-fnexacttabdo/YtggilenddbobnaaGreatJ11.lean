/-
  What is plain bit by bit: the specification's l5Half, l5Bits.
  One element appended to a slice that the call made, over any program and any type of elements: where the new row lies is told.
  Atoms as data: slices that hold them; contracts of the laws' own szTabTab and eqTabTab.
  The laws' own eqTabTab and toTabTab.
-/
import Derived.Test.YtggilenddbobnaaGreatAl
import Derived.Test.YtggilenddbobnaaGreatJ10
import Derived.Test.YtggilenddbobnaaGreatJ05
import Derived.ArgAppend
import Derived.OrdersIn
import Derived.Test.YtggilenddbobnaaGreatJ04
namespace Go.Proofs.YtggilenddbobnaaGreat.Tab
set_option linter.unusedVariables false
set_option linter.unusedSimpArgs false
open Go.ChangeShapes Go.WideShapes Go.ChangeAt Go.RowKit IntS Pol
theorem two_at {w u y : World} {Z : Nat} {a : Option Addr} {l c lo hi : Nat} {p : List Mono} (hz : w.heap.size ≤ Z) (hl : Z < lo) (hh : hi ≤ u.heap.size) (W : WPoly u lo hi (.slice a l c) p) (bw : Below w.heap.size w u) (t : Turn Z u y) (b : Bool) : Two2 w y (.returned (.tuple #[.agg #[.slice a l c], .bool b])) p b :=
 ⟨⟨a, l, c, rfl, (W.keep (Keep.of_turn t) (fun b' h1 h2 (h3 : b' = _) => by omega)).wide (by omega) (Nat.le_trans hh t.size)⟩, bw.trans (t.below hz bw.size)⟩
theorem two_none {w u y : World} {Z : Nat} (hz : w.heap.size ≤ Z) (bw : Below w.heap.size w u) (t : Turn Z u y) (b : Bool) : Two2 w y (.returned (.tuple #[.agg #[.slice none 0 0], .bool b])) [] b :=
 ⟨⟨none, 0, 0, rfl, WPoly.nil _ _ _⟩, bw.trans (t.below hz bw.size)⟩
set_option maxRecDepth 8000 in
set_option maxHeartbeats 8000000 in
theorem l5Half (op n : Int) (y : List Mono) (By : Nat) (vy : Value) (w : World) (hy : PRow w By vy y) (ho : op = 4 ∨ op = 5) (hl : y.length ≤ 1000) (ha : ∀ x ∈ y, x.2.length ≤ 1000000) :
 Calls Tryz.prog 85 #[.int .i64 op, .int .i64 n, .agg #[vy]] w fun e w' => Two2 w w' e (halfP op n y) (halfB op n) := by
 have b1 : Below w.heap.size w ((w.alloc (.cells #[vy] 35)).alloc (.cells #[.slice none 0 0] 35)) := ((Below.refl _ _).alloc (Nat.le_refl _) _).alloc (by simp) _
 have RY := hide ((Rec.new w [vy] 35).alloc (.cells #[.slice none 0 0] 35))
 have R2 := Rec.new (w.alloc (.cells #[vy] 35)) [.slice none 0 0] 35
 rw [show (w.alloc (.cells #[vy] 35)).heap.size = w.heap.size + 1 by simp] at R2
 have RZ := hide R2
 have HY := hide (hy.below b1)
 have BW := hide b1
 have HA := hide ha
 obtain ⟨qy, cy, _, rfl, _⟩ := hy
 clear b1 R2 ha
 rcases ho with rfl | rfl
 · by_cases n0 : n = 0
   · subst n0
     have HD : Hid ([] = halfP 4 0 y ∧ true = halfB 4 0) := show _ ∧ _ by simp [halfP, halfB]
     have TF := hide (two_cast ⟨⟨none, 0, 0, rfl, WPoly.nil _ _ _⟩, BW.out⟩ HD.out.1 HD.out.2 : Two2 w ((w.alloc (.cells #[.slice qy y.length cy] 35)).alloc (.cells #[.slice none 0 0] 35)) (.returned (.tuple #[.agg #[.slice none 0 0], .bool true])) (halfP 4 0 y) (halfB 4 0))
     have z9 := RZ.out.cell 0 _ rfl
     clear RZ RY HY BW
     go_enter Tryz.func85, Tryz.ntmps85
     go_wp2
     exact bodyPost_ret (v := .tuple #[.agg #[.slice none 0 0], .bool true]) (by simp [results, Tryz.results85, go_sem, z9]) rfl TF.out
   by_cases n1 : n = 65535
   · subst n1
     go_enter Tryz.func85, Tryz.ntmps85
     go_wp2_with fail
     generalize ((w.alloc (.cells #[.slice qy y.length cy] 35)).alloc (.cells #[.slice none 0 0] 35)) = V at RY RZ HY BW ⊢
     have y0 := RY.out.cell 0 _ rfl
     have VL : Hid (w.heap.size + 1 < V.heap.size) := RZ.out.lt
     go_wp2_with fail
     refine (l4Copy y By _ _ HY.out hl HA.out).mono ?_
     rintro e u1 ⟨pa, pl, pc, rfl, MW, hb⟩
     clear y0
     replace RZ := hide (RZ.out.below hb)
     replace BW := hide (BW.out.trans (hb.mono BW.out.size))
     replace MW := hide MW
     clear hb HY RY
     have o0 := RZ.out.cell 0 _ rfl
     have s0 := RZ.out.soft 0
     have TN : Turn (w.heap.size + 1) u1 (u1.setCell ⟨w.heap.size + 1, 0, none⟩ (.slice pa pl pc)) := (Turn.refl _ u1).setCell (p := ⟨w.heap.size + 1, 0, none⟩) rfl _
     have ZF := hide (RZ.out.set 0 (.slice pa pl pc) (by simp) rfl)
     have TF := hide (two_cast (two_at (Z := w.heap.size + 1) (by omega) VL.out (Nat.le_refl _) MW.out BW.out TN true) (show y = halfP 4 65535 y from by simp [halfP]) (show true = halfB 4 65535 from by simp [halfB]))
     clear TN
     go_wp2
     generalize u1.setCell ⟨w.heap.size + 1, 0, none⟩ (.slice pa pl pc) = y9 at ZF TF ⊢
     have z9 := ZF.out.cell 0 _ rfl
     exact bodyPost_ret (v := .tuple #[.agg #[.slice pa pl pc], .bool true]) (by simp [results, Tryz.results85, go_sem, z9]) rfl TF.out
   have g0 : (n == 0) = false := beq_eq_false_iff_ne.2 n0
   have g1 : (n == 65535) = false := beq_eq_false_iff_ne.2 n1
   have HD : Hid ([] = halfP 4 n y ∧ false = halfB 4 n) := show _ ∧ _ by simp [halfP, halfB, n0, n1]
   have TF := hide (two_cast ⟨⟨none, 0, 0, rfl, WPoly.nil _ _ _⟩, BW.out⟩ HD.out.1 HD.out.2 : Two2 w ((w.alloc (.cells #[.slice qy y.length cy] 35)).alloc (.cells #[.slice none 0 0] 35)) (.returned (.tuple #[.agg #[.slice none 0 0], .bool false])) (halfP 4 n y) (halfB 4 n))
   have z9 := RZ.out.cell 0 _ rfl
   clear RZ RY HY BW
   go_enter Tryz.func85, Tryz.ntmps85
   go_wp2
   exact bodyPost_ret (v := .tuple #[.agg #[.slice none 0 0], .bool false]) (by simp [results, Tryz.results85, go_sem, z9]) rfl TF.out
 · by_cases n0 : n = 0
   · subst n0
     go_enter Tryz.func85, Tryz.ntmps85
     go_wp2_with fail
     generalize ((w.alloc (.cells #[.slice qy y.length cy] 35)).alloc (.cells #[.slice none 0 0] 35)) = V at RY RZ HY BW ⊢
     have y0 := RY.out.cell 0 _ rfl
     have VL : Hid (w.heap.size + 1 < V.heap.size) := RZ.out.lt
     go_wp2_with fail
     refine (l4Copy y By _ _ HY.out hl HA.out).mono ?_
     rintro e u1 ⟨pa, pl, pc, rfl, MW, hb⟩
     clear y0
     replace RZ := hide (RZ.out.below hb)
     replace BW := hide (BW.out.trans (hb.mono BW.out.size))
     replace MW := hide MW
     clear hb HY RY
     have o0 := RZ.out.cell 0 _ rfl
     have s0 := RZ.out.soft 0
     have TN : Turn (w.heap.size + 1) u1 (u1.setCell ⟨w.heap.size + 1, 0, none⟩ (.slice pa pl pc)) := (Turn.refl _ u1).setCell (p := ⟨w.heap.size + 1, 0, none⟩) rfl _
     have ZF := hide (RZ.out.set 0 (.slice pa pl pc) (by simp) rfl)
     have TF := hide (two_cast (two_at (Z := w.heap.size + 1) (by omega) VL.out (Nat.le_refl _) MW.out BW.out TN true) (show y = halfP 5 0 y from by simp [halfP]) (show true = halfB 5 0 from by simp [halfB]))
     clear TN
     go_wp2
     generalize u1.setCell ⟨w.heap.size + 1, 0, none⟩ (.slice pa pl pc) = y9 at ZF TF ⊢
     have z9 := ZF.out.cell 0 _ rfl
     exact bodyPost_ret (v := .tuple #[.agg #[.slice pa pl pc], .bool true]) (by simp [results, Tryz.results85, go_sem, z9]) rfl TF.out
   have g0 : (n == 0) = false := beq_eq_false_iff_ne.2 n0
   have HD : Hid ([] = halfP 5 n y ∧ false = halfB 5 n) := show _ ∧ _ by simp [halfP, halfB, n0]
   have TF := hide (two_cast ⟨⟨none, 0, 0, rfl, WPoly.nil _ _ _⟩, BW.out⟩ HD.out.1 HD.out.2 : Two2 w ((w.alloc (.cells #[.slice qy y.length cy] 35)).alloc (.cells #[.slice none 0 0] 35)) (.returned (.tuple #[.agg #[.slice none 0 0], .bool false])) (halfP 5 n y) (halfB 5 n))
   have z9 := RZ.out.cell 0 _ rfl
   clear RZ RY HY BW
   go_enter Tryz.func85, Tryz.ntmps85
   go_wp2
   exact bodyPost_ret (v := .tuple #[.agg #[.slice none 0 0], .bool false]) (by simp [results, Tryz.results85, go_sem, z9]) rfl TF.out
theorem fine_len {x : List Mono} (h : okP x = true) : x.length ≤ 1000 ∧ ∀ m ∈ x, m.2.length ≤ 1000000 := ⟨by have := ok_len h; omega, fun m hm => by have := ok_atoms h hm; omega⟩
set_option maxRecDepth 8000 in
set_option maxHeartbeats 16000000 in
theorem l5Bits (op : Int) (x y : List Mono) (Bx By : Nat) (vx vy : Value) (w : World) (hx : PRow w Bx vx x) (hy : PRow w By vy y) (ho : op = 4 ∨ op = 5) (ox : okP x = true) (oy : okP y = true) :
 Calls Tryz.prog 46 #[.int .i64 op, .agg #[vx], .agg #[vy]] w fun e w' => Two2 w w' e (bitsP op x y) (bitsB op x y) := by
 obtain ⟨qx, cx, offx, rfl, hx'⟩ := hx
 obtain ⟨qy, cy, offy, rfl, hy'⟩ := hy
 have hx : PRow w Bx (.slice qx x.length cx) x := ⟨qx, cx, offx, rfl, hx'⟩
 have hy : PRow w By (.slice qy y.length cy) y := ⟨qy, cy, offy, rfl, hy'⟩
 have T := Three.new w [.slice qx x.length cx] [.slice qy y.length cy] [.slice none 0 0] 35 35 35
 have HX := hide (hx.below T.bw)
 have HY := hide (hy.below T.bw)
 have T3 := hide T
 have FX := hide (fine_len ox)
 have FY := hide (fine_len oy)
 have HO := hide ho
 obtain ⟨P, eP⟩ : ∃ P, bitsP op x y = P := ⟨_, rfl⟩
 obtain ⟨Q, eQ⟩ : ∃ Q, bitsB op x y = Q := ⟨_, rfl⟩
 rw [eP, eQ]
 have EP := hide eP
 have EQ := hide eQ
 unfold bitsP at EP
 unfold bitsB at EQ
 obtain ⟨nx, bx, enx⟩ : ∃ nx bx, numP x = (nx, bx) := ⟨_, _, rfl⟩
 obtain ⟨ny, b_y, eny⟩ : ∃ ny b_y, numP y = (ny, b_y) := ⟨_, _, rfl⟩
 rw [enx, eny] at EP EQ
 simp only [] at EP EQ
 have NX := hide enx
 have NY := hide eny
 clear T hx hy hx' hy' ho ox oy eP eQ enx eny
 go_enter Tryz.func46, Tryz.ntmps46
 go_wp2_with fail
 generalize (((w.alloc (.cells #[.slice qx x.length cx] 35)).alloc (.cells #[.slice qy y.length cy] 35)).alloc (.cells #[.slice none 0 0] 35)) = V at T3 HX HY ⊢
 have x0 := T3.out.a.cell 0 _ rfl
 have y0 := T3.out.z.cell 0 _ rfl
 go_wp2_with fail
 refine (specNum x Bx _ _ HX.out).mono ?_
 rintro e u1 ⟨rfl, hb⟩
 clear x0 y0
 replace T3 := hide (T3.out.below hb)
 replace HX := hide (HX.out.below hb)
 replace HY := hide (HY.out.below hb)
 clear hb
 rw [NX.out]
 have x0 := T3.out.a.cell 0 _ rfl
 have y0 := T3.out.z.cell 0 _ rfl
 go_wp2_with fail
 refine (specNum y By _ _ HY.out).mono ?_
 rintro e u2 ⟨rfl, hb⟩
 clear x0 y0
 replace T3 := hide (T3.out.below hb)
 replace HX := hide (HX.out.below hb)
 replace HY := hide (HY.out.below hb)
 clear hb
 rw [NY.out]
 simp only []
 cases bx with
 | true =>
  cases b_y with
  | true =>
   have VL : Hid (w.heap.size + 1 + 1 < u2.heap.size) := T3.out.o.lt
   go_wp2_with fail
   refine (Wrd.specDo op nx ny _).mono ?_
   rintro e u3 ⟨rfl, rfl⟩
   go_wp2_with fail
   refine (specConst (Wrd.wdo op nx ny) _).mono ?_
   rintro e u4 ⟨pa, pl, pc, rfl, MW, hb⟩
   replace T3 := hide (T3.out.below hb)
   replace MW := hide MW
   clear hb HX HY
   have HD : Hid (constP (Wrd.wdo op nx ny) = P ∧ true = Q) := show _ ∧ _ by rw [← EP.out, ← EQ.out]; simp
   have o0 := T3.out.o.cell 0 _ rfl
   have s0 := T3.out.o.soft 0
   have TN : Turn (w.heap.size + 1 + 1) u4 (u4.setCell ⟨w.heap.size + 1 + 1, 0, none⟩ (.slice pa pl pc)) := (Turn.refl _ u4).setCell (p := ⟨w.heap.size + 1 + 1, 0, none⟩) rfl _
   have ZF := hide (T3.out.o.set 0 (.slice pa pl pc) (by simp) rfl)
   have TF := hide (two_cast (two_at (Z := w.heap.size + 1 + 1) (by omega) VL.out (Nat.le_refl _) MW.out T3.out.bw TN true) HD.out.1 HD.out.2)
   clear TN
   go_wp2
   generalize u4.setCell ⟨w.heap.size + 1 + 1, 0, none⟩ (.slice pa pl pc) = y9 at ZF TF ⊢
   have z9 := ZF.out.cell 0 _ rfl
   exact bodyPost_ret (v := .tuple #[.agg #[.slice pa pl pc], .bool true]) (by simp [results, Tryz.results46, go_sem, z9]) rfl TF.out
  | false =>
   have x0 := T3.out.a.cell 0 _ rfl
   have y0 := T3.out.z.cell 0 _ rfl
   go_wp2_with fail
   refine (specOrder x y Bx By _ _ _ HX.out HY.out).mono ?_
   rintro e u3 ⟨rfl, hb⟩
   clear x0 y0
   replace T3 := hide (T3.out.below hb)
   replace HX := hide (HX.out.below hb)
   replace HY := hide (HY.out.below hb)
   clear hb
   obtain ⟨od, eod⟩ : ∃ od, ordP x y = od := ⟨_, rfl⟩
   rw [eod] at EP EQ ⊢
   clear eod
   have VL : Hid (w.heap.size + 1 + 1 < u3.heap.size) := T3.out.o.lt
   by_cases od0 : od = 0
   · subst od0
     rcases HO.out with rfl | rfl
     · have x0 := T3.out.a.cell 0 _ rfl
       go_wp2_with fail
       refine (l4Copy x Bx _ _ HX.out FX.out.1 FX.out.2).mono ?_
       rintro e u4 ⟨pa, pl, pc, rfl, MW, hb⟩
       clear x0
       replace T3 := hide (T3.out.below hb)
       replace MW := hide MW
       clear hb HX HY
       have HD : Hid (x = P ∧ true = Q) := show _ ∧ _ by rw [← EP.out, ← EQ.out]; simp
       have o0 := T3.out.o.cell 0 _ rfl
       have s0 := T3.out.o.soft 0
       have TN : Turn (w.heap.size + 1 + 1) u4 (u4.setCell ⟨w.heap.size + 1 + 1, 0, none⟩ (.slice pa pl pc)) := (Turn.refl _ u4).setCell (p := ⟨w.heap.size + 1 + 1, 0, none⟩) rfl _
       have ZF := hide (T3.out.o.set 0 (.slice pa pl pc) (by simp) rfl)
       have TF := hide (two_cast (two_at (Z := w.heap.size + 1 + 1) (by omega) VL.out (Nat.le_refl _) MW.out T3.out.bw TN true) HD.out.1 HD.out.2)
       clear TN
       go_wp2
       generalize u4.setCell ⟨w.heap.size + 1 + 1, 0, none⟩ (.slice pa pl pc) = y9 at ZF TF ⊢
       have z9 := ZF.out.cell 0 _ rfl
       exact bodyPost_ret (v := .tuple #[.agg #[.slice pa pl pc], .bool true]) (by simp [results, Tryz.results46, go_sem, z9]) rfl TF.out
     · have HD : Hid ([] = P ∧ true = Q) := show _ ∧ _ by rw [← EP.out, ← EQ.out]; simp
       have o0 := T3.out.o.cell 0 _ rfl
       have s0 := T3.out.o.soft 0
       have TN : Turn (w.heap.size + 1 + 1) u3 (u3.setCell ⟨w.heap.size + 1 + 1, 0, none⟩ (.slice none 0 0)) := (Turn.refl _ u3).setCell (p := ⟨w.heap.size + 1 + 1, 0, none⟩) rfl _
       have ZF := hide (T3.out.o.set 0 (.slice none 0 0) (by simp) rfl)
       have TF := hide (two_cast (two_none (Z := w.heap.size + 1 + 1) (by omega) T3.out.bw TN true) HD.out.1 HD.out.2)
       clear TN
       go_wp2
       generalize u3.setCell ⟨w.heap.size + 1 + 1, 0, none⟩ (.slice none 0 0) = y9 at ZF TF ⊢
       have z9 := ZF.out.cell 0 _ rfl
       exact bodyPost_ret (v := .tuple #[.agg #[.slice none 0 0], .bool true]) (by simp [results, Tryz.results46, go_sem, z9]) rfl TF.out
   have od1 : (od == 0) = false := beq_eq_false_iff_ne.2 od0
   have HD : Hid (halfP op nx y = P ∧ halfB op nx = Q) := show _ ∧ _ by rw [← EP.out, ← EQ.out]; simp [od0]
   clear od0 EP EQ
   have x0 := T3.out.a.cell 0 _ rfl
   have y0 := T3.out.z.cell 0 _ rfl
   go_wp2_with fail
   refine (l5Half op nx y By _ _ HY.out HO.out FY.out.1 FY.out.2).mono ?_
   rintro e u4 ⟨⟨pa, pl, pc, rfl, MW⟩, hb⟩
   clear x0 y0
   replace T3 := hide (T3.out.below hb)
   replace MW := hide MW
   clear hb HX HY
   have o0 := T3.out.o.cell 0 _ rfl
   have s0 := T3.out.o.soft 0
   have TN : Turn (w.heap.size + 1 + 1) u4 (u4.setCell ⟨w.heap.size + 1 + 1, 0, none⟩ (.slice pa pl pc)) := (Turn.refl _ u4).setCell (p := ⟨w.heap.size + 1 + 1, 0, none⟩) rfl _
   have ZF := hide (T3.out.o.set 0 (.slice pa pl pc) (by simp) rfl)
   have TF := hide (two_cast (two_at (Z := w.heap.size + 1 + 1) (by omega) VL.out (Nat.le_refl _) MW.out T3.out.bw TN (halfB op nx)) HD.out.1 HD.out.2)
   clear TN
   go_wp2
   generalize u4.setCell ⟨w.heap.size + 1 + 1, 0, none⟩ (.slice pa pl pc) = y9 at ZF TF ⊢
   have z9 := ZF.out.cell 0 _ rfl
   exact bodyPost_ret (v := .tuple #[.agg #[.slice pa pl pc], .bool (halfB op nx)]) (by simp [results, Tryz.results46, go_sem, z9]) rfl TF.out
 | false =>
  cases b_y with
  | true =>
   have x0 := T3.out.a.cell 0 _ rfl
   have y0 := T3.out.z.cell 0 _ rfl
   go_wp2_with fail
   refine (specOrder x y Bx By _ _ _ HX.out HY.out).mono ?_
   rintro e u3 ⟨rfl, hb⟩
   clear x0 y0
   replace T3 := hide (T3.out.below hb)
   replace HX := hide (HX.out.below hb)
   replace HY := hide (HY.out.below hb)
   clear hb
   obtain ⟨od, eod⟩ : ∃ od, ordP x y = od := ⟨_, rfl⟩
   rw [eod] at EP EQ ⊢
   clear eod
   have VL : Hid (w.heap.size + 1 + 1 < u3.heap.size) := T3.out.o.lt
   by_cases od0 : od = 0
   · subst od0
     rcases HO.out with rfl | rfl
     · have x0 := T3.out.a.cell 0 _ rfl
       go_wp2_with fail
       refine (l4Copy x Bx _ _ HX.out FX.out.1 FX.out.2).mono ?_
       rintro e u4 ⟨pa, pl, pc, rfl, MW, hb⟩
       clear x0
       replace T3 := hide (T3.out.below hb)
       replace MW := hide MW
       clear hb HX HY
       have HD : Hid (x = P ∧ true = Q) := show _ ∧ _ by rw [← EP.out, ← EQ.out]; simp
       have o0 := T3.out.o.cell 0 _ rfl
       have s0 := T3.out.o.soft 0
       have TN : Turn (w.heap.size + 1 + 1) u4 (u4.setCell ⟨w.heap.size + 1 + 1, 0, none⟩ (.slice pa pl pc)) := (Turn.refl _ u4).setCell (p := ⟨w.heap.size + 1 + 1, 0, none⟩) rfl _
       have ZF := hide (T3.out.o.set 0 (.slice pa pl pc) (by simp) rfl)
       have TF := hide (two_cast (two_at (Z := w.heap.size + 1 + 1) (by omega) VL.out (Nat.le_refl _) MW.out T3.out.bw TN true) HD.out.1 HD.out.2)
       clear TN
       go_wp2
       generalize u4.setCell ⟨w.heap.size + 1 + 1, 0, none⟩ (.slice pa pl pc) = y9 at ZF TF ⊢
       have z9 := ZF.out.cell 0 _ rfl
       exact bodyPost_ret (v := .tuple #[.agg #[.slice pa pl pc], .bool true]) (by simp [results, Tryz.results46, go_sem, z9]) rfl TF.out
     · have HD : Hid ([] = P ∧ true = Q) := show _ ∧ _ by rw [← EP.out, ← EQ.out]; simp
       have o0 := T3.out.o.cell 0 _ rfl
       have s0 := T3.out.o.soft 0
       have TN : Turn (w.heap.size + 1 + 1) u3 (u3.setCell ⟨w.heap.size + 1 + 1, 0, none⟩ (.slice none 0 0)) := (Turn.refl _ u3).setCell (p := ⟨w.heap.size + 1 + 1, 0, none⟩) rfl _
       have ZF := hide (T3.out.o.set 0 (.slice none 0 0) (by simp) rfl)
       have TF := hide (two_cast (two_none (Z := w.heap.size + 1 + 1) (by omega) T3.out.bw TN true) HD.out.1 HD.out.2)
       clear TN
       go_wp2
       generalize u3.setCell ⟨w.heap.size + 1 + 1, 0, none⟩ (.slice none 0 0) = y9 at ZF TF ⊢
       have z9 := ZF.out.cell 0 _ rfl
       exact bodyPost_ret (v := .tuple #[.agg #[.slice none 0 0], .bool true]) (by simp [results, Tryz.results46, go_sem, z9]) rfl TF.out
   have od1 : (od == 0) = false := beq_eq_false_iff_ne.2 od0
   have HD : Hid (halfP op ny x = P ∧ halfB op ny = Q) := show _ ∧ _ by rw [← EP.out, ← EQ.out]; simp [od0]
   clear od0 EP EQ
   have x0 := T3.out.a.cell 0 _ rfl
   have y0 := T3.out.z.cell 0 _ rfl
   go_wp2_with fail
   refine (l5Half op ny x Bx _ _ HX.out HO.out FX.out.1 FX.out.2).mono ?_
   rintro e u4 ⟨⟨pa, pl, pc, rfl, MW⟩, hb⟩
   clear x0 y0
   replace T3 := hide (T3.out.below hb)
   replace MW := hide MW
   clear hb HX HY
   have o0 := T3.out.o.cell 0 _ rfl
   have s0 := T3.out.o.soft 0
   have TN : Turn (w.heap.size + 1 + 1) u4 (u4.setCell ⟨w.heap.size + 1 + 1, 0, none⟩ (.slice pa pl pc)) := (Turn.refl _ u4).setCell (p := ⟨w.heap.size + 1 + 1, 0, none⟩) rfl _
   have ZF := hide (T3.out.o.set 0 (.slice pa pl pc) (by simp) rfl)
   have TF := hide (two_cast (two_at (Z := w.heap.size + 1 + 1) (by omega) VL.out (Nat.le_refl _) MW.out T3.out.bw TN (halfB op ny)) HD.out.1 HD.out.2)
   clear TN
   go_wp2
   generalize u4.setCell ⟨w.heap.size + 1 + 1, 0, none⟩ (.slice pa pl pc) = y9 at ZF TF ⊢
   have z9 := ZF.out.cell 0 _ rfl
   exact bodyPost_ret (v := .tuple #[.agg #[.slice pa pl pc], .bool (halfB op ny)]) (by simp [results, Tryz.results46, go_sem, z9]) rfl TF.out
  | false =>
   have x0 := T3.out.a.cell 0 _ rfl
   have y0 := T3.out.z.cell 0 _ rfl
   go_wp2_with fail
   refine (specOrder x y Bx By _ _ _ HX.out HY.out).mono ?_
   rintro e u3 ⟨rfl, hb⟩
   clear x0 y0
   replace T3 := hide (T3.out.below hb)
   replace HX := hide (HX.out.below hb)
   replace HY := hide (HY.out.below hb)
   clear hb
   obtain ⟨od, eod⟩ : ∃ od, ordP x y = od := ⟨_, rfl⟩
   rw [eod] at EP EQ ⊢
   clear eod
   have VL : Hid (w.heap.size + 1 + 1 < u3.heap.size) := T3.out.o.lt
   by_cases od0 : od = 0
   · subst od0
     rcases HO.out with rfl | rfl
     · have x0 := T3.out.a.cell 0 _ rfl
       go_wp2_with fail
       refine (l4Copy x Bx _ _ HX.out FX.out.1 FX.out.2).mono ?_
       rintro e u4 ⟨pa, pl, pc, rfl, MW, hb⟩
       clear x0
       replace T3 := hide (T3.out.below hb)
       replace MW := hide MW
       clear hb HX HY
       have HD : Hid (x = P ∧ true = Q) := show _ ∧ _ by rw [← EP.out, ← EQ.out]; simp
       have o0 := T3.out.o.cell 0 _ rfl
       have s0 := T3.out.o.soft 0
       have TN : Turn (w.heap.size + 1 + 1) u4 (u4.setCell ⟨w.heap.size + 1 + 1, 0, none⟩ (.slice pa pl pc)) := (Turn.refl _ u4).setCell (p := ⟨w.heap.size + 1 + 1, 0, none⟩) rfl _
       have ZF := hide (T3.out.o.set 0 (.slice pa pl pc) (by simp) rfl)
       have TF := hide (two_cast (two_at (Z := w.heap.size + 1 + 1) (by omega) VL.out (Nat.le_refl _) MW.out T3.out.bw TN true) HD.out.1 HD.out.2)
       clear TN
       go_wp2
       generalize u4.setCell ⟨w.heap.size + 1 + 1, 0, none⟩ (.slice pa pl pc) = y9 at ZF TF ⊢
       have z9 := ZF.out.cell 0 _ rfl
       exact bodyPost_ret (v := .tuple #[.agg #[.slice pa pl pc], .bool true]) (by simp [results, Tryz.results46, go_sem, z9]) rfl TF.out
     · have HD : Hid ([] = P ∧ true = Q) := show _ ∧ _ by rw [← EP.out, ← EQ.out]; simp
       have o0 := T3.out.o.cell 0 _ rfl
       have s0 := T3.out.o.soft 0
       have TN : Turn (w.heap.size + 1 + 1) u3 (u3.setCell ⟨w.heap.size + 1 + 1, 0, none⟩ (.slice none 0 0)) := (Turn.refl _ u3).setCell (p := ⟨w.heap.size + 1 + 1, 0, none⟩) rfl _
       have ZF := hide (T3.out.o.set 0 (.slice none 0 0) (by simp) rfl)
       have TF := hide (two_cast (two_none (Z := w.heap.size + 1 + 1) (by omega) T3.out.bw TN true) HD.out.1 HD.out.2)
       clear TN
       go_wp2
       generalize u3.setCell ⟨w.heap.size + 1 + 1, 0, none⟩ (.slice none 0 0) = y9 at ZF TF ⊢
       have z9 := ZF.out.cell 0 _ rfl
       exact bodyPost_ret (v := .tuple #[.agg #[.slice none 0 0], .bool true]) (by simp [results, Tryz.results46, go_sem, z9]) rfl TF.out
   have od1 : (od == 0) = false := beq_eq_false_iff_ne.2 od0
   have HD : Hid ([] = P ∧ false = Q) := show _ ∧ _ by rw [← EP.out, ← EQ.out]; simp [od0]
   clear od0 EP EQ
   have o0 := T3.out.o.cell 0 _ rfl
   have s0 := T3.out.o.soft 0
   have TN : Turn (w.heap.size + 1 + 1) u3 (u3.setCell ⟨w.heap.size + 1 + 1, 0, none⟩ (.slice none 0 0)) := (Turn.refl _ u3).setCell (p := ⟨w.heap.size + 1 + 1, 0, none⟩) rfl _
   have ZF := hide (T3.out.o.set 0 (.slice none 0 0) (by simp) rfl)
   have TF := hide (two_cast (two_none (Z := w.heap.size + 1 + 1) (by omega) T3.out.bw TN false) HD.out.1 HD.out.2)
   clear TN
   go_wp2
   generalize u3.setCell ⟨w.heap.size + 1 + 1, 0, none⟩ (.slice none 0 0) = y9 at ZF TF ⊢
   have z9 := ZF.out.cell 0 _ rfl
   exact bodyPost_ret (v := .tuple #[.agg #[.slice none 0 0], .bool false]) (by simp [results, Tryz.results46, go_sem, z9]) rfl TF.out
end Go.Proofs.YtggilenddbobnaaGreat.Tab
namespace Go.Proofs.YtggilenddbobnaaGreat.Push
set_option linter.unusedVariables false
open Go Go.ChangeShapes Go.WideShapes Go.ChangeAt Go.RowKit IntS
theorem owns_mono {w : World} {lo lo' : Nat} {e : TypeId} {size : Nat} {v : Value} {n : Nat} {xs : List Value} (h : w.ownsRow lo e size v n xs) (hl : lo' ≤ lo) : w.ownsRow lo' e size v n xs := by
 obtain ⟨h1, h0 | ⟨g, cap, cur, hv, hb, rest⟩⟩ := h
 · exact ⟨h1, Or.inl h0⟩
 · exact ⟨h1, Or.inr ⟨g, cap, cur, hv, Nat.le_trans hl hb, rest⟩⟩
theorem owns_turn {w w' : World} {lo : Nat} {e : TypeId} {size : Nat} {v : Value} {n : Nat} {xs : List Value} {B : Nat} (h : w.ownsRow lo e size v n xs) (ht : Turn B w w') (hB : B < lo ∨ w.heap.size ≤ B) : w'.ownsRow lo e size v n xs := by
 obtain ⟨h1, h0 | ⟨g, cap, cur, hv, hb, hh, rest⟩⟩ := h
 · exact ⟨h1, Or.inl h0⟩
 · have hg : g < w.heap.size := by rcases Nat.lt_or_ge g w.heap.size with h' | h'; exact h'; rw [Array.getElem?_eq_none h'] at hh; cases hh
   exact ⟨h1, Or.inr ⟨g, cap, cur, hv, hb, (ht.block g hg (by omega)).trans hh, rest⟩⟩
theorem owns_lt {w : World} {lo : Nat} {e : TypeId} {size : Nat} {G n cap n' : Nat} {xs : List Value} (h : w.ownsRow lo e size (.slice (some ⟨G, 0, none⟩) n cap) n' xs) : lo ≤ G ∧ G < w.heap.size ∧ n ≤ cap ∧ cap ≤ maxLen := by
 obtain ⟨h1, h0 | ⟨g, cap', cur, hv, hb, hh, h3, h4, _⟩⟩ := h
 · cases h0.1
 · cases hv
   refine ⟨hb, ?_, h3, h4⟩
   rcases Nat.lt_or_ge G w.heap.size with h' | h'
   · exact h'
   · rw [Array.getElem?_eq_none h'] at hh; cases hh
theorem run_push {P : Program} {w : World} (lo : Nat) (t ty e : TypeId) (i : TypeInfo) (z : Value) (size bytes : Nat) (ht : P.underlying t = some (.slice e)) (hi : P.info? e = some i) (hz : i.zero = some z) (hsize : i.size = size) (hby : i.bytes = bytes) (hzs : z.cells.size = size) (hsz : 0 < size)
 (v : Value) (n : Nat) (xs : List Value) (hown : w.ownsRow lo e size v n xs) (a : Addr) (news : List Value) (hl : news.length = size) (hnews : ∀ j u, news[j]? = some u → w.cell? (a.add j) = some u) (h1 : ∀ u ∈ news, u.oneCell' = true)
 (h63 : n + 1 ≤ maxLen) (hbytes : (n + 1) * bytes ≤ 140737488355328) (hlo : lo ≤ w.heap.size) :
 ∃ g' cap' w', (Builtin.append_ #[t, t] ty #[v, .slice (some a) 1 1]).run P w = .ok (.slice (some ⟨g', 0, none⟩) (n + 1) cap') w' ∧ w'.ownsRow lo e size (.slice (some ⟨g', 0, none⟩) (n + 1) cap') (n + 1) (xs ++ news) ∧ (v.ownBlock = some g' ∨ w.heap.size ≤ g') ∧ g' < w'.heap.size ∧ w.grownBy w' v.ownBlock := by
 have hl1 : news.length = 1 * size := by omega
 have form {lo' : Nat} {v' : Value} {w' : World} (h : w'.ownsRow lo' e size v' (n + 1) (xs ++ news)) : ∃ g' cap', v' = .slice (some ⟨g', 0, none⟩) (n + 1) cap' ∧ lo' ≤ g' ∧ g' < w'.heap.size := by
  obtain ⟨_, h0 | ⟨g', cap', cur, hv, hb, hh, _⟩⟩ := h
  · exact absurd h0.2 (by omega)
  · exact ⟨g', cap', hv, hb, by rcases Nat.lt_or_ge g' w'.heap.size with h' | h'; exact h'; rw [Array.getElem?_eq_none h'] at hh; cases hh⟩
 have hown' := hown
 obtain ⟨hx, ⟨rfl, rfl⟩ | ⟨g, cap, cur, rfl, hb, hh, hle, hm, hc, htk⟩⟩ := hown
 · obtain ⟨v', w', hr, g1, g2, _⟩ := run_append_own (P := P) w w.heap.size t ty e i z size bytes ht hi hz hsize hby hzs hsz (.slice none 0 0) 0 xs ⟨hx, Or.inl ⟨rfl, rfl⟩⟩ a 1 1 news hl1 hnews h1 h63 hbytes (Nat.le_refl _)
   obtain ⟨g', cap', rfl, q1, q2⟩ := form g1
   exact ⟨g', cap', w', hr, owns_mono g1 hlo, Or.inr q1, q2, g2⟩
 · by_cases hr : n + 1 ≤ cap
   · have cells (j : Nat) (hj : j < cap * size) : (w.cell? ⟨g, j, none⟩).isSome = true ∧ w.frozen? ⟨g, j, none⟩ = false := by
      refine ⟨?_, ?_⟩
      · unfold World.cell?
        simp [hh, hc, hj]
      · unfold World.frozen?
        simp [hh]
     have bnd : n * size + size ≤ cap * size := by
      have := Nat.mul_le_mul_right size hr
      rw [Nat.add_mul] at this
      omega
     have hrun := run_append_room_cells (P := P) w t ty e i ht hi g 0 n cap a 1 1 news (by rw [hsize]; exact hl1) hnews h1 hr (fun j hj => by
      rw [hsize, Nat.zero_add]
      exact (cells _ (by omega)).1) (fun j hj => by
      rw [hsize, Nat.zero_add]
      exact (cells _ (by omega)).2)
     obtain ⟨v', w', hr2, g1, g2, _⟩ := run_append_own (P := P) w lo t ty e i z size bytes ht hi hz hsize hby hzs hsz _ n xs hown' a 1 1 news hl1 hnews h1 h63 hbytes hlo
     rw [hrun] at hr2
     obtain ⟨rfl, rfl⟩ : .slice (some ⟨g, 0, none⟩) (n + 1) cap = v' ∧ w.setCells g (0 + n * i.size) news = w' := by cases hr2; exact ⟨rfl, rfl⟩
     obtain ⟨_, _, e, _, q2⟩ := form g1
     cases e
     exact ⟨g, cap, _, hrun, g1, Or.inl rfl, q2, g2⟩
   · have hcells (j : Nat) (u : Value) (hu : xs[j]? = some u) : w.cell? ((⟨g, 0, none⟩ : Addr).add j) = some u := by
      rw [Addr.add_lit, Nat.zero_add]
      have hj : j < n * size := by rw [← hx]; exact (List.getElem?_eq_some_iff.1 hu).1
      rw [← htk, List.getElem?_take, if_pos hj] at hu
      unfold World.cell?
      simp only [hh]
      simpa using hu
     obtain ⟨v', w', hrun, g1, g2⟩ := run_append_arg_grows (P := P) w t ty e i z size bytes ht hi hz hsize hby hzs hsz ⟨g, 0, none⟩ n cap xs hx hcells a 1 1 news hl1 hnews (by omega) h63 hbytes
     obtain ⟨g', cap', rfl, q1, q2⟩ := form g1
     exact ⟨g', cap', w', hrun, owns_mono g1 hlo, Or.inr q1, q2, ⟨g2.os, g2.tape, g2.output, g2.size, fun k hk _ => g2.block k hk (by simp)⟩⟩
/-- The append as an operation of a drawn region. -/
theorem push_in {P : Program} {w w' : World} {o : Oper} {a : Act} {K : Act → World → Prop} {Q : Exit → Act → World → Prop} {t : TypeId} (s x : Operand) (ho : o.op = .call { callee := .builtin .append, args := #[s, x], argTypes := #[t, t] }) {v v' y : Value} (hs : a.eval s = v) (hx : a.eval x = y)
 (hr : (Builtin.append_ #[t, t] o.type #[v, y]).run P w = .ok v' w') (h : K (a.put o.dst v') w') : Oper.wpIn Fence.wide 0 P o a w K Q := by
 unfold Oper.wpIn
 refine ⟨fun _ _ => trivial, ?_⟩
 rw [show Fence.wide.round = none from rfl, Oper.semAt_none]
 unfold execOp
 simp only [ho, resolve, invoke, builtin, Sem.run_bind, Sem.run_pure, Result.andThen_ok, List.map_toArray, List.map_cons, List.map_nil, hs, hx, hr]
 exact h
end Go.Proofs.YtggilenddbobnaaGreat.Push
namespace Go.Proofs.YtggilenddbobnaaGreat.Tab
set_option linter.unusedVariables false
open Go.ChangeShapes Go.WideShapes Go.ChangeAt Go.RowKit IntS Pol
/-- An atom: what it is, which one or how reckoned, and of which sums. -/
structure At where
 kd : Int
 k : Int
 x : List Mono
 y : List Mono
/-- The four cells of an atom at a place. -/
def AtAt (w : World) (B p : Nat) (t : At) : Prop := w.cell? ⟨B, p, none⟩ = some (.int .i64 t.kd) ∧ w.cell? ⟨B, p + 1, none⟩ = some (.int .i64 t.k) ∧ ∃ qx cx bx qy cy b, w.cell? ⟨B, p + 2, none⟩ = some (.slice qx t.x.length cx) ∧ PRow w bx (.slice qx t.x.length cx) t.x ∧ w.cell? ⟨B, p + 3, none⟩ = some (.slice qy t.y.length cy) ∧ PRow w b (.slice qy t.y.length cy) t.y
theorem AtAt.below {w w' : World} {B p : Nat} {t : At} (h : AtAt w B p t) (hb : Below w.heap.size w w') : AtAt w' B p t := by
 obtain ⟨h1, h2, qx, cx, bx, qy, cy, b, h3, h4, h5, h6⟩ := h
 exact ⟨cell_below hb h1, cell_below hb h2, qx, cx, bx, qy, cy, b, cell_below hb h3, h4.below hb, cell_below hb h5, h6.below hb⟩
/-- A slice that holds atoms. -/
structure TRow (w : World) (B : Nat) (v : Value) (ts : List At) : Prop where
 ex : ∃ a cap off, v = .slice a ts.length cap ∧ ts.length ≤ cap ∧ cap ≤ maxLen ∧ (a = none → cap = 0) ∧ (ts = [] ∨ (a = some ⟨B, off, none⟩ ∧ ∀ (i : Nat) t, ts[i]? = some t → AtAt w B (off + i * 4) t))
theorem TRow.below {w w' : World} {B : Nat} {v : Value} {ts : List At} (h : TRow w B v ts) (hb : Below w.heap.size w w') : TRow w' B v ts := by
 obtain ⟨a, cap, off, h1, h2, h3, hz, h4⟩ := h
 exact ⟨a, cap, off, h1, h2, h3, hz, h4.imp id fun ⟨e, q⟩ => ⟨e, fun i t ht => (q i t ht).below hb⟩⟩
def szA (t : At) : Nat := t.x.length + tot t.x + (t.y.length + tot t.y)
def totT : List At → Nat
 | [] => 0
 | t :: r => szA t + totT r
theorem totT_app : ∀ a b : List At, totT (a ++ b) = totT a + totT b
 | [], b => by simp [totT]
 | x :: a, b => by simp [totT, totT_app a b]; omega
theorem totT_next {ts : List At} {k : Nat} {t : At} (h : ts[k]? = some t) : totT (ts.take (k + 1)) = totT (ts.take k) + szA t := by
 rw [List.take_add_one, h, totT_app]
 simp [totT]
theorem totT_le {ts : List At} (k : Nat) : totT (ts.take k) ≤ totT ts := by
 have := totT_app (ts.take k) (ts.drop k)
 rw [List.take_append_drop] at this
 omega
theorem totT_at {ts : List At} {k : Nat} {t : At} (h : ts[k]? = some t) : szA t ≤ totT ts := by
 have := totT_next h
 have := totT_le (ts := ts) (k + 1)
 omega
def SmallT (ts : List At) : Prop := ts.length + totT ts ≤ 1048576
set_option maxHeartbeats 4000000 in
theorem szTabAtom (t : At) (qx : Option Addr) (cx : Nat) (qy : Option Addr) (cy bx b : Nat) (left : Int) (w : World) (hx : PRow w bx (.slice qx t.x.length cx) t.x) (hy : PRow w b (.slice qy t.y.length cy) t.y) (h0 : 0 ≤ left) (h1 : left ≤ 1048576) :
 Calls Tryz.prog 39 #[.agg #[.int .i64 t.kd, .int .i64 t.k, .slice qx t.x.length cx, .slice qy t.y.length cy], .int .i64 left] w fun e w' => ∃ r : Int, e = .returned (.int .i64 r) ∧ -1 ≤ r ∧ (0 ≤ r → r = left - szA t) ∧ Below w.heap.size w w' := by
 have bV : Below w.heap.size w (w.alloc (.cells #[.int .i64 t.kd, .int .i64 t.k, .slice qx t.x.length cx, .slice qy t.y.length cy] 71)) := (Below.refl _ _).alloc (Nat.le_refl _) _
 have R := hide (Rec.new w [.int .i64 t.kd, .int .i64 t.k, .slice qx t.x.length cx, .slice qy t.y.length cy] 71)
 have HX := hide (hx.below bV)
 have HY := hide (hy.below bV)
 have BW := hide bV
 clear bV hx hy
 go_enter Tryz.func39, Tryz.ntmps39
 go_wp2_with fail
 refine (szTrmPoly t.x bx _ left _ HX.out h0 h1).mono ?_
 rintro e u ⟨r, rfl, r0, hr, hb⟩
 have HR := hide hr
 replace R := hide (R.out.below hb)
 replace HY := hide (HY.out.below hb)
 replace BW := hide (BW.out.trans (hb.mono BW.out.size))
 clear hr hb
 by_cases hs : r < 0
 · go_wp2
   go_ret
   exact ⟨-1, rfl, by omega, fun h => by omega, BW.out⟩
 have r1 : r ≤ 1048576 := by have := HR.out (by omega); omega
 have c3 := R.out.cell 3 _ rfl
 go_wp2_with fail
 refine (szTrmPoly t.y b _ r _ HY.out (by omega) r1).mono ?_
 rintro e u2 ⟨r', rfl, r0', hr', hb⟩
 have HR' := hide hr'
 replace BW := hide (BW.out.trans (hb.mono BW.out.size))
 clear hr' hb c3
 by_cases hs' : r' < 0
 · go_wp2
   go_ret
   exact ⟨-1, rfl, by omega, fun h => by omega, BW.out⟩
 · go_wp2
   go_ret
   exact ⟨r', rfl, by omega, fun h => by have := HR.out (by omega); have := HR'.out h; unfold szA; omega, BW.out⟩
set_option maxRecDepth 8000 in
set_option maxHeartbeats 4000000 in
theorem szTabAtomS (ts : List At) (B : Nat) (v : Value) (left : Int) (w : World) (h : TRow w B v ts) (h0 : 0 ≤ left) (h1 : left ≤ 1048576) :
 Calls Tryz.prog 16 #[v, .int .i64 left] w fun e w' => ∃ r : Int, e = .returned (.int .i64 r) ∧ -1 ≤ r ∧ (0 ≤ r → r = left - ts.length - totT ts) ∧ Below w.heap.size w w' := by
 obtain ⟨a, cap, off, rfl, h2, h3, hz, h4⟩ := h
 unfold maxLen at h3
 clear hz
 by_cases e1 : left < ts.length
 · have e2 : left - (ts.length : Int) < 0 := by omega
   clear h4 e1
   go_enter Tryz.func16, Tryz.ntmps16
   go_wp2
   go_ret
   exact ⟨-1, rfl, by omega, fun h => by omega, Below.refl _ _⟩
 have e2 : ¬ left - (ts.length : Int) < 0 := by omega
 obtain ⟨n, en⟩ : ∃ n, ts.length = n := ⟨_, rfl⟩
 have EN := hide en
 rw [en] at h2 e1 e2 ⊢
 have H4 := hide h4
 clear en h4
 go_enter Tryz.func16, Tryz.ntmps16
 go_wp2
 go_loopw [1, 5] (fun l i wr => ∃ (k : Nat) (r : Int), k ≤ n ∧ i = .int .i64 k ∧ l = .int .i64 r ∧ 0 ≤ r ∧ r ≤ 1048576 ∧ Hid (r = left - n - totT (ts.take k)) ∧ Hid (Below w.heap.size w wr)) (fun _ i _ => n - (intOf i).toNat)
 case atStart => exact ⟨0, left - n, by omega, rfl, rfl, by omega, by omega, by show _ = _; simp [totT], Below.refl _ _⟩
 case round =>
  obtain ⟨k, r, hk, rfl, rfl, r0, r1, HR, HB⟩ := hrel
  by_cases hlt : k < n
  · obtain ⟨t, et⟩ : ∃ t, ts[k]? = some t := ⟨_, List.getElem?_eq_getElem (by rw [EN.out]; exact hlt)⟩
    obtain ⟨rfl, hc⟩ := H4.out.resolve_left (fun e => by rw [e] at et; simp at et)
    obtain ⟨c0, c1, qx, cx, bx, qy, cy, b, c2, px, c3, py⟩ := (hc k t et).below HB.out
    have TN := hide (totT_next et)
    have PX := hide px
    have PY := hide py
    have lk : ((k : Nat) : Int) < (n : Nat) := by omega
    clear et hc px py
    go_wp2_with fail
    refine (szTabAtom t qx cx qy cy bx b r _ PX.out PY.out r0 r1).mono ?_
    rintro e u ⟨r', rfl, q0, hr, hb⟩
    have HR2 := hide hr
    have HB2 := hide (HB.out.trans (hb.mono HB.out.size))
    clear hb hr c0 c1 c2 c3
    by_cases hs : r' < 0
    · go_wp2
      go_ret
      exact ⟨-1, rfl, by omega, fun h => by omega, HB2.out⟩
    · have HR3 : Hid (r' = left - n - totT (ts.take (k + 1))) := show _ = _ by have := HR.out; have := TN.out; have := HR2.out (by omega); omega
      have rl : r' ≤ 1048576 := by have := HR2.out (by omega); omega
      go_wp2
      exact ⟨⟨k + 1, r', by omega, by go_num, rfl, by omega, rl, HR3, HB2⟩, by simp [intOf]; omega⟩
  · have HD : Hid (r = left - n - totT ts) := show _ = _ by
     have := HR.out
     rw [List.take_of_length_le (by rw [EN.out]; omega)] at this
     exact this
    go_wp2
    go_ret
    exact ⟨r, rfl, by omega, fun _ => HD.out, HB.out⟩
theorem szTabTab (ts : List At) (B : Nat) (v : Value) (left : Int) (w : World) (h : TRow w B v ts) (h0 : 0 ≤ left) (h1 : left ≤ 1048576) :
 Calls Tryz.prog 4 #[.agg #[v], .int .i64 left] w fun e w' => ∃ r : Int, e = .returned (.int .i64 r) ∧ -1 ≤ r ∧ (0 ≤ r → r = left - ts.length - totT ts) ∧ Below w.heap.size w w' := by
 have bV : Below w.heap.size w (w.alloc (.cells #[v] 24)) := (Below.refl _ _).alloc (Nat.le_refl _) _
 have H := hide (h.below bV)
 have BW := hide bV
 obtain ⟨a, cap, off, rfl, _⟩ := h
 clear bV
 go_enter Tryz.func4, Tryz.ntmps4
 go_wp2_with fail
 refine (szTabAtomS ts B _ left _ H.out h0 h1).mono ?_
 rintro e u ⟨r, rfl, r0, hr, hb⟩
 have HR := hide hr
 replace BW := hide (BW.out.trans (hb.mono BW.out.size))
 clear hr hb
 by_cases hs : r < 0
 · go_wp2
   go_ret
   exact ⟨-1, rfl, by omega, fun h => by omega, BW.out⟩
 · go_wp2
   go_ret
   exact ⟨r, rfl, by omega, HR.out, BW.out⟩
set_option maxHeartbeats 4000000 in
theorem eqTabAtom (t : At) (qx qx' : Option Addr) (cx cx' : Nat) (qy qy' : Option Addr) (cy cy' bx bx' b b' : Nat) (w : World) (hx : PRow w bx (.slice qx t.x.length cx) t.x) (hy : PRow w b (.slice qy t.y.length cy) t.y) (hx' : PRow w bx' (.slice qx' t.x.length cx') t.x) (hy' : PRow w b' (.slice qy' t.y.length cy') t.y) :
 Calls Tryz.prog 70 #[.agg #[.int .i64 t.kd, .int .i64 t.k, .slice qx t.x.length cx, .slice qy t.y.length cy], .agg #[.int .i64 t.kd, .int .i64 t.k, .slice qx' t.x.length cx', .slice qy' t.y.length cy']] w fun e w' => e = .returned (.bool true) ∧ Below w.heap.size w w' := by
 have bV : Below w.heap.size w ((w.alloc (.cells #[.int .i64 t.kd, .int .i64 t.k, .slice qx t.x.length cx, .slice qy t.y.length cy] 63)).alloc (.cells #[.int .i64 t.kd, .int .i64 t.k, .slice qx' t.x.length cx', .slice qy' t.y.length cy'] 63)) := ((Below.refl _ _).alloc (Nat.le_refl _) _).alloc (by simp) _
 have R := hide ((Rec.new w [.int .i64 t.kd, .int .i64 t.k, .slice qx t.x.length cx, .slice qy t.y.length cy] 63).alloc (.cells #[.int .i64 t.kd, .int .i64 t.k, .slice qx' t.x.length cx', .slice qy' t.y.length cy'] 63))
 have R' := Rec.new (w.alloc (.cells #[.int .i64 t.kd, .int .i64 t.k, .slice qx t.x.length cx, .slice qy t.y.length cy] 63)) [.int .i64 t.kd, .int .i64 t.k, .slice qx' t.x.length cx', .slice qy' t.y.length cy'] 63
 rw [show (w.alloc (.cells #[.int .i64 t.kd, .int .i64 t.k, .slice qx t.x.length cx, .slice qy t.y.length cy] 63)).heap.size = w.heap.size + 1 by simp] at R'
 replace R' := hide R'
 have HX := hide (hx.below bV)
 have HY := hide (hy.below bV)
 have HX' := hide (hx'.below bV)
 have HY' := hide (hy'.below bV)
 have BW := hide bV
 have n1 : (t.kd != t.kd) = false := by simp
 have n2 : (t.k != t.k) = false := by simp
 clear bV hx hy hx' hy'
 go_enter Tryz.func70, Tryz.ntmps70
 go_wp2_with fail
 refine (eqTrmPoly t.x bx bx' _ _ _ HX.out HX'.out).mono ?_
 rintro e u ⟨rfl, hb⟩
 replace R := hide (R.out.below hb)
 replace R' := hide (R'.out.below hb)
 replace HY := hide (HY.out.below hb)
 replace HY' := hide (HY'.out.below hb)
 replace BW := hide (BW.out.trans (hb.mono BW.out.size))
 clear hb
 have c3 := R.out.cell 3 _ rfl
 have c3' := R'.out.cell 3 _ rfl
 go_wp2_with fail
 refine (eqTrmPoly t.y b b' _ _ _ HY.out HY'.out).mono ?_
 rintro e u2 ⟨rfl, hb⟩
 replace BW := hide (BW.out.trans (hb.mono BW.out.size))
 clear hb c3 c3'
 go_wp2
 go_ret
 exact ⟨rfl, BW.out⟩
end Go.Proofs.YtggilenddbobnaaGreat.Tab
namespace Go.Proofs.YtggilenddbobnaaGreat.Tab
set_option linter.unusedVariables false
open Go.ChangeShapes Go.WideShapes Go.ChangeAt Go.RowKit IntS Pol
theorem poly_other {w : World} {lo hi : Nat} {v : Value} {ps : List Mono} (h : WPoly w lo hi v ps) (p : Addr) (x : Value) (hp : p.block < lo ∨ hi ≤ p.block) : WPoly (w.setCell p x) lo hi v ps :=
 h.keep (Keep.of_turn ((Turn.refl p.block w).setCell (p := p) rfl x)) (fun b h1 h2 (h3 : b = _) => by omega)
theorem setCell_size (w : World) (p : Addr) (x : Value) : (w.setCell p x).heap.size = w.heap.size := by simp [World.setCell]
set_option maxRecDepth 8000 in
set_option maxHeartbeats 8000000 in
theorem toTabAtom (t : At) (qx : Option Addr) (cx : Nat) (qy : Option Addr) (cy bx b : Nat) (w : World) (hx : PRow w bx (.slice qx t.x.length cx) t.x) (hy : PRow w b (.slice qy t.y.length cy) t.y) (hs : szA t ≤ 1048576) :
 Calls Tryz.prog 51 #[.agg #[.int .i64 t.kd, .int .i64 t.k, .slice qx t.x.length cx, .slice qy t.y.length cy]] w fun e w' => ∃ gx gy mid, e = .returned (.agg #[.int .i64 t.kd, .int .i64 t.k, .slice (some ⟨gx, 0, none⟩) t.x.length t.x.length, .slice (some ⟨gy, 0, none⟩) t.y.length t.y.length]) ∧ WPoly w' w.heap.size mid (.slice (some ⟨gx, 0, none⟩) t.x.length t.x.length) t.x ∧ WPoly w' mid w'.heap.size (.slice (some ⟨gy, 0, none⟩) t.y.length t.y.length) t.y ∧ w.heap.size ≤ mid ∧ mid ≤ w'.heap.size ∧ Below w.heap.size w w' := by
 have T := hide (Three.new w [.int .i64 t.kd, .int .i64 t.k, .slice qx t.x.length cx, .slice qy t.y.length cy] [.int .i64 0, .int .i64 0, .slice none 0 0, .slice none 0 0] [.int .i64 t.kd, .int .i64 t.k, .slice none 0 0, .slice none 0 0] 71 63 63)
 have HX := hide hx
 have HY := hide hy
 have SX : Hid (SmallP t.x) := show SmallP _ by unfold SmallP; unfold szA at hs; omega
 have SY : Hid (SmallP t.y) := show SmallP _ by unfold SmallP; unfold szA at hs; omega
 clear hx hy hs
 go_enter Tryz.func51, Tryz.ntmps51
 go_wp2_with fail
 refine (toTrmPoly t.x bx _ _ (HX.out.below T.out.bw) SX.out).mono ?_
 rintro e u ⟨gx, rfl, W, hb⟩
 have T0 := T.out.o.lt
 have T1 := T.out.below hb
 have gl := hb.size
 clear T hb HX SX
 have o2 := T1.o.cell 2 _ rfl
 have f2 := T1.o.soft 2
 have a3 := T1.a.cell 3 _ rfl
 have T2 := hide (T1.set 2 (.slice (some ⟨gx, 0, none⟩) t.x.length t.x.length) (by simp) (show _ = [.int .i64 t.kd, .int .i64 t.k, .slice (some ⟨gx, 0, none⟩) t.x.length t.x.length, .slice none 0 0] from rfl))
 have W1 := hide ((poly_other W ⟨w.heap.size + 1 + 1, 2, none⟩ (.slice (some ⟨gx, 0, none⟩) t.x.length t.x.length) (Or.inl T0)).wide (hl := Nat.le_refl _) (hi' := (u.setCell ⟨w.heap.size + 1 + 1, 2, none⟩ (.slice (some ⟨gx, 0, none⟩) t.x.length t.x.length)).heap.size) (by rw [setCell_size]; exact Nat.le_refl _))
 obtain ⟨lo, elo⟩ : ∃ n, n = (((w.alloc (.cells #[.int .i64 t.kd, .int .i64 t.k, .slice qx t.x.length cx, .slice qy t.y.length cy] 71)).alloc (.cells #[.int .i64 0, .int .i64 0, .slice none 0 0, .slice none 0 0] 63)).alloc (.cells #[.int .i64 t.kd, .int .i64 t.k, .slice none 0 0, .slice none 0 0] 63)).heap.size := ⟨_, rfl⟩
 have LO : Hid (w.heap.size + 1 + 1 < lo) := show _ < _ by rw [elo]; exact T0
 have W1' : Hid (WPoly (u.setCell ⟨w.heap.size + 1 + 1, 2, none⟩ (.slice (some ⟨gx, 0, none⟩) t.x.length t.x.length)) lo (u.setCell ⟨w.heap.size + 1 + 1, 2, none⟩ (.slice (some ⟨gx, 0, none⟩) t.x.length t.x.length)).heap.size (.slice (some ⟨gx, 0, none⟩) t.x.length t.x.length) t.x) := show WPoly _ _ _ _ _ by rw [elo]; exact W1.out
 clear T1 W elo T0 gl W1
 go_wp2_with fail
 generalize u.setCell ⟨w.heap.size + 1 + 1, 2, none⟩ (.slice (some ⟨gx, 0, none⟩) t.x.length t.x.length) = V1 at T2 W1' ⊢
 clear o2 f2 a3
 refine (toTrmPoly t.y b _ _ (HY.out.below T2.out.bw) SY.out).mono ?_
 rintro e u2 ⟨gy, rfl, W2, hb⟩
 have T0 := T2.out.o.lt
 have T3 := T2.out.below hb
 have W3 := W1'.out.below hb
 have gl := hb.size
 clear T2 hb HY SY W1'
 have o0 := T3.o.cell 0 _ rfl
 have o1 := T3.o.cell 1 _ rfl
 have o2 := T3.o.cell 2 _ rfl
 have o3 := T3.o.cell 3 _ rfl
 have f3 := T3.o.soft 3
 have z0 := T3.z.cell 0 _ rfl
 have z1 := T3.z.cell 1 _ rfl
 have z2 := T3.z.cell 2 _ rfl
 have z3 := T3.z.cell 3 _ rfl
 have x0 := T3.z.soft 0
 have x1 := T3.z.soft 1
 have x2 := T3.z.soft 2
 have x3 := T3.z.soft 3
 have T4 := T3.set 3 (.slice (some ⟨gy, 0, none⟩) t.y.length t.y.length) (by simp) (show _ = [.int .i64 t.kd, .int .i64 t.k, .slice (some ⟨gx, 0, none⟩) t.x.length t.x.length, .slice (some ⟨gy, 0, none⟩) t.y.length t.y.length] from rfl)
 have W4 := poly_other W3 ⟨w.heap.size + 1 + 1, 3, none⟩ (.slice (some ⟨gy, 0, none⟩) t.y.length t.y.length) (Or.inl LO.out)
 have W5 := poly_other W2 ⟨w.heap.size + 1 + 1, 3, none⟩ (.slice (some ⟨gy, 0, none⟩) t.y.length t.y.length) (Or.inl T0)
 have G1 : Hid (w.heap.size + 1 < lo) := show _ < _ by have := LO.out; omega
 have G2 : Hid (w.heap.size + 1 < V1.heap.size) := show _ < _ by omega
 have ZZ := hide ((((T4.z.set 0 (.int .i64 t.kd) (by simp) (show _ = [.int .i64 t.kd, .int .i64 0, .slice none 0 0, .slice none 0 0] from rfl)).set 1 (.int .i64 t.k) (by simp) (show _ = [.int .i64 t.kd, .int .i64 t.k, .slice none 0 0, .slice none 0 0] from rfl)).set 2 (.slice (some ⟨gx, 0, none⟩) t.x.length t.x.length) (by simp) (show _ = [.int .i64 t.kd, .int .i64 t.k, .slice (some ⟨gx, 0, none⟩) t.x.length t.x.length, .slice none 0 0] from rfl)).set 3 (.slice (some ⟨gy, 0, none⟩) t.y.length t.y.length) (by simp) (show _ = [.int .i64 t.kd, .int .i64 t.k, .slice (some ⟨gx, 0, none⟩) t.x.length t.x.length, .slice (some ⟨gy, 0, none⟩) t.y.length t.y.length] from rfl))
 have WX := hide (poly_other (poly_other (poly_other (poly_other W4 ⟨w.heap.size + 1, 0, none⟩ (.int .i64 t.kd) (Or.inl G1.out)) ⟨w.heap.size + 1, 1, none⟩ (.int .i64 t.k) (Or.inl G1.out)) ⟨w.heap.size + 1, 2, none⟩ (.slice (some ⟨gx, 0, none⟩) t.x.length t.x.length) (Or.inl G1.out)) ⟨w.heap.size + 1, 3, none⟩ (.slice (some ⟨gy, 0, none⟩) t.y.length t.y.length) (Or.inl G1.out))
 have WY := hide (poly_other (poly_other (poly_other (poly_other W5 ⟨w.heap.size + 1, 0, none⟩ (.int .i64 t.kd) (Or.inl G2.out)) ⟨w.heap.size + 1, 1, none⟩ (.int .i64 t.k) (Or.inl G2.out)) ⟨w.heap.size + 1, 2, none⟩ (.slice (some ⟨gx, 0, none⟩) t.x.length t.x.length) (Or.inl G2.out)) ⟨w.heap.size + 1, 3, none⟩ (.slice (some ⟨gy, 0, none⟩) t.y.length t.y.length) (Or.inl G2.out))
 have BB := hide ((((T4.bw.setCell (p := ⟨w.heap.size + 1, 0, none⟩) (by show w.heap.size ≤ w.heap.size + 1; omega) (.int .i64 t.kd)).setCell (p := ⟨w.heap.size + 1, 1, none⟩) (by show w.heap.size ≤ w.heap.size + 1; omega) (.int .i64 t.k)).setCell (p := ⟨w.heap.size + 1, 2, none⟩) (by show w.heap.size ≤ w.heap.size + 1; omega) (.slice (some ⟨gx, 0, none⟩) t.x.length t.x.length)).setCell (p := ⟨w.heap.size + 1, 3, none⟩) (by show w.heap.size ≤ w.heap.size + 1; omega) (.slice (some ⟨gy, 0, none⟩) t.y.length t.y.length))
 have SZ : Hid (u2.heap.size = (((((u2.setCell ⟨w.heap.size + 1 + 1, 3, none⟩ (.slice (some ⟨gy, 0, none⟩) t.y.length t.y.length)).setCell ⟨w.heap.size + 1, 0, none⟩ (.int .i64 t.kd)).setCell ⟨w.heap.size + 1, 1, none⟩ (.int .i64 t.k)).setCell ⟨w.heap.size + 1, 2, none⟩ (.slice (some ⟨gx, 0, none⟩) t.x.length t.x.length)).setCell ⟨w.heap.size + 1, 3, none⟩ (.slice (some ⟨gy, 0, none⟩) t.y.length t.y.length)).heap.size) := show _ = _ by simp only [setCell_size]
 have GL := hide gl
 clear T3 T4 W4 W5 W3 W2 gl T0
 go_wp2
 generalize ((((u2.setCell ⟨w.heap.size + 1 + 1, 3, none⟩ (.slice (some ⟨gy, 0, none⟩) t.y.length t.y.length)).setCell ⟨w.heap.size + 1, 0, none⟩ (.int .i64 t.kd)).setCell ⟨w.heap.size + 1, 1, none⟩ (.int .i64 t.k)).setCell ⟨w.heap.size + 1, 2, none⟩ (.slice (some ⟨gx, 0, none⟩) t.x.length t.x.length)).setCell ⟨w.heap.size + 1, 3, none⟩ (.slice (some ⟨gy, 0, none⟩) t.y.length t.y.length) = V at ZZ WX WY BB SZ ⊢
 have z0 := ZZ.out.cell 0 _ rfl
 have z1 := ZZ.out.cell 1 _ rfl
 have z2 := ZZ.out.cell 2 _ rfl
 have z3 := ZZ.out.cell 3 _ rfl
 exact bodyPost_ret (v := .agg #[.int .i64 t.kd, .int .i64 t.k, .slice (some ⟨gx, 0, none⟩) t.x.length t.x.length, .slice (some ⟨gy, 0, none⟩) t.y.length t.y.length]) (by simp [results, Tryz.results51, go_sem, z0, z1, z2, z3]) rfl ⟨gx, gy, V1.heap.size, rfl, WX.out.wide (by have := G1.out; omega) (Nat.le_refl _), WY.out.wide (Nat.le_refl _) (by rw [← SZ.out]; exact Nat.le_refl _), by have := G2.out; omega, by rw [← SZ.out]; exact GL.out, BB.out⟩
end Go.Proofs.YtggilenddbobnaaGreat.Tab
