/-
  The program's ways to see what is plain.
  One way to see what is plain, or else the next: the program's or.
-/
import Derived.Test.YtggilenddbobnaaGreatAl
import Derived.Test.YtggilenddbobnaaGreatJ10
import Derived.Test.YtggilenddbobnaaGreatJ20
import Derived.Test.YtggilenddbobnaaGreatJ09
import Derived.Test.YtggilenddbobnaaGreatJ01
namespace Go.Proofs.YtggilenddbobnaaGreat.Tab
set_option linter.unusedVariables false
set_option linter.unusedSimpArgs false
open Go.ChangeShapes Go.WideShapes Go.ChangeAt Go.RowKit IntS Pol
def sameOB (x y : List Mono) : Bool := decide (ordP x y = 0)
def sameOP (t : Int) (x y : List Mono) : List Mono := if ordP x y = 0 then scaleP x t else []
def isN (k : Int) (x : List Mono) : Bool := (numP x).2 && ((numP x).1 == k)
def besB (k : Int) (x y : List Mono) : Bool := isN k x || isN k y
def besP (k t : Int) (x y : List Mono) : List Mono := if isN k x = true then scaleP y t else if isN k y = true then scaleP x t else []
def wrdB (x y : List Mono) : Bool := (numP x).2 && (numP y).2
def wrdP (op : Int) (x y : List Mono) : List Mono := if wrdB x y = true then constP (Wrd.wdo op (numP x).1 (numP y).1) else []
set_option maxRecDepth 8000 in
set_option maxHeartbeats 8000000 in
theorem ofSame1 (t : Int) (x y : List Mono) (Bx By ct : Nat) (vx vy : Value) (w : World) (hx : PRow w Bx vx x) (hy : PRow w By vy y) (hct : Rec ct [.int .i64 t] w) :
 Calls Tryz.prog 98 #[.agg #[vx], .agg #[vy], .pointer (some ⟨ct, 0, none⟩)] w fun e w' => Two2 w w' e (sameOP t x y) (sameOB x y) := by
 obtain ⟨qx, cx, offx, rfl, hx'⟩ := hx
 obtain ⟨qy, cy, offy, rfl, hy'⟩ := hy
 have hx : PRow w Bx (.slice qx x.length cx) x := ⟨qx, cx, offx, rfl, hx'⟩
 have hy : PRow w By (.slice qy y.length cy) y := ⟨qy, cy, offy, rfl, hy'⟩
 have T := Three.new w [.slice qx x.length cx] [.slice qy y.length cy] [.slice none 0 0] 35 35 35
 have bn := T.bw
 have HX := hide (hx.below bn)
 have HY := hide (hy.below bn)
 have Hct := hide (hct.below bn)
 have T3 := hide T
 clear T bn hx hy hx' hy' hct
 go_enter Tryz.func98, Tryz.ntmps98
 go_wp2_with fail
 generalize ((w.alloc (.cells #[.slice qx x.length cx] 35)).alloc (.cells #[.slice qy y.length cy] 35)).alloc (.cells #[.slice none 0 0] 35) = V at T3 HX HY Hct ⊢
 have x0 := T3.out.a.cell 0 _ rfl
 have y0 := T3.out.z.cell 0 _ rfl
 go_wp2_with fail
 refine (implOrder x y Bx By _ _ _ HX.out HY.out).mono ?_
 rintro e u1 ⟨rfl, hb⟩
 clear x0 y0
 replace T3 := hide (T3.out.below hb)
 replace HX := hide (HX.out.below hb)
 replace HY := hide (HY.out.below hb)
 replace Hct := hide (Hct.out.below hb)
 clear hb
 by_cases e1 : ordP x y = 0
 case neg =>
  have PE : Hid ([] = sameOP t x y ∧ false = sameOB x y) := show _ ∧ _ from ⟨(if_neg e1).symm, (decide_eq_false e1).symm⟩
  have f : (ordP x y != 0) = true := by simp [e1]
  clear e1
  have o0 := T3.out.o.cell 0 _ rfl
  have s0 := T3.out.o.soft 0
  have TN : Turn (w.heap.size + 1 + 1) u1 (u1.setCell ⟨w.heap.size + 1 + 1, 0, none⟩ (.slice none 0 0)) := (Turn.refl _ u1).setCell (p := ⟨w.heap.size + 1 + 1, 0, none⟩) rfl _
  have ZF := hide (T3.out.o.set 0 (.slice none 0 0) (by simp) rfl)
  have BF := hide (T3.out.bw.trans (TN.below (by omega) T3.out.bw.size))
  have MF : Hid (WPoly (u1.setCell ⟨w.heap.size + 1 + 1, 0, none⟩ (.slice none 0 0)) w.heap.size (u1.setCell ⟨w.heap.size + 1 + 1, 0, none⟩ (.slice none 0 0)).heap.size (.slice none 0 0) ([])) := WPoly.nil _ _ _
  clear TN T3 HX HY Hct
  go_wp2
  generalize (u1.setCell ⟨w.heap.size + 1 + 1, 0, none⟩ (.slice none 0 0)) = y9 at ZF BF MF ⊢
  have z9 := ZF.out.cell 0 _ rfl
  have TF := hide (two_cast ⟨⟨_, _, _, rfl, MF.out⟩, BF.out⟩ PE.out.1 PE.out.2 : Two2 w y9 (.returned (.tuple #[.agg #[.slice none 0 0], .bool false])) (sameOP t x y) (sameOB x y))
  exact bodyPost_ret (v := .tuple #[.agg #[.slice none 0 0], .bool false]) (by simp [results, Tryz.results98, go_sem, z9]) rfl TF.out
 have PE : Hid (scaleP x t = sameOP t x y ∧ true = sameOB x y) := show _ ∧ _ from ⟨(if_pos e1).symm, (decide_eq_true e1).symm⟩
 have f : (ordP x y != 0) = false := by simp [e1]
 clear e1
 have UL : Hid (w.heap.size + 1 + 1 < u1.heap.size) := T3.out.o.lt
 have x0 := T3.out.a.cell 0 _ rfl
 have c0 := Hct.out.cell 0 _ rfl
 go_wp2_with fail
 refine (implScale x t Bx _ _ HX.out).mono ?_
 rintro e u2 ⟨pa, pl, pc, rfl, MP, hb⟩
 clear x0
 replace MP := hide MP
 have US : Hid (u1.heap.size ≤ u2.heap.size) := hb.size
 replace T3 := hide (T3.out.below hb)
 replace HX := hide (HX.out.below hb)
 replace HY := hide (HY.out.below hb)
 replace Hct := hide (Hct.out.below hb)
 clear hb
 have o0 := T3.out.o.cell 0 _ rfl
 have s0 := T3.out.o.soft 0
 have TN : Turn (w.heap.size + 1 + 1) u2 (u2.setCell ⟨w.heap.size + 1 + 1, 0, none⟩ (.slice pa pl pc)) := (Turn.refl _ u2).setCell (p := ⟨w.heap.size + 1 + 1, 0, none⟩) rfl _
 have ZF := hide (T3.out.o.set 0 (.slice pa pl pc) (by simp) rfl)
 have BF := hide (T3.out.bw.trans (TN.below (by omega) T3.out.bw.size))
 have MF : Hid (WPoly (u2.setCell ⟨w.heap.size + 1 + 1, 0, none⟩ (.slice pa pl pc)) w.heap.size (u2.setCell ⟨w.heap.size + 1 + 1, 0, none⟩ (.slice pa pl pc)).heap.size (.slice pa pl pc) (scaleP x t)) := (MP.out.keep (Keep.of_turn TN) (fun b' h1 h2 (h3 : b' = _) => by have := UL.out; omega)).wide (by have := UL.out; omega) TN.size
 clear TN T3 HX HY Hct
 go_wp2
 generalize (u2.setCell ⟨w.heap.size + 1 + 1, 0, none⟩ (.slice pa pl pc)) = y9 at ZF BF MF ⊢
 have z9 := ZF.out.cell 0 _ rfl
 have TF := hide (two_cast ⟨⟨_, _, _, rfl, MF.out⟩, BF.out⟩ PE.out.1 PE.out.2 : Two2 w y9 (.returned (.tuple #[.agg #[.slice pa pl pc], .bool true])) (sameOP t x y) (sameOB x y))
 exact bodyPost_ret (v := .tuple #[.agg #[.slice pa pl pc], .bool true]) (by simp [results, Tryz.results98, go_sem, z9]) rfl TF.out
set_option maxRecDepth 8000 in
set_option maxHeartbeats 8000000 in
theorem beside1 (k t : Int) (x y : List Mono) (Bx By ck ct : Nat) (vx vy : Value) (w : World) (hx : PRow w Bx vx x) (hy : PRow w By vy y) (hck : Rec ck [.int .i64 k] w) (hct : Rec ct [.int .i64 t] w) :
 Calls Tryz.prog 99 #[.agg #[vx], .agg #[vy], .pointer (some ⟨ck, 0, none⟩), .pointer (some ⟨ct, 0, none⟩)] w fun e w' => Two2 w w' e (besP k t x y) (besB k x y) := by
 obtain ⟨qx, cx, offx, rfl, hx'⟩ := hx
 obtain ⟨qy, cy, offy, rfl, hy'⟩ := hy
 have hx : PRow w Bx (.slice qx x.length cx) x := ⟨qx, cx, offx, rfl, hx'⟩
 have hy : PRow w By (.slice qy y.length cy) y := ⟨qy, cy, offy, rfl, hy'⟩
 have T := Three.new w [.slice qx x.length cx] [.slice qy y.length cy] [.slice none 0 0] 35 35 35
 have bn := T.bw
 have HX := hide (hx.below bn)
 have HY := hide (hy.below bn)
 have Hck := hide (hck.below bn)
 have Hct := hide (hct.below bn)
 have T3 := hide T
 clear T bn hx hy hx' hy' hck hct
 go_enter Tryz.func99, Tryz.ntmps99
 go_wp2_with fail
 generalize ((w.alloc (.cells #[.slice qx x.length cx] 35)).alloc (.cells #[.slice qy y.length cy] 35)).alloc (.cells #[.slice none 0 0] 35) = V at T3 HX HY Hck Hct ⊢
 have x0 := T3.out.a.cell 0 _ rfl
 go_wp2_with fail
 refine (implNum x Bx _ _ HX.out).mono ?_
 rintro e u1 ⟨rfl, hb⟩
 clear x0
 replace T3 := hide (T3.out.below hb)
 replace HX := hide (HX.out.below hb)
 replace HY := hide (HY.out.below hb)
 replace Hck := hide (Hck.out.below hb)
 replace Hct := hide (Hct.out.below hb)
 clear hb
 obtain ⟨a1, ea1⟩ : ∃ a1, (numP x).1 = a1 := ⟨_, rfl⟩
 obtain ⟨a2, ea2⟩ : ∃ a2, (numP x).2 = a2 := ⟨_, rfl⟩
 rw [ea1, ea2]
 have EX : Hid ((numP x).1 = a1 ∧ (numP x).2 = a2) := ⟨ea1, ea2⟩
 clear ea1 ea2
 have c0 := Hck.out.cell 0 _ rfl
 by_cases g : a2 = true ∧ a1 = k
 case pos =>
  obtain ⟨rfl, rfl⟩ := g
  have IX : isN a1 x = true := by unfold isN; rw [EX.out.1, EX.out.2]; simp
  have PE : Hid (scaleP y t = besP a1 t x y ∧ true = besB a1 x y) := show _ ∧ _ by unfold besP besB; rw [IX]; exact ⟨rfl, rfl⟩
  clear IX EX
  have UL : Hid (w.heap.size + 1 + 1 < u1.heap.size) := T3.out.o.lt
  have x0 := T3.out.z.cell 0 _ rfl
  have c1 := Hct.out.cell 0 _ rfl
  go_wp2_with fail
  refine (implScale y t By _ _ HY.out).mono ?_
  rintro e u2 ⟨pa, pl, pc, rfl, MP, hb⟩
  clear x0
  replace MP := hide MP
  have US : Hid (u1.heap.size ≤ u2.heap.size) := hb.size
  replace T3 := hide (T3.out.below hb)
  replace HX := hide (HX.out.below hb)
  replace HY := hide (HY.out.below hb)
  replace Hck := hide (Hck.out.below hb)
  replace Hct := hide (Hct.out.below hb)
  clear hb
  have o0 := T3.out.o.cell 0 _ rfl
  have s0 := T3.out.o.soft 0
  have TN : Turn (w.heap.size + 1 + 1) u2 (u2.setCell ⟨w.heap.size + 1 + 1, 0, none⟩ (.slice pa pl pc)) := (Turn.refl _ u2).setCell (p := ⟨w.heap.size + 1 + 1, 0, none⟩) rfl _
  have ZF := hide (T3.out.o.set 0 (.slice pa pl pc) (by simp) rfl)
  have BF := hide (T3.out.bw.trans (TN.below (by omega) T3.out.bw.size))
  have MF : Hid (WPoly (u2.setCell ⟨w.heap.size + 1 + 1, 0, none⟩ (.slice pa pl pc)) w.heap.size (u2.setCell ⟨w.heap.size + 1 + 1, 0, none⟩ (.slice pa pl pc)).heap.size (.slice pa pl pc) (scaleP y t)) := (MP.out.keep (Keep.of_turn TN) (fun b' h1 h2 (h3 : b' = _) => by have := UL.out; omega)).wide (by have := UL.out; omega) TN.size
  clear TN T3 HX HY Hck Hct
  go_wp2
  generalize (u2.setCell ⟨w.heap.size + 1 + 1, 0, none⟩ (.slice pa pl pc)) = y9 at ZF BF MF ⊢
  have z9 := ZF.out.cell 0 _ rfl
  have TF := hide (two_cast ⟨⟨_, _, _, rfl, MF.out⟩, BF.out⟩ PE.out.1 PE.out.2 : Two2 w y9 (.returned (.tuple #[.agg #[.slice pa pl pc], .bool true])) (besP a1 t x y) (besB a1 x y))
  exact bodyPost_ret (v := .tuple #[.agg #[.slice pa pl pc], .bool true]) (by simp [results, Tryz.results99, go_sem, z9]) rfl TF.out
 have NX : Hid (isN k x = false) := show _ = _ by unfold isN; rw [EX.out.1, EX.out.2]; rw [Bool.eq_false_iff]; intro h; rw [Bool.and_eq_true] at h; exact g ⟨h.1, by simpa using h.2⟩
 have f : a2 = false ∨ (a2 = true ∧ (a1 == k) = false) := by cases a2 <;> simp_all
 clear g EX
 rcases f with rfl | ⟨rfl, f⟩
 ·  skip
    have x0 := T3.out.z.cell 0 _ rfl
    go_wp2_with fail
    refine (implNum y By _ _ HY.out).mono ?_
    rintro e u2 ⟨rfl, hb⟩
    clear x0
    replace T3 := hide (T3.out.below hb)
    replace HX := hide (HX.out.below hb)
    replace HY := hide (HY.out.below hb)
    replace Hck := hide (Hck.out.below hb)
    replace Hct := hide (Hct.out.below hb)
    clear hb
    obtain ⟨b1, eb1⟩ : ∃ b1, (numP y).1 = b1 := ⟨_, rfl⟩
    obtain ⟨b2, eb2⟩ : ∃ b2, (numP y).2 = b2 := ⟨_, rfl⟩
    rw [eb1, eb2]
    have EY : Hid ((numP y).1 = b1 ∧ (numP y).2 = b2) := ⟨eb1, eb2⟩
    clear eb1 eb2
    have c0 := Hck.out.cell 0 _ rfl
    by_cases g : b2 = true ∧ b1 = k
    case pos =>
     obtain ⟨rfl, rfl⟩ := g
     have IY : isN b1 y = true := by unfold isN; rw [EY.out.1, EY.out.2]; simp
     have PE : Hid (scaleP x t = besP b1 t x y ∧ true = besB b1 x y) := show _ ∧ _ by unfold besP besB; rw [NX.out, IY]; exact ⟨rfl, rfl⟩
     clear IY EY NX
     have UL : Hid (w.heap.size + 1 + 1 < u2.heap.size) := T3.out.o.lt
     have x0 := T3.out.a.cell 0 _ rfl
     have c1 := Hct.out.cell 0 _ rfl
     go_wp2_with fail
     refine (implScale x t Bx _ _ HX.out).mono ?_
     rintro e u3 ⟨pa, pl, pc, rfl, MP, hb⟩
     clear x0
     replace MP := hide MP
     have US : Hid (u2.heap.size ≤ u3.heap.size) := hb.size
     replace T3 := hide (T3.out.below hb)
     replace HX := hide (HX.out.below hb)
     replace HY := hide (HY.out.below hb)
     replace Hck := hide (Hck.out.below hb)
     replace Hct := hide (Hct.out.below hb)
     clear hb
     have o0 := T3.out.o.cell 0 _ rfl
     have s0 := T3.out.o.soft 0
     have TN : Turn (w.heap.size + 1 + 1) u3 (u3.setCell ⟨w.heap.size + 1 + 1, 0, none⟩ (.slice pa pl pc)) := (Turn.refl _ u3).setCell (p := ⟨w.heap.size + 1 + 1, 0, none⟩) rfl _
     have ZF := hide (T3.out.o.set 0 (.slice pa pl pc) (by simp) rfl)
     have BF := hide (T3.out.bw.trans (TN.below (by omega) T3.out.bw.size))
     have MF : Hid (WPoly (u3.setCell ⟨w.heap.size + 1 + 1, 0, none⟩ (.slice pa pl pc)) w.heap.size (u3.setCell ⟨w.heap.size + 1 + 1, 0, none⟩ (.slice pa pl pc)).heap.size (.slice pa pl pc) (scaleP x t)) := (MP.out.keep (Keep.of_turn TN) (fun b' h1 h2 (h3 : b' = _) => by have := UL.out; omega)).wide (by have := UL.out; omega) TN.size
     clear TN T3 HX HY Hck Hct
     go_wp2
     generalize (u3.setCell ⟨w.heap.size + 1 + 1, 0, none⟩ (.slice pa pl pc)) = y9 at ZF BF MF ⊢
     have z9 := ZF.out.cell 0 _ rfl
     have TF := hide (two_cast ⟨⟨_, _, _, rfl, MF.out⟩, BF.out⟩ PE.out.1 PE.out.2 : Two2 w y9 (.returned (.tuple #[.agg #[.slice pa pl pc], .bool true])) (besP b1 t x y) (besB b1 x y))
     exact bodyPost_ret (v := .tuple #[.agg #[.slice pa pl pc], .bool true]) (by simp [results, Tryz.results99, go_sem, z9]) rfl TF.out
    have IY : isN k y = false := by unfold isN; rw [EY.out.1, EY.out.2]; rw [Bool.eq_false_iff]; intro h; rw [Bool.and_eq_true] at h; exact g ⟨h.1, by simpa using h.2⟩
    have PE : Hid ([] = besP k t x y ∧ false = besB k x y) := show _ ∧ _ by unfold besP besB; rw [NX.out, IY]; exact ⟨rfl, rfl⟩
    have f : b2 = false ∨ (b2 = true ∧ (b1 == k) = false) := by cases b2 <;> simp_all
    clear IY EY NX g
    rcases f with rfl | ⟨rfl, f⟩
    ·  skip
       have o0 := T3.out.o.cell 0 _ rfl
       have s0 := T3.out.o.soft 0
       have TN : Turn (w.heap.size + 1 + 1) u2 (u2.setCell ⟨w.heap.size + 1 + 1, 0, none⟩ (.slice none 0 0)) := (Turn.refl _ u2).setCell (p := ⟨w.heap.size + 1 + 1, 0, none⟩) rfl _
       have ZF := hide (T3.out.o.set 0 (.slice none 0 0) (by simp) rfl)
       have BF := hide (T3.out.bw.trans (TN.below (by omega) T3.out.bw.size))
       have MF : Hid (WPoly (u2.setCell ⟨w.heap.size + 1 + 1, 0, none⟩ (.slice none 0 0)) w.heap.size (u2.setCell ⟨w.heap.size + 1 + 1, 0, none⟩ (.slice none 0 0)).heap.size (.slice none 0 0) ([])) := WPoly.nil _ _ _
       clear TN T3 HX HY Hck Hct
       go_wp2
       generalize (u2.setCell ⟨w.heap.size + 1 + 1, 0, none⟩ (.slice none 0 0)) = y9 at ZF BF MF ⊢
       have z9 := ZF.out.cell 0 _ rfl
       have TF := hide (two_cast ⟨⟨_, _, _, rfl, MF.out⟩, BF.out⟩ PE.out.1 PE.out.2 : Two2 w y9 (.returned (.tuple #[.agg #[.slice none 0 0], .bool false])) (besP k t x y) (besB k x y))
       exact bodyPost_ret (v := .tuple #[.agg #[.slice none 0 0], .bool false]) (by simp [results, Tryz.results99, go_sem, z9]) rfl TF.out
    ·  skip
       have o0 := T3.out.o.cell 0 _ rfl
       have s0 := T3.out.o.soft 0
       have TN : Turn (w.heap.size + 1 + 1) u2 (u2.setCell ⟨w.heap.size + 1 + 1, 0, none⟩ (.slice none 0 0)) := (Turn.refl _ u2).setCell (p := ⟨w.heap.size + 1 + 1, 0, none⟩) rfl _
       have ZF := hide (T3.out.o.set 0 (.slice none 0 0) (by simp) rfl)
       have BF := hide (T3.out.bw.trans (TN.below (by omega) T3.out.bw.size))
       have MF : Hid (WPoly (u2.setCell ⟨w.heap.size + 1 + 1, 0, none⟩ (.slice none 0 0)) w.heap.size (u2.setCell ⟨w.heap.size + 1 + 1, 0, none⟩ (.slice none 0 0)).heap.size (.slice none 0 0) ([])) := WPoly.nil _ _ _
       clear TN T3 HX HY Hck Hct
       go_wp2
       generalize (u2.setCell ⟨w.heap.size + 1 + 1, 0, none⟩ (.slice none 0 0)) = y9 at ZF BF MF ⊢
       have z9 := ZF.out.cell 0 _ rfl
       have TF := hide (two_cast ⟨⟨_, _, _, rfl, MF.out⟩, BF.out⟩ PE.out.1 PE.out.2 : Two2 w y9 (.returned (.tuple #[.agg #[.slice none 0 0], .bool false])) (besP k t x y) (besB k x y))
       exact bodyPost_ret (v := .tuple #[.agg #[.slice none 0 0], .bool false]) (by simp [results, Tryz.results99, go_sem, z9]) rfl TF.out
 ·  skip
    have x0 := T3.out.z.cell 0 _ rfl
    go_wp2_with fail
    refine (implNum y By _ _ HY.out).mono ?_
    rintro e u2 ⟨rfl, hb⟩
    clear x0
    replace T3 := hide (T3.out.below hb)
    replace HX := hide (HX.out.below hb)
    replace HY := hide (HY.out.below hb)
    replace Hck := hide (Hck.out.below hb)
    replace Hct := hide (Hct.out.below hb)
    clear hb
    obtain ⟨b1, eb1⟩ : ∃ b1, (numP y).1 = b1 := ⟨_, rfl⟩
    obtain ⟨b2, eb2⟩ : ∃ b2, (numP y).2 = b2 := ⟨_, rfl⟩
    rw [eb1, eb2]
    have EY : Hid ((numP y).1 = b1 ∧ (numP y).2 = b2) := ⟨eb1, eb2⟩
    clear eb1 eb2
    have c0 := Hck.out.cell 0 _ rfl
    by_cases g : b2 = true ∧ b1 = k
    case pos =>
     obtain ⟨rfl, rfl⟩ := g
     have IY : isN b1 y = true := by unfold isN; rw [EY.out.1, EY.out.2]; simp
     have PE : Hid (scaleP x t = besP b1 t x y ∧ true = besB b1 x y) := show _ ∧ _ by unfold besP besB; rw [NX.out, IY]; exact ⟨rfl, rfl⟩
     clear IY EY NX
     have UL : Hid (w.heap.size + 1 + 1 < u2.heap.size) := T3.out.o.lt
     have x0 := T3.out.a.cell 0 _ rfl
     have c1 := Hct.out.cell 0 _ rfl
     go_wp2_with fail
     refine (implScale x t Bx _ _ HX.out).mono ?_
     rintro e u3 ⟨pa, pl, pc, rfl, MP, hb⟩
     clear x0
     replace MP := hide MP
     have US : Hid (u2.heap.size ≤ u3.heap.size) := hb.size
     replace T3 := hide (T3.out.below hb)
     replace HX := hide (HX.out.below hb)
     replace HY := hide (HY.out.below hb)
     replace Hck := hide (Hck.out.below hb)
     replace Hct := hide (Hct.out.below hb)
     clear hb
     have o0 := T3.out.o.cell 0 _ rfl
     have s0 := T3.out.o.soft 0
     have TN : Turn (w.heap.size + 1 + 1) u3 (u3.setCell ⟨w.heap.size + 1 + 1, 0, none⟩ (.slice pa pl pc)) := (Turn.refl _ u3).setCell (p := ⟨w.heap.size + 1 + 1, 0, none⟩) rfl _
     have ZF := hide (T3.out.o.set 0 (.slice pa pl pc) (by simp) rfl)
     have BF := hide (T3.out.bw.trans (TN.below (by omega) T3.out.bw.size))
     have MF : Hid (WPoly (u3.setCell ⟨w.heap.size + 1 + 1, 0, none⟩ (.slice pa pl pc)) w.heap.size (u3.setCell ⟨w.heap.size + 1 + 1, 0, none⟩ (.slice pa pl pc)).heap.size (.slice pa pl pc) (scaleP x t)) := (MP.out.keep (Keep.of_turn TN) (fun b' h1 h2 (h3 : b' = _) => by have := UL.out; omega)).wide (by have := UL.out; omega) TN.size
     clear TN T3 HX HY Hck Hct
     go_wp2
     generalize (u3.setCell ⟨w.heap.size + 1 + 1, 0, none⟩ (.slice pa pl pc)) = y9 at ZF BF MF ⊢
     have z9 := ZF.out.cell 0 _ rfl
     have TF := hide (two_cast ⟨⟨_, _, _, rfl, MF.out⟩, BF.out⟩ PE.out.1 PE.out.2 : Two2 w y9 (.returned (.tuple #[.agg #[.slice pa pl pc], .bool true])) (besP b1 t x y) (besB b1 x y))
     exact bodyPost_ret (v := .tuple #[.agg #[.slice pa pl pc], .bool true]) (by simp [results, Tryz.results99, go_sem, z9]) rfl TF.out
    have IY : isN k y = false := by unfold isN; rw [EY.out.1, EY.out.2]; rw [Bool.eq_false_iff]; intro h; rw [Bool.and_eq_true] at h; exact g ⟨h.1, by simpa using h.2⟩
    have PE : Hid ([] = besP k t x y ∧ false = besB k x y) := show _ ∧ _ by unfold besP besB; rw [NX.out, IY]; exact ⟨rfl, rfl⟩
    have f : b2 = false ∨ (b2 = true ∧ (b1 == k) = false) := by cases b2 <;> simp_all
    clear IY EY NX g
    rcases f with rfl | ⟨rfl, f⟩
    ·  skip
       have o0 := T3.out.o.cell 0 _ rfl
       have s0 := T3.out.o.soft 0
       have TN : Turn (w.heap.size + 1 + 1) u2 (u2.setCell ⟨w.heap.size + 1 + 1, 0, none⟩ (.slice none 0 0)) := (Turn.refl _ u2).setCell (p := ⟨w.heap.size + 1 + 1, 0, none⟩) rfl _
       have ZF := hide (T3.out.o.set 0 (.slice none 0 0) (by simp) rfl)
       have BF := hide (T3.out.bw.trans (TN.below (by omega) T3.out.bw.size))
       have MF : Hid (WPoly (u2.setCell ⟨w.heap.size + 1 + 1, 0, none⟩ (.slice none 0 0)) w.heap.size (u2.setCell ⟨w.heap.size + 1 + 1, 0, none⟩ (.slice none 0 0)).heap.size (.slice none 0 0) ([])) := WPoly.nil _ _ _
       clear TN T3 HX HY Hck Hct
       go_wp2
       generalize (u2.setCell ⟨w.heap.size + 1 + 1, 0, none⟩ (.slice none 0 0)) = y9 at ZF BF MF ⊢
       have z9 := ZF.out.cell 0 _ rfl
       have TF := hide (two_cast ⟨⟨_, _, _, rfl, MF.out⟩, BF.out⟩ PE.out.1 PE.out.2 : Two2 w y9 (.returned (.tuple #[.agg #[.slice none 0 0], .bool false])) (besP k t x y) (besB k x y))
       exact bodyPost_ret (v := .tuple #[.agg #[.slice none 0 0], .bool false]) (by simp [results, Tryz.results99, go_sem, z9]) rfl TF.out
    ·  skip
       have o0 := T3.out.o.cell 0 _ rfl
       have s0 := T3.out.o.soft 0
       have TN : Turn (w.heap.size + 1 + 1) u2 (u2.setCell ⟨w.heap.size + 1 + 1, 0, none⟩ (.slice none 0 0)) := (Turn.refl _ u2).setCell (p := ⟨w.heap.size + 1 + 1, 0, none⟩) rfl _
       have ZF := hide (T3.out.o.set 0 (.slice none 0 0) (by simp) rfl)
       have BF := hide (T3.out.bw.trans (TN.below (by omega) T3.out.bw.size))
       have MF : Hid (WPoly (u2.setCell ⟨w.heap.size + 1 + 1, 0, none⟩ (.slice none 0 0)) w.heap.size (u2.setCell ⟨w.heap.size + 1 + 1, 0, none⟩ (.slice none 0 0)).heap.size (.slice none 0 0) ([])) := WPoly.nil _ _ _
       clear TN T3 HX HY Hck Hct
       go_wp2
       generalize (u2.setCell ⟨w.heap.size + 1 + 1, 0, none⟩ (.slice none 0 0)) = y9 at ZF BF MF ⊢
       have z9 := ZF.out.cell 0 _ rfl
       have TF := hide (two_cast ⟨⟨_, _, _, rfl, MF.out⟩, BF.out⟩ PE.out.1 PE.out.2 : Two2 w y9 (.returned (.tuple #[.agg #[.slice none 0 0], .bool false])) (besP k t x y) (besB k x y))
       exact bodyPost_ret (v := .tuple #[.agg #[.slice none 0 0], .bool false]) (by simp [results, Tryz.results99, go_sem, z9]) rfl TF.out
set_option maxRecDepth 8000 in
set_option maxHeartbeats 8000000 in
theorem ofWords1 (op : Int) (x y : List Mono) (Bx By co : Nat) (vx vy : Value) (w : World) (hx : PRow w Bx vx x) (hy : PRow w By vy y) (hco : Rec co [.int .i64 op] w) :
 Calls Tryz.prog 94 #[.agg #[vx], .agg #[vy], .pointer (some ⟨co, 0, none⟩)] w fun e w' => Two2 w w' e (wrdP op x y) (wrdB x y) := by
 obtain ⟨qx, cx, offx, rfl, hx'⟩ := hx
 obtain ⟨qy, cy, offy, rfl, hy'⟩ := hy
 have hx : PRow w Bx (.slice qx x.length cx) x := ⟨qx, cx, offx, rfl, hx'⟩
 have hy : PRow w By (.slice qy y.length cy) y := ⟨qy, cy, offy, rfl, hy'⟩
 have T := Three.new w [.slice qx x.length cx] [.slice qy y.length cy] [.slice none 0 0] 35 35 35
 have bn := T.bw
 have HX := hide (hx.below bn)
 have HY := hide (hy.below bn)
 have Hco := hide (hco.below bn)
 have T3 := hide T
 clear T bn hx hy hx' hy' hco
 go_enter Tryz.func94, Tryz.ntmps94
 go_wp2_with fail
 generalize ((w.alloc (.cells #[.slice qx x.length cx] 35)).alloc (.cells #[.slice qy y.length cy] 35)).alloc (.cells #[.slice none 0 0] 35) = V at T3 HX HY Hco ⊢
 have x0 := T3.out.a.cell 0 _ rfl
 go_wp2_with fail
 refine (implNum x Bx _ _ HX.out).mono ?_
 rintro e u1 ⟨rfl, hb⟩
 clear x0
 replace T3 := hide (T3.out.below hb)
 replace HX := hide (HX.out.below hb)
 replace HY := hide (HY.out.below hb)
 replace Hco := hide (Hco.out.below hb)
 clear hb
 obtain ⟨a1, ea1⟩ : ∃ a1, (numP x).1 = a1 := ⟨_, rfl⟩
 obtain ⟨a2, ea2⟩ : ∃ a2, (numP x).2 = a2 := ⟨_, rfl⟩
 rw [ea1, ea2]
 have EX : Hid ((numP x).1 = a1 ∧ (numP x).2 = a2) := ⟨ea1, ea2⟩
 clear ea1 ea2
 have x0 := T3.out.z.cell 0 _ rfl
 go_wp2_with fail
 refine (implNum y By _ _ HY.out).mono ?_
 rintro e u2 ⟨rfl, hb⟩
 clear x0
 replace T3 := hide (T3.out.below hb)
 replace HX := hide (HX.out.below hb)
 replace HY := hide (HY.out.below hb)
 replace Hco := hide (Hco.out.below hb)
 clear hb
 obtain ⟨b1, eb1⟩ : ∃ b1, (numP y).1 = b1 := ⟨_, rfl⟩
 obtain ⟨b2, eb2⟩ : ∃ b2, (numP y).2 = b2 := ⟨_, rfl⟩
 rw [eb1, eb2]
 have EY : Hid ((numP y).1 = b1 ∧ (numP y).2 = b2) := ⟨eb1, eb2⟩
 clear eb1 eb2
 cases eb : a2 && b2 with
 | false =>
  have WB : wrdB x y = false := by unfold wrdB; rw [EX.out.2, EY.out.2]; exact eb
  have PE : Hid ([] = wrdP op x y ∧ false = wrdB x y) := show _ ∧ _ by unfold wrdP; rw [WB]; exact ⟨rfl, rfl⟩
  have f : a2 = false ∨ (a2 = true ∧ b2 = false) := by cases a2 <;> simp_all
  clear WB eb EX EY
  rcases f with rfl | ⟨rfl, rfl⟩
  ·  skip
     have o0 := T3.out.o.cell 0 _ rfl
     have s0 := T3.out.o.soft 0
     have TN : Turn (w.heap.size + 1 + 1) u2 (u2.setCell ⟨w.heap.size + 1 + 1, 0, none⟩ (.slice none 0 0)) := (Turn.refl _ u2).setCell (p := ⟨w.heap.size + 1 + 1, 0, none⟩) rfl _
     have ZF := hide (T3.out.o.set 0 (.slice none 0 0) (by simp) rfl)
     have BF := hide (T3.out.bw.trans (TN.below (by omega) T3.out.bw.size))
     have MF : Hid (WPoly (u2.setCell ⟨w.heap.size + 1 + 1, 0, none⟩ (.slice none 0 0)) w.heap.size (u2.setCell ⟨w.heap.size + 1 + 1, 0, none⟩ (.slice none 0 0)).heap.size (.slice none 0 0) ([])) := WPoly.nil _ _ _
     clear TN T3 HX HY Hco
     go_wp2
     generalize (u2.setCell ⟨w.heap.size + 1 + 1, 0, none⟩ (.slice none 0 0)) = y9 at ZF BF MF ⊢
     have z9 := ZF.out.cell 0 _ rfl
     have TF := hide (two_cast ⟨⟨_, _, _, rfl, MF.out⟩, BF.out⟩ PE.out.1 PE.out.2 : Two2 w y9 (.returned (.tuple #[.agg #[.slice none 0 0], .bool false])) (wrdP op x y) (wrdB x y))
     exact bodyPost_ret (v := .tuple #[.agg #[.slice none 0 0], .bool false]) (by simp [results, Tryz.results94, go_sem, z9]) rfl TF.out
  ·  skip
     have o0 := T3.out.o.cell 0 _ rfl
     have s0 := T3.out.o.soft 0
     have TN : Turn (w.heap.size + 1 + 1) u2 (u2.setCell ⟨w.heap.size + 1 + 1, 0, none⟩ (.slice none 0 0)) := (Turn.refl _ u2).setCell (p := ⟨w.heap.size + 1 + 1, 0, none⟩) rfl _
     have ZF := hide (T3.out.o.set 0 (.slice none 0 0) (by simp) rfl)
     have BF := hide (T3.out.bw.trans (TN.below (by omega) T3.out.bw.size))
     have MF : Hid (WPoly (u2.setCell ⟨w.heap.size + 1 + 1, 0, none⟩ (.slice none 0 0)) w.heap.size (u2.setCell ⟨w.heap.size + 1 + 1, 0, none⟩ (.slice none 0 0)).heap.size (.slice none 0 0) ([])) := WPoly.nil _ _ _
     clear TN T3 HX HY Hco
     go_wp2
     generalize (u2.setCell ⟨w.heap.size + 1 + 1, 0, none⟩ (.slice none 0 0)) = y9 at ZF BF MF ⊢
     have z9 := ZF.out.cell 0 _ rfl
     have TF := hide (two_cast ⟨⟨_, _, _, rfl, MF.out⟩, BF.out⟩ PE.out.1 PE.out.2 : Two2 w y9 (.returned (.tuple #[.agg #[.slice none 0 0], .bool false])) (wrdP op x y) (wrdB x y))
     exact bodyPost_ret (v := .tuple #[.agg #[.slice none 0 0], .bool false]) (by simp [results, Tryz.results94, go_sem, z9]) rfl TF.out
 | true =>
  have WB : wrdB x y = true := by unfold wrdB; rw [EX.out.2, EY.out.2]; exact eb
  have PE : Hid (constP (Wrd.wdo op a1 b1) = wrdP op x y ∧ true = wrdB x y) := show _ ∧ _ by unfold wrdP; rw [WB, EX.out.1, EY.out.1]; exact ⟨rfl, rfl⟩
  have f : a2 = true ∧ b2 = true := by simpa using eb
  clear WB eb EX EY
  obtain ⟨rfl, rfl⟩ := f
  have c0 := Hco.out.cell 0 _ rfl
  go_wp2_with fail
  refine (Wrd.implDo op a1 b1 _).mono ?_
  rintro e u3 ⟨rfl, hb⟩
  clear c0
  replace T3 := hide (T3.out.below hb)
  replace HX := hide (HX.out.below hb)
  replace HY := hide (HY.out.below hb)
  replace Hco := hide (Hco.out.below hb)
  clear hb
  have UL : Hid (w.heap.size + 1 + 1 < u3.heap.size) := T3.out.o.lt
  go_wp2_with fail
  refine (implConst (Wrd.wdo op a1 b1) _).mono ?_
  rintro e u4 ⟨pa, pl, pc, rfl, MP, hb⟩
  replace MP := hide MP
  have US : Hid (u3.heap.size ≤ u4.heap.size) := hb.size
  replace T3 := hide (T3.out.below hb)
  replace HX := hide (HX.out.below hb)
  replace HY := hide (HY.out.below hb)
  replace Hco := hide (Hco.out.below hb)
  clear hb
  have o0 := T3.out.o.cell 0 _ rfl
  have s0 := T3.out.o.soft 0
  have TN : Turn (w.heap.size + 1 + 1) u4 (u4.setCell ⟨w.heap.size + 1 + 1, 0, none⟩ (.slice pa pl pc)) := (Turn.refl _ u4).setCell (p := ⟨w.heap.size + 1 + 1, 0, none⟩) rfl _
  have ZF := hide (T3.out.o.set 0 (.slice pa pl pc) (by simp) rfl)
  have BF := hide (T3.out.bw.trans (TN.below (by omega) T3.out.bw.size))
  have MF : Hid (WPoly (u4.setCell ⟨w.heap.size + 1 + 1, 0, none⟩ (.slice pa pl pc)) w.heap.size (u4.setCell ⟨w.heap.size + 1 + 1, 0, none⟩ (.slice pa pl pc)).heap.size (.slice pa pl pc) (constP (Wrd.wdo op a1 b1))) := (MP.out.keep (Keep.of_turn TN) (fun b' h1 h2 (h3 : b' = _) => by have := UL.out; omega)).wide (by have := UL.out; omega) TN.size
  clear TN T3 HX HY Hco
  go_wp2
  generalize (u4.setCell ⟨w.heap.size + 1 + 1, 0, none⟩ (.slice pa pl pc)) = y9 at ZF BF MF ⊢
  have z9 := ZF.out.cell 0 _ rfl
  have TF := hide (two_cast ⟨⟨_, _, _, rfl, MF.out⟩, BF.out⟩ PE.out.1 PE.out.2 : Two2 w y9 (.returned (.tuple #[.agg #[.slice pa pl pc], .bool true])) (wrdP op x y) (wrdB x y))
  exact bodyPost_ret (v := .tuple #[.agg #[.slice pa pl pc], .bool true]) (by simp [results, Tryz.results94, go_sem, z9]) rfl TF.out
end Go.Proofs.YtggilenddbobnaaGreat.Tab
namespace Go.Proofs.YtggilenddbobnaaGreat.Tab
set_option linter.unusedVariables false
set_option linter.unusedSimpArgs false
open Go.ChangeShapes Go.WideShapes Go.ChangeAt Go.RowKit IntS Pol
def orP (P : List Mono → List Mono → List Mono) (B : List Mono → List Mono → Bool) (P' : List Mono → List Mono → List Mono) (x y : List Mono) : List Mono := if B x y = true then P x y else P' x y
def orB (B B' : List Mono → List Mono → Bool) (x y : List Mono) : Bool := B x y || B' x y
/-- A function value with what it has captured sees, at every world that has grown from one. -/
def Sees (f : Nat) (cs : List Value) (w0 : World) (P : List Mono → List Mono → List Mono) (B : List Mono → List Mono → Bool) : Prop :=
 ∀ (x y : List Mono) (Bx By : Nat) (vx vy : Value) (w : World), Below w0.heap.size w0 w → PRow w Bx vx x → PRow w By vy y → Calls Tryz.prog f (.agg #[vx] :: .agg #[vy] :: cs).toArray w fun e w' => Two2 w w' e (P x y) (B x y)
theorem Sees.below {f : Nat} {cs : List Value} {w0 w1 : World} {P : List Mono → List Mono → List Mono} {B : List Mono → List Mono → Bool} (h : Sees f cs w0 P B) (hb : Below w0.heap.size w0 w1) : Sees f cs w1 P B :=
 fun x y Bx By vx vy w h1 hx hy => h x y Bx By vx vy w (hb.trans (h1.mono hb.size)) hx hy
set_option maxRecDepth 8000 in
set_option maxHeartbeats 8000000 in
theorem or_first (P P' : List Mono → List Mono → List Mono) (B B' : List Mono → List Mono → Bool) (s n c1 c2 : Nat) (w0 : World) (hs : Rec s [.func (.func 94) #[] #[.pointer (some ⟨c1, 0, none⟩)]] w0) (hn : Rec n [.func (.func 98) #[] #[.pointer (some ⟨c2, 0, none⟩)]] w0) (SF : Sees 94 [.pointer (some ⟨c1, 0, none⟩)] w0 P B) (SG : Sees 98 [.pointer (some ⟨c2, 0, none⟩)] w0 P' B') :
 Sees 97 [.pointer (some ⟨s, 0, none⟩), .pointer (some ⟨n, 0, none⟩)] w0 (orP P B P') (orB B B') := by
 intro x y Bx By vx vy w h0 hx hy
 obtain ⟨qx, cx, offx, rfl, hx'⟩ := hx
 obtain ⟨qy, cy, offy, rfl, hy'⟩ := hy
 have hx : PRow w Bx (.slice qx x.length cx) x := ⟨qx, cx, offx, rfl, hx'⟩
 have hy : PRow w By (.slice qy y.length cy) y := ⟨qy, cy, offy, rfl, hy'⟩
 have T := Three.new w [.slice qx x.length cx] [.slice qy y.length cy] [.slice none 0 0] 35 35 35
 have bn := T.bw
 have HX := hide (hx.below bn)
 have HY := hide (hy.below bn)
 have Hs := hide ((hs.below h0).below bn)
 have Hn := hide ((hn.below h0).below bn)
 have BB := hide (h0.trans (bn.mono h0.size))
 have FF := hide SF
 have GG := hide SG
 have T3 := hide T
 clear T bn hx hy hx' hy' hs hn h0 SF SG
 have c9 := Hs.out.cell 0 _ rfl
 go_enter Tryz.func97, Tryz.ntmps97
 go_wp2_with fail
 clear c9
 generalize ((w.alloc (.cells #[.slice qx x.length cx] 35)).alloc (.cells #[.slice qy y.length cy] 35)).alloc (.cells #[.slice none 0 0] 35) = V at T3 HX HY Hs Hn BB ⊢
 have x0 := T3.out.a.cell 0 _ rfl
 have y0 := T3.out.z.cell 0 _ rfl
 have c0 := Hs.out.cell 0 _ rfl
 have VL : Hid (w.heap.size + 1 + 1 < V.heap.size) := T3.out.o.lt
 go_wp2_with fail
 refine (FF.out x y Bx By _ _ _ BB.out HX.out HY.out).mono ?_
 rintro e u1 ⟨⟨pa, pl, pc, rfl, MW⟩, hb⟩
 clear x0 y0 c0
 have S1 : Hid (V.heap.size ≤ u1.heap.size) := hb.size
 replace MW := hide MW
 replace T3 := hide (T3.out.below hb)
 replace HX := hide (HX.out.below hb)
 replace HY := hide (HY.out.below hb)
 replace Hs := hide (Hs.out.below hb)
 replace Hn := hide (Hn.out.below hb)
 replace BB := hide (BB.out.trans (hb.mono BB.out.size))
 clear hb
 have bo : Below u1.heap.size u1 (u1.alloc (.cells #[.slice pa pl pc] 35)) := (Below.refl _ _).alloc (Nat.le_refl _) _
 have PB := hide (Rec.new u1 [.slice pa pl pc] 35)
 have SA : Hid ((u1.alloc (.cells #[.slice pa pl pc] 35)).heap.size = u1.heap.size + 1) := by simp [Hid]
 replace T3 := hide (T3.out.below bo)
 replace HX := hide (HX.out.below bo)
 replace HY := hide (HY.out.below bo)
 replace Hs := hide (Hs.out.below bo)
 replace Hn := hide (Hn.out.below bo)
 replace MW := hide (MW.out.below bo)
 replace BB := hide (BB.out.trans (bo.mono BB.out.size))
 clear bo
 cases eb : B x y with
 | true =>
  have PE : Hid (P x y = orP P B P' x y ∧ true = orB B B' x y) := show _ ∧ _ by unfold orP orB; rw [eb]; exact ⟨rfl, rfl⟩
  clear eb
  have p0 := PB.out.cell 0 _ rfl
  have o0 := T3.out.o.cell 0 _ rfl
  have s0 := T3.out.o.soft 0
  have TN : Turn (w.heap.size + 1 + 1) (u1.alloc (.cells #[.slice pa pl pc] 35)) ((u1.alloc (.cells #[.slice pa pl pc] 35)).setCell ⟨w.heap.size + 1 + 1, 0, none⟩ (.slice pa pl pc)) := (Turn.refl _ (u1.alloc (.cells #[.slice pa pl pc] 35))).setCell (p := ⟨w.heap.size + 1 + 1, 0, none⟩) rfl _
  have ZF := hide (T3.out.o.set 0 (.slice pa pl pc) (by simp) rfl)
  have BF := hide (T3.out.bw.trans (TN.below (by omega) T3.out.bw.size))
  have MF : Hid (WPoly ((u1.alloc (.cells #[.slice pa pl pc] 35)).setCell ⟨w.heap.size + 1 + 1, 0, none⟩ (.slice pa pl pc)) w.heap.size ((u1.alloc (.cells #[.slice pa pl pc] 35)).setCell ⟨w.heap.size + 1 + 1, 0, none⟩ (.slice pa pl pc)).heap.size (.slice pa pl pc) (P x y)) := (MW.out.keep (Keep.of_turn TN) (fun b' h1 h2 (h3 : b' = _) => by have := VL.out; omega)).wide (by have := VL.out; omega) (by have := SA.out; have := TN.size; omega)
  clear TN T3 HX HY Hs Hn BB MW PB
  go_wp2
  generalize ((u1.alloc (.cells #[.slice pa pl pc] 35)).setCell ⟨w.heap.size + 1 + 1, 0, none⟩ (.slice pa pl pc)) = y9 at ZF BF MF ⊢
  have z9 := ZF.out.cell 0 _ rfl
  have TF := hide (two_cast ⟨⟨_, _, _, rfl, MF.out⟩, BF.out⟩ PE.out.1 PE.out.2 : Two2 w y9 (.returned (.tuple #[.agg #[.slice pa pl pc], .bool true])) (orP P B P' x y) (orB B B' x y))
  exact bodyPost_ret (v := .tuple #[.agg #[.slice pa pl pc], .bool true]) (by simp [results, Tryz.results97, go_sem, z9]) rfl TF.out
 | false =>
  have PE : Hid (P' x y = orP P B P' x y ∧ B' x y = orB B B' x y) := show _ ∧ _ by unfold orP orB; rw [eb]; exact ⟨rfl, rfl⟩
  clear eb
  have x0 := T3.out.a.cell 0 _ rfl
  have y0 := T3.out.z.cell 0 _ rfl
  have c0 := Hn.out.cell 0 _ rfl
  go_wp2_with fail
  refine (GG.out x y Bx By _ _ _ BB.out HX.out HY.out).mono ?_
  rintro e u2 ⟨⟨pb, bl, bc, rfl, M2⟩, hb⟩
  clear x0 y0 c0
  have S2 : Hid ((u1.alloc (.cells #[.slice pa pl pc] 35)).heap.size ≤ u2.heap.size) := hb.size
  replace T3 := hide (T3.out.below hb)
  replace M2 := hide M2
  clear hb
  have o0 := T3.out.o.cell 0 _ rfl
  have s0 := T3.out.o.soft 0
  have TN : Turn (w.heap.size + 1 + 1) u2 (u2.setCell ⟨w.heap.size + 1 + 1, 0, none⟩ (.slice pb bl bc)) := (Turn.refl _ u2).setCell (p := ⟨w.heap.size + 1 + 1, 0, none⟩) rfl _
  have ZF := hide (T3.out.o.set 0 (.slice pb bl bc) (by simp) rfl)
  have BF := hide (T3.out.bw.trans (TN.below (by omega) T3.out.bw.size))
  have MF : Hid (WPoly (u2.setCell ⟨w.heap.size + 1 + 1, 0, none⟩ (.slice pb bl bc)) w.heap.size (u2.setCell ⟨w.heap.size + 1 + 1, 0, none⟩ (.slice pb bl bc)).heap.size (.slice pb bl bc) (P' x y)) := (M2.out.keep (Keep.of_turn TN) (fun b' h1 h2 (h3 : b' = _) => by have := VL.out; have := S1.out; have := SA.out; omega)).wide (by have := VL.out; have := S1.out; have := SA.out; omega) TN.size
  clear TN T3 HX HY Hs Hn BB MW PB
  go_wp2
  generalize (u2.setCell ⟨w.heap.size + 1 + 1, 0, none⟩ (.slice pb bl bc)) = y9 at ZF BF MF ⊢
  have z9 := ZF.out.cell 0 _ rfl
  have TF := hide (two_cast ⟨⟨_, _, _, rfl, MF.out⟩, BF.out⟩ PE.out.1 PE.out.2 : Two2 w y9 (.returned (.tuple #[.agg #[.slice pb bl bc], .bool (B' x y)])) (orP P B P' x y) (orB B B' x y))
  exact bodyPost_ret (v := .tuple #[.agg #[.slice pb bl bc], .bool (B' x y)]) (by simp [results, Tryz.results97, go_sem, z9]) rfl TF.out
set_option maxRecDepth 8000 in
set_option maxHeartbeats 8000000 in
theorem or_next (P P' : List Mono → List Mono → List Mono) (B B' : List Mono → List Mono → Bool) (s n c1 c2 c3 c4 : Nat) (w0 : World) (hs : Rec s [.func (.func 97) #[] #[.pointer (some ⟨c1, 0, none⟩), .pointer (some ⟨c2, 0, none⟩)]] w0) (hn : Rec n [.func (.func 99) #[] #[.pointer (some ⟨c3, 0, none⟩), .pointer (some ⟨c4, 0, none⟩)]] w0) (SF : Sees 97 [.pointer (some ⟨c1, 0, none⟩), .pointer (some ⟨c2, 0, none⟩)] w0 P B) (SG : Sees 99 [.pointer (some ⟨c3, 0, none⟩), .pointer (some ⟨c4, 0, none⟩)] w0 P' B') :
 Sees 97 [.pointer (some ⟨s, 0, none⟩), .pointer (some ⟨n, 0, none⟩)] w0 (orP P B P') (orB B B') := by
 intro x y Bx By vx vy w h0 hx hy
 obtain ⟨qx, cx, offx, rfl, hx'⟩ := hx
 obtain ⟨qy, cy, offy, rfl, hy'⟩ := hy
 have hx : PRow w Bx (.slice qx x.length cx) x := ⟨qx, cx, offx, rfl, hx'⟩
 have hy : PRow w By (.slice qy y.length cy) y := ⟨qy, cy, offy, rfl, hy'⟩
 have T := Three.new w [.slice qx x.length cx] [.slice qy y.length cy] [.slice none 0 0] 35 35 35
 have bn := T.bw
 have HX := hide (hx.below bn)
 have HY := hide (hy.below bn)
 have Hs := hide ((hs.below h0).below bn)
 have Hn := hide ((hn.below h0).below bn)
 have BB := hide (h0.trans (bn.mono h0.size))
 have FF := hide SF
 have GG := hide SG
 have T3 := hide T
 clear T bn hx hy hx' hy' hs hn h0 SF SG
 have c9 := Hs.out.cell 0 _ rfl
 go_enter Tryz.func97, Tryz.ntmps97
 go_wp2_with fail
 clear c9
 generalize ((w.alloc (.cells #[.slice qx x.length cx] 35)).alloc (.cells #[.slice qy y.length cy] 35)).alloc (.cells #[.slice none 0 0] 35) = V at T3 HX HY Hs Hn BB ⊢
 have x0 := T3.out.a.cell 0 _ rfl
 have y0 := T3.out.z.cell 0 _ rfl
 have c0 := Hs.out.cell 0 _ rfl
 have VL : Hid (w.heap.size + 1 + 1 < V.heap.size) := T3.out.o.lt
 go_wp2_with fail
 refine (FF.out x y Bx By _ _ _ BB.out HX.out HY.out).mono ?_
 rintro e u1 ⟨⟨pa, pl, pc, rfl, MW⟩, hb⟩
 clear x0 y0 c0
 have S1 : Hid (V.heap.size ≤ u1.heap.size) := hb.size
 replace MW := hide MW
 replace T3 := hide (T3.out.below hb)
 replace HX := hide (HX.out.below hb)
 replace HY := hide (HY.out.below hb)
 replace Hs := hide (Hs.out.below hb)
 replace Hn := hide (Hn.out.below hb)
 replace BB := hide (BB.out.trans (hb.mono BB.out.size))
 clear hb
 have bo : Below u1.heap.size u1 (u1.alloc (.cells #[.slice pa pl pc] 35)) := (Below.refl _ _).alloc (Nat.le_refl _) _
 have PB := hide (Rec.new u1 [.slice pa pl pc] 35)
 have SA : Hid ((u1.alloc (.cells #[.slice pa pl pc] 35)).heap.size = u1.heap.size + 1) := by simp [Hid]
 replace T3 := hide (T3.out.below bo)
 replace HX := hide (HX.out.below bo)
 replace HY := hide (HY.out.below bo)
 replace Hs := hide (Hs.out.below bo)
 replace Hn := hide (Hn.out.below bo)
 replace MW := hide (MW.out.below bo)
 replace BB := hide (BB.out.trans (bo.mono BB.out.size))
 clear bo
 cases eb : B x y with
 | true =>
  have PE : Hid (P x y = orP P B P' x y ∧ true = orB B B' x y) := show _ ∧ _ by unfold orP orB; rw [eb]; exact ⟨rfl, rfl⟩
  clear eb
  have p0 := PB.out.cell 0 _ rfl
  have o0 := T3.out.o.cell 0 _ rfl
  have s0 := T3.out.o.soft 0
  have TN : Turn (w.heap.size + 1 + 1) (u1.alloc (.cells #[.slice pa pl pc] 35)) ((u1.alloc (.cells #[.slice pa pl pc] 35)).setCell ⟨w.heap.size + 1 + 1, 0, none⟩ (.slice pa pl pc)) := (Turn.refl _ (u1.alloc (.cells #[.slice pa pl pc] 35))).setCell (p := ⟨w.heap.size + 1 + 1, 0, none⟩) rfl _
  have ZF := hide (T3.out.o.set 0 (.slice pa pl pc) (by simp) rfl)
  have BF := hide (T3.out.bw.trans (TN.below (by omega) T3.out.bw.size))
  have MF : Hid (WPoly ((u1.alloc (.cells #[.slice pa pl pc] 35)).setCell ⟨w.heap.size + 1 + 1, 0, none⟩ (.slice pa pl pc)) w.heap.size ((u1.alloc (.cells #[.slice pa pl pc] 35)).setCell ⟨w.heap.size + 1 + 1, 0, none⟩ (.slice pa pl pc)).heap.size (.slice pa pl pc) (P x y)) := (MW.out.keep (Keep.of_turn TN) (fun b' h1 h2 (h3 : b' = _) => by have := VL.out; omega)).wide (by have := VL.out; omega) (by have := SA.out; have := TN.size; omega)
  clear TN T3 HX HY Hs Hn BB MW PB
  go_wp2
  generalize ((u1.alloc (.cells #[.slice pa pl pc] 35)).setCell ⟨w.heap.size + 1 + 1, 0, none⟩ (.slice pa pl pc)) = y9 at ZF BF MF ⊢
  have z9 := ZF.out.cell 0 _ rfl
  have TF := hide (two_cast ⟨⟨_, _, _, rfl, MF.out⟩, BF.out⟩ PE.out.1 PE.out.2 : Two2 w y9 (.returned (.tuple #[.agg #[.slice pa pl pc], .bool true])) (orP P B P' x y) (orB B B' x y))
  exact bodyPost_ret (v := .tuple #[.agg #[.slice pa pl pc], .bool true]) (by simp [results, Tryz.results97, go_sem, z9]) rfl TF.out
 | false =>
  have PE : Hid (P' x y = orP P B P' x y ∧ B' x y = orB B B' x y) := show _ ∧ _ by unfold orP orB; rw [eb]; exact ⟨rfl, rfl⟩
  clear eb
  have x0 := T3.out.a.cell 0 _ rfl
  have y0 := T3.out.z.cell 0 _ rfl
  have c0 := Hn.out.cell 0 _ rfl
  go_wp2_with fail
  refine (GG.out x y Bx By _ _ _ BB.out HX.out HY.out).mono ?_
  rintro e u2 ⟨⟨pb, bl, bc, rfl, M2⟩, hb⟩
  clear x0 y0 c0
  have S2 : Hid ((u1.alloc (.cells #[.slice pa pl pc] 35)).heap.size ≤ u2.heap.size) := hb.size
  replace T3 := hide (T3.out.below hb)
  replace M2 := hide M2
  clear hb
  have o0 := T3.out.o.cell 0 _ rfl
  have s0 := T3.out.o.soft 0
  have TN : Turn (w.heap.size + 1 + 1) u2 (u2.setCell ⟨w.heap.size + 1 + 1, 0, none⟩ (.slice pb bl bc)) := (Turn.refl _ u2).setCell (p := ⟨w.heap.size + 1 + 1, 0, none⟩) rfl _
  have ZF := hide (T3.out.o.set 0 (.slice pb bl bc) (by simp) rfl)
  have BF := hide (T3.out.bw.trans (TN.below (by omega) T3.out.bw.size))
  have MF : Hid (WPoly (u2.setCell ⟨w.heap.size + 1 + 1, 0, none⟩ (.slice pb bl bc)) w.heap.size (u2.setCell ⟨w.heap.size + 1 + 1, 0, none⟩ (.slice pb bl bc)).heap.size (.slice pb bl bc) (P' x y)) := (M2.out.keep (Keep.of_turn TN) (fun b' h1 h2 (h3 : b' = _) => by have := VL.out; have := S1.out; have := SA.out; omega)).wide (by have := VL.out; have := S1.out; have := SA.out; omega) TN.size
  clear TN T3 HX HY Hs Hn BB MW PB
  go_wp2
  generalize (u2.setCell ⟨w.heap.size + 1 + 1, 0, none⟩ (.slice pb bl bc)) = y9 at ZF BF MF ⊢
  have z9 := ZF.out.cell 0 _ rfl
  have TF := hide (two_cast ⟨⟨_, _, _, rfl, MF.out⟩, BF.out⟩ PE.out.1 PE.out.2 : Two2 w y9 (.returned (.tuple #[.agg #[.slice pb bl bc], .bool (B' x y)])) (orP P B P' x y) (orB B B' x y))
  exact bodyPost_ret (v := .tuple #[.agg #[.slice pb bl bc], .bool (B' x y)]) (by simp [results, Tryz.results97, go_sem, z9]) rfl TF.out
theorem mkWords (op : Int) (w : World) : Calls Tryz.prog 59 #[.int .i64 op] w fun e w' => ∃ b0 : Nat, e = .returned (.func (.func 94) #[] #[.pointer (some ⟨b0, 0, none⟩)]) ∧ Rec b0 [.int .i64 op] w' ∧ Below w.heap.size w w' := by
 have R0 := hide (Rec.new w [.int .i64 op] 3)
 have B0 := hide ((Below.refl w.heap.size w).alloc (Nat.le_refl _) (.cells #[.int .i64 op] 3))
 go_enter Tryz.func59, Tryz.ntmps59
 go_wp2
 go_ret
 exact ⟨_, rfl, R0.out, B0.out⟩
theorem mkSame (t : Int) (w : World) : Calls Tryz.prog 61 #[.int .i64 t] w fun e w' => ∃ b0 : Nat, e = .returned (.func (.func 98) #[] #[.pointer (some ⟨b0, 0, none⟩)]) ∧ Rec b0 [.int .i64 t] w' ∧ Below w.heap.size w w' := by
 have R0 := hide (Rec.new w [.int .i64 t] 3)
 have B0 := hide ((Below.refl w.heap.size w).alloc (Nat.le_refl _) (.cells #[.int .i64 t] 3))
 go_enter Tryz.func61, Tryz.ntmps61
 go_wp2
 go_ret
 exact ⟨_, rfl, R0.out, B0.out⟩
theorem mkBeside (k t : Int) (w : World) : Calls Tryz.prog 62 #[.int .i64 k, .int .i64 t] w fun e w' => ∃ b0 b1 : Nat, e = .returned (.func (.func 99) #[] #[.pointer (some ⟨b0, 0, none⟩), .pointer (some ⟨b1, 0, none⟩)]) ∧ Rec b0 [.int .i64 k] w' ∧ Rec b1 [.int .i64 t] w' ∧ Below w.heap.size w w' := by
 have R0 := hide ((Rec.new w [.int .i64 k] 3).alloc (.cells #[.int .i64 t] 3))
 have R1 : Hid (Rec (w.heap.size + 1) [.int .i64 t] ((w.alloc (.cells #[.int .i64 k] 3)).alloc (.cells #[.int .i64 t] 3))) := by
  have := Rec.new (w.alloc (.cells #[.int .i64 k] 3)) [.int .i64 t] 3
  rw [show (w.alloc (.cells #[.int .i64 k] 3)).heap.size = w.heap.size + 1 by simp] at this
  exact this
 have B0 := hide (((Below.refl w.heap.size w).alloc (Nat.le_refl _) (.cells #[.int .i64 k] 3)).alloc (by simp) (.cells #[.int .i64 t] 3))
 go_enter Tryz.func62, Tryz.ntmps62
 go_wp2
 go_ret
 exact ⟨_, _, rfl, R0.out, R1.out, B0.out⟩
end Go.Proofs.YtggilenddbobnaaGreat.Tab
