/-
  At every table of atoms, every Op and every two sums the program's TabDo answers as the specification's TabDo does, both answers, every field; it writes into no argument, and its answer owns its memory (the law FnExactTabDo returns true); no condition.
  The frame (lifted, over, proved) is written by my own program after the guide's worked texts; the walk and the lemmas ahead of it are mine.
-/
import Derived.Test.YtggilenddbobnaaGreatAl
import Derived.Test.YtggilenddbobnaaGreatRows
import Derived.Test.YtggilenddbobnaaGreatJ01
import Derived.Test.YtggilenddbobnaaGreatJ28
import Derived.WalkKit
import Derived.ProofKit
import Derived.OpenShut
import Derived.ShutString
import Derived.ChangeOld
import Derived.Below
import Derived.SizedLaws
namespace Go.Proofs.YtggilenddbobnaaGreat.fnExactTabDo
open Go.ChangeShapes Go.WideShapes Go.ChangeAt Go.RowKit
open Go.ChangeMaps (open_string shut_string)
set_option linter.unusedVariables false

theorem own : ownKnob Tryz.prog.godebug = none := by kernel_rfl
theorem laidOut : laidOutB Tryz.prog = true := by kernel_rfl

open IntS Pol Tab
set_option linter.unusedSimpArgs false
open Go
def act11 (w : World) (ts : List At) (x y : List Mono) (a1 n n' n2 : Int) (qa : Option Addr) (ca : Nat) (qx : Option Addr) (cx : Nat) (qy : Option Addr) (cy : Nat) (v1 v2 v3 v4 p1 p2 e1 e2 e3 : Value) : Act := { tmps := #[.agg #[.slice qa ts.length ca], .int .i64 a1, .agg #[.slice qx x.length cx], .agg #[.slice qy y.length cy], .pointer (some ⟨w.heap.size, 0, none⟩), undef, .pointer (some ⟨w.heap.size + 1, 0, none⟩), .pointer (some ⟨w.heap.size + 1 + 1, 0, none⟩), .bool false, .int .i64 n2, p1, p2, undef, undef, undef, undef, undef, undef, undef, undef, undef, undef, .agg #[.slice qa ts.length ca], .int .i64 1048576, .int .i64 n, .int .i64 n, .bool (decide (n < 0)), .agg #[.slice qx x.length cx], .int .i64 n, .int .i64 n', .int .i64 n', .bool (decide (n' < 0)), .agg #[.slice qy y.length cy], .int .i64 n', .int .i64 n2, .int .i64 n2, .bool (decide (n2 < 0)), e1, .agg #[.slice qa ts.length ca], v1, .int .i64 a1, .agg #[.slice qx x.length cx], v2, .agg #[.slice qy y.length cy], v3, v4, e2, e3, undef, undef, undef, undef, undef, undef, undef, undef, undef, undef, undef, undef, undef, undef, undef, undef, undef, undef, undef, undef, undef, undef, undef, undef, undef, undef, undef, undef, undef, undef, undef, undef, undef, undef, undef, undef, undef, undef, undef, undef, undef, undef, undef, undef, undef, undef, undef, undef, undef, undef, undef, undef, undef, undef, undef, undef, undef, undef, undef, undef, undef, undef, undef, undef, undef, undef, undef, undef, undef, undef, undef, undef, undef, undef, undef, undef, undef, undef, undef, undef, undef, undef, undef, undef, undef, undef, undef, undef, undef, undef, undef, undef, undef, undef, undef, undef, undef, undef, undef, undef, undef, undef, undef, undef, undef, undef, undef, undef, undef, undef, undef, undef, undef, undef, undef], defers := [] }
def act42 (w : World) (ts : List At) (x y : List Mono) (a1 n n' n2 : Int) (qa : Option Addr) (ca : Nat) (qx : Option Addr) (cx : Nat) (qy : Option Addr) (cy : Nat) (R : List At) (oZ1 oZ2 : Nat) (u3 u4 u5 u6 : World) (tx ty tz tg th : Int) (oq : Option Addr) (ocap : Nat) (opa : Option Addr) (opl opc : Nat) (o1 o2 o3 : Value) (gx gv gu : Nat) (gq : Option Addr) (gcap : Nat) (ga : Option Addr) (gn gc gu9 gu11 gu13 : Nat) (v1 v2 v3 v4 p1 p2 e1 e2 e3 : Value) : Act := { tmps := #[.agg #[.slice qa ts.length ca], .int .i64 a1, .agg #[.slice qx x.length cx], .agg #[.slice qy y.length cy], .pointer (some ⟨w.heap.size, 0, none⟩), undef, .pointer (some ⟨w.heap.size + 1, 0, none⟩), .pointer (some ⟨w.heap.size + 1 + 1, 0, none⟩), .bool false, .int .i64 n2, .pointer (some ⟨oZ1, 0, none⟩), .pointer (some ⟨oZ2, 0, none⟩), .pointer (some ⟨u3.heap.size, 0, none⟩), .pointer (some ⟨u4.heap.size, 0, none⟩), .pointer (some ⟨u5.heap.size, 0, none⟩), .pointer (some ⟨u6.heap.size, 0, none⟩), .pointer (some ⟨u6.heap.size + 1, 0, none⟩), .int .i64 tz, .int .i64 th, .int .i64 th, p1, p2, .agg #[.slice qa ts.length ca], .int .i64 1048576, .int .i64 n, .int .i64 n, .bool (decide (n < 0)), .agg #[.slice qx x.length cx], .int .i64 n, .int .i64 n', .int .i64 n', .bool (decide (n' < 0)), .agg #[.slice qy y.length cy], .int .i64 n', .int .i64 n2, .int .i64 n2, .bool (decide (n2 < 0)), .tuple #[.agg #[.slice oq R.length ocap], .agg #[.slice opa opl opc]], .agg #[.slice qa ts.length ca], o1, .int .i64 a1, .agg #[.slice qx x.length cx], o2, .agg #[.slice qy y.length cy], o3, .tuple #[.agg #[.slice oq R.length ocap], .agg #[.slice opa opl opc]], .agg #[.slice oq R.length ocap], .agg #[.slice opa opl opc], .agg #[.slice qa ts.length ca], .agg #[.slice (some ⟨gx, 0, none⟩) ts.length ts.length], .agg #[.slice qx x.length cx], .agg #[.slice (some ⟨gv, 0, none⟩) x.length x.length], .agg #[.slice qy y.length cy], .agg #[.slice (some ⟨gu, 0, none⟩) y.length y.length], .tuple #[.agg #[.slice gq R.length gcap], .agg #[.slice ga gn gc]], .agg #[.slice (some ⟨gx, 0, none⟩) ts.length ts.length], .int .i64 a1, .agg #[.slice (some ⟨gv, 0, none⟩) x.length x.length], .agg #[.slice (some ⟨gu, 0, none⟩) y.length y.length], .tuple #[.agg #[.slice gq R.length gcap], .agg #[.slice ga gn gc]], .agg #[.slice gq R.length gcap], .agg #[.slice ga gn gc], .agg #[.slice gq R.length gcap], .agg #[.slice oq R.length ocap], .bool true, .bool false, .bool false, .agg #[.slice ga gn gc], .agg #[.slice opa opl opc], .bool true, .bool false, .bool false, .agg #[.slice (some ⟨gx, 0, none⟩) ts.length ts.length], .agg #[.slice qa ts.length ca], .agg #[.slice (some ⟨gu9, 0, none⟩) ts.length ts.length], .bool true, .bool false, .agg #[.slice (some ⟨gv, 0, none⟩) x.length x.length], .agg #[.slice qx x.length cx], .agg #[.slice (some ⟨gu11, 0, none⟩) x.length x.length], .bool true, .bool false, .agg #[.slice (some ⟨gu, 0, none⟩) y.length y.length], .agg #[.slice qy y.length cy], .agg #[.slice (some ⟨gu13, 0, none⟩) y.length y.length], .bool true, .bool false, .agg #[.slice (some ⟨gx, 0, none⟩) ts.length ts.length], .int .i64 1, .int .i64 tx, .agg #[.slice (some ⟨gv, 0, none⟩) x.length x.length], .int .i64 tx, .int .i64 ty, .agg #[.slice (some ⟨gu, 0, none⟩) y.length y.length], .int .i64 ty, .int .i64 tz, .int .i64 tz, .bool (decide (tz < 0)), .bool (decide (tz < 0)), .agg #[.slice gq R.length gcap], .agg #[.slice oq R.length ocap], .bool true, .bool false, .bool (decide (tz < 0)), .bool (decide (tz < 0)), .agg #[.slice ga gn gc], .agg #[.slice opa opl opc], .bool true, .bool false, .bool (decide (tz < 0)), .agg #[.slice gq R.length gcap], .int .i64 1, .int .i64 tg, .agg #[.slice ga gn gc], .int .i64 tg, .int .i64 th, .agg #[.slice gq R.length gcap], .int .i64 1, .int .i64 tg, .int .i64 tg, .bool (decide (tg < 0)), .agg #[.slice ga gn gc], .int .i64 tg, .int .i64 th, .int .i64 th, .bool (decide (th < 0)), .int .i64 th, .int .i64 th, .bool false, e1, .agg #[.slice qa ts.length ca], v1, .int .i64 a1, .agg #[.slice qx x.length cx], v2, .agg #[.slice qy y.length cy], v3, v4, e2, e3, undef, undef, undef, undef, undef, undef, undef, undef, undef, undef, undef, undef, undef, undef, undef, undef, undef, undef, undef, undef, undef, undef, undef], defers := [] }
theorem same_nei (b : Int) : (b != b) = false := by simp

set_option maxRecDepth 8000 in
set_option maxHeartbeats 64000000 in
theorem walk (a0 : Array Value) (a1 : Int) (w1 : (Lit.int .i64 a1).wf = true) (a2 : Array Value) (a3 : Array Value) (w : World) (w0 : Shape.Holds Tryz.prog w 9 24 a0.toList) (w2 : Shape.Holds Tryz.prog w 9 27 a2.toList) (w3 : Shape.Holds Tryz.prog w 9 27 a3.toList)  :
 Calls Tryz.prog 3 #[.agg a0, .int .i64 a1, .agg a2, .agg a3] w fun e w' => e = .returned (.bool true) ∧ Below w.heap.size w w' := by
 obtain ⟨v, ts, B, rfl, hP⟩ := Tab.of_holds w0
 obtain ⟨vx, x, Bx, rfl, hX⟩ := Pol.of_holds w2
 obtain ⟨vy, y, By, rfl, hY⟩ := Pol.of_holds w3
 have RM := hide hP
 have RX := hide hX
 have RY := hide hY
 obtain ⟨qa, ca, _, rfl, _⟩ := hP
 obtain ⟨qx, cx, _, rfl, _⟩ := hX
 obtain ⟨qy, cy, _, rfl, _⟩ := hY
 clear w0 w1 w2 w3
 obtain ⟨R, eR⟩ : ∃ R, dosT ts a1 x y = R := ⟨_, rfl⟩
 have ER := hide eR
 obtain ⟨T, eT⟩ : ∃ T, dosP ts a1 x y = T := ⟨_, rfl⟩
 have ET := hide eT
 have SR0 : Hid (R.length + totT R ≤ ts.length + totT ts + 1 + (x.length + tot x + (y.length + tot y))) := by rw [← eR]; exact small_dot
 have ST0 : Hid (x.length + tot x ≤ 2000000 → y.length + tot y ≤ 2000000 → T.length + tot T ≤ 2000000) := fun h1 h2 => by rw [← eT]; exact small_do h1 h2
 clear eR eT
 obtain ⟨tx, ex⟩ : ∃ tx, 1 + offT ts ts.length = tx := ⟨_, rfl⟩
 have tq : 0 ≤ tx := by rw [← ex, offT_full]; omega
 have EX := hide ex
 clear ex
 obtain ⟨ty, ey⟩ : ∃ ty, tx + offs x x.length = ty := ⟨_, rfl⟩
 have tr : 0 ≤ ty := by rw [← ey, offs_full]; omega
 have EY := hide ey
 clear ey
 obtain ⟨tz, ez⟩ : ∃ tz, ty + offs y y.length = tz := ⟨_, rfl⟩
 have tz0 : ¬ tz < 0 := by rw [← ez, offs_full]; omega
 have EZ := hide ez
 clear ez
 obtain ⟨tg, eg⟩ : ∃ tg, 1 + offT R R.length = tg := ⟨_, rfl⟩
 have tg0 : 0 ≤ tg := by rw [← eg, offT_full]; omega
 have EG := hide eg
 clear eg
 obtain ⟨th, eh⟩ : ∃ th, tg + offs T T.length = th := ⟨_, rfl⟩
 have th0 : ¬ th < 0 := by rw [← eh, offs_full]; omega
 have tg1 : ¬ tg < 0 := by omega
 have EH := hide eh
 clear eh
 have pn := same_nei th
 have T3 := hide (Three.new w [.slice qa ts.length ca] [.slice qx x.length cx] [.slice qy y.length cy] 24 27 27)
 have TA := hide T3.out.a
 have TX := hide T3.out.z
 have TY := hide T3.out.o
 have BW := hide T3.out.bw
 clear T3
 go_enter Tryz.func3, Tryz.ntmps3
 go_wp2_with fail
 generalize (((w.alloc (.cells #[.slice qa ts.length ca] 24)).alloc (.cells #[.slice qx x.length cx] 27)).alloc (.cells #[.slice qy y.length cy] 27)) = v0 at TA TX TY BW ⊢
 have ta0 := TA.out.cell 0 _ rfl
 go_wp2_with fail
 refine (szTabTab ts B _ 1048576 _ (RM.out.below BW.out) (by omega) (by omega)).mono ?_
 rintro e u0 ⟨n, rfl, n0, hs, hb⟩
 clear ta0
 replace TA := hide (TA.out.below hb)
 replace TX := hide (TX.out.below hb)
 replace TY := hide (TY.out.below hb)
 replace BW := hide (BW.out.trans (hb.mono BW.out.size))
 clear hb
 by_cases hn : n < 0
 · clear TA TX TY
   go_wp2
   go_ret
   exact ⟨rfl, BW.out⟩
 have HS : Hid (SmallT ts) := show SmallT ts by have := hs (by omega); unfold SmallT; omega
 have SP : Hid (ts.length + totT ts ≤ 1048576) := show _ ≤ _ by have := hs (by omega); omega
 have n9 : n ≤ 1048576 := by have := hs (by omega); omega
 clear hs
 have tx0 := TX.out.cell 0 _ rfl
 go_wp2_with fail
 refine (szTrmPoly x Bx _ n _ (RX.out.below BW.out) (by omega) (by omega)).mono ?_
 rintro e u1 ⟨n', rfl, n0', hs, hb⟩
 clear tx0
 replace TA := hide (TA.out.below hb)
 replace TX := hide (TX.out.below hb)
 replace TY := hide (TY.out.below hb)
 replace BW := hide (BW.out.trans (hb.mono BW.out.size))
 clear hb
 by_cases hn' : n' < 0
 · clear TA TX TY
   go_wp2
   go_ret
   exact ⟨rfl, BW.out⟩
 have HX : Hid (SmallP x) := show SmallP x by have := hs (by omega); unfold SmallP; omega
 have SX : Hid (x.length + tot x ≤ 1048576) := show _ ≤ _ by have := hs (by omega); omega
 have n9' : n' ≤ 1048576 := by have := hs (by omega); omega
 clear hs
 have ty0 := TY.out.cell 0 _ rfl
 go_wp2_with fail
 refine (szTrmPoly y By _ n' _ (RY.out.below BW.out) (by omega) (by omega)).mono ?_
 rintro e u2 ⟨n2, rfl, n02, hs, hb⟩
 clear ty0
 replace TA := hide (TA.out.below hb)
 replace TX := hide (TX.out.below hb)
 replace TY := hide (TY.out.below hb)
 replace BW := hide (BW.out.trans (hb.mono BW.out.size))
 clear hb
 by_cases hn2 : n2 < 0
 · clear TA TX TY
   go_wp2
   go_ret
   exact ⟨rfl, BW.out⟩
 have HY : Hid (SmallP y) := show SmallP y by have := hs (by omega); unfold SmallP; omega
 have SY : Hid (y.length + tot y ≤ 1048576) := show _ ≤ _ by have := hs (by omega); omega
 have SR : Hid (R.length + totT R ≤ 1000000000) := show _ ≤ _ by have := SR0.out; have := SP.out; have := SX.out; have := SY.out; omega
 have SRS : Hid (R.length + totT R ≤ 4000000) := show _ ≤ _ by have := SR0.out; have := SP.out; have := SX.out; have := SY.out; omega
 have STT : Hid (T.length + tot T ≤ 2000000) := ST0.out (by have := SX.out; omega) (by have := SY.out; omega)
 clear hs SR0 ST0
 have lw : Hid (w.heap.size + 1 + 1 < u2.heap.size) := TY.out.lt
 go_wp2_with fail
 refine PhaseIn.cut (fun ac W => ∃ v1 v2 v3 q cap pa pl pc Z1 Z2 la ha mid hid, ac = act11 w ts x y a1 n n' n2 qa ca qx cx qy cy v1 v2 v3 (.tuple #[.agg #[.slice q R.length cap], .agg #[.slice pa pl pc]]) (.pointer (some ⟨Z1, 0, none⟩)) (.pointer (some ⟨Z2, 0, none⟩)) (.tuple #[.agg #[.slice q R.length cap], .agg #[.slice pa pl pc]]) (.agg #[.slice q R.length cap]) (.agg #[.slice pa pl pc]) ∧ Hid (Done u2.drew R T Z1 Z2 q cap pa pl pc la ha mid hid W)) ?_ ?_
 ·
  refine PhaseIn.region (S := fun w' => Rec w.heap.size [.slice qa ts.length ca] w' ∧ Rec (w.heap.size + 1) [.slice qx x.length cx] w' ∧ Rec (w.heap.size + 1 + 1) [.slice qy y.length cy] w') 15 (by kernel_rfl) ?_
  have hb : Below u2.heap.size u2 u2.drew := (Below.refl _ _).drew
  replace TA := hide (TA.out.below hb)
  replace TX := hide (TX.out.below hb)
  replace TY := hide (TY.out.below hb)
  replace BW := hide (BW.out.trans (hb.mono BW.out.size))
  clear hb
  generalize u2.drew = d2 at BW TA TX TY ⊢
  have hHeld := And.intro TA.out (And.intro TX.out TY.out)
  refine PhaseIn.takeE (i := 0) (v := ?_) [0, 1, 4, 6, 7, 8, 9, 10, 13, 14] 38 rfl (by rfl) (by kernel_rfl) (fun _ _ _ h => h) (Or.inl ⟨by kernel_rfl, ?_⟩) hHeld ?_
  rotate_left
  · intro w' hSw
    (try dsimp only at hSw)
    have z0 := hSw.1.cell 0 _ rfl
    go_simp
    first | done | with_reducible rfl
  try simp only [Act.put, sA, List.set]
  refine PhaseIn.takeE (i := 2) (v := ?_) [2, 7, 8, 9, 10, 13, 14] 40 rfl (by rfl) (by kernel_rfl) (fun _ _ _ h => h) (Or.inl ⟨by kernel_rfl, ?_⟩) hHeld ?_
  rotate_left
  · intro w' hSw
    (try dsimp only at hSw)
    go_simp
    first | done | with_reducible rfl
  try simp only [Act.put, sA, List.set]
  refine PhaseIn.takeE (i := 3) (v := ?_) [3, 4, 6, 7, 8, 9, 10, 13, 14] 41 rfl (by rfl) (by kernel_rfl) (fun _ _ _ h => h) (Or.inl ⟨by kernel_rfl, ?_⟩) hHeld ?_
  rotate_left
  · intro w' hSw
    (try dsimp only at hSw)
    have z0 := hSw.2.1.cell 0 _ rfl
    go_simp
    first | done | with_reducible rfl
  try simp only [Act.put, sA, List.set]
  refine PhaseIn.takeE (i := 5) (v := ?_) [5, 6, 7, 8, 9, 10, 13, 14] 43 rfl (by rfl) (by kernel_rfl) (fun _ _ _ h => h) (Or.inl ⟨by kernel_rfl, ?_⟩) hHeld ?_
  rotate_left
  · intro w' hSw
    (try dsimp only at hSw)
    have z0 := hSw.2.2.cell 0 _ rfl
    go_simp
    first | done | with_reducible rfl
  try simp only [Act.put, sA, List.set]
  clear hHeld
  refine PhaseIn.layer (F := 8) 1 11 12 _ _ _ rfl rfl rfl rfl rfl rfl (fun b1 b2 => #[true, false, true, true, false, true, false, false, false, false, false, b1, b2, false, false]) (fun b1 b2 ac W => ∃ v1 v2 v3 v4 p1 p2 lo hi, ac = act11 w ts x y a1 n n' n2 qa ca qx cx qy cy v1 v2 v3 v4 p1 p2 undef undef undef ∧ Hid (St d2 ts x y R T 0 b1 b2 v1 v2 v3 v4 p1 p2 lo hi W)) (fun b1 b2 ac W => ∃ v1 v2 v3 v4 p1 p2 lo hi, ac = act11 w ts x y a1 n n' n2 qa ca qx cx qy cy v1 v2 v3 v4 p1 p2 undef undef undef ∧ Hid (St d2 ts x y R T 1 b1 b2 v1 v2 v3 v4 p1 p2 lo hi W)) ?_ ?_ ?_ ?_ ?_ ?_ ?_ false false _ _ ?_
  · intro b1 b2; cases b1 <;> cases b2 <;> kernel_rfl
  · intro b'; cases b' <;> kernel_rfl
  · intro b'; cases b' <;> kernel_rfl
  · intro b1 b2 ac W hI
    rw [show 8 + PhaseIn.left2 b1 b2 = 7 + PhaseIn.left2 b1 b2 + 1 by omega, show ((fun b1 b2 => #[true, false, true, true, false, true, false, false, false, false, false, b1, b2, false, false]) b1 b2).setIfInBounds 1 true = (fun b1 b2 => #[true, true, true, true, false, true, false, false, false, false, false, b1, b2, false, false]) b1 b2 from by cases b1 <;> cases b2 <;> kernel_rfl]
    refine PhaseIn.layer (F := 7) 4 11 12 _ _ _ rfl rfl rfl rfl rfl rfl (fun b1 b2 => #[true, true, true, true, false, true, false, false, false, false, false, b1, b2, false, false]) (fun b1 b2 ac W => ∃ v1 v2 v3 v4 p1 p2 lo hi, ac = act11 w ts x y a1 n n' n2 qa ca qx cx qy cy v1 v2 v3 v4 p1 p2 undef undef undef ∧ Hid (St d2 ts x y R T 1 b1 b2 v1 v2 v3 v4 p1 p2 lo hi W)) (fun b1 b2 ac W => ∃ v1 v2 v3 v4 p1 p2 lo hi, ac = act11 w ts x y a1 n n' n2 qa ca qx cx qy cy v1 v2 v3 v4 p1 p2 undef undef undef ∧ Hid (St d2 ts x y R T 2 b1 b2 v1 v2 v3 v4 p1 p2 lo hi W)) ?_ ?_ ?_ ?_ ?_ ?_ ?_ b1 b2 _ _ hI
    · intro b1 b2; cases b1 <;> cases b2 <;> kernel_rfl
    · intro b'; cases b' <;> kernel_rfl
    · intro b'; cases b' <;> kernel_rfl
    · intro b1 b2 ac W hI
      rw [show 7 + PhaseIn.left2 b1 b2 = 6 + PhaseIn.left2 b1 b2 + 1 by omega, show ((fun b1 b2 => #[true, true, true, true, false, true, false, false, false, false, false, b1, b2, false, false]) b1 b2).setIfInBounds 4 true = (fun b1 b2 => #[true, true, true, true, true, true, false, false, false, false, false, b1, b2, false, false]) b1 b2 from by cases b1 <;> cases b2 <;> kernel_rfl]
      refine PhaseIn.layer (F := 6) 6 11 12 _ _ _ rfl rfl rfl rfl rfl rfl (fun b1 b2 => #[true, true, true, true, true, true, false, false, false, false, false, b1, b2, false, false]) (fun b1 b2 ac W => ∃ v1 v2 v3 v4 p1 p2 lo hi, ac = act11 w ts x y a1 n n' n2 qa ca qx cx qy cy v1 v2 v3 v4 p1 p2 undef undef undef ∧ Hid (St d2 ts x y R T 2 b1 b2 v1 v2 v3 v4 p1 p2 lo hi W)) (fun b1 b2 ac W => ∃ v1 v2 v3 v4 p1 p2 lo hi, ac = act11 w ts x y a1 n n' n2 qa ca qx cx qy cy v1 v2 v3 v4 p1 p2 undef undef undef ∧ Hid (St d2 ts x y R T 3 b1 b2 v1 v2 v3 v4 p1 p2 lo hi W)) ?_ ?_ ?_ ?_ ?_ ?_ ?_ b1 b2 _ _ hI
      · intro b1 b2; cases b1 <;> cases b2 <;> kernel_rfl
      · intro b'; cases b' <;> kernel_rfl
      · intro b'; cases b' <;> kernel_rfl
      · intro b1 b2 ac W hI
        rw [show 6 + PhaseIn.left2 b1 b2 = 5 + PhaseIn.left2 b1 b2 + 1 by omega, show ((fun b1 b2 => #[true, true, true, true, true, true, false, false, false, false, false, b1, b2, false, false]) b1 b2).setIfInBounds 6 true = (fun b1 b2 => #[true, true, true, true, true, true, true, false, false, false, false, b1, b2, false, false]) b1 b2 from by cases b1 <;> cases b2 <;> kernel_rfl]
        refine PhaseIn.layer (F := 5) 7 11 12 _ _ _ rfl rfl rfl rfl rfl rfl (fun b1 b2 => #[true, true, true, true, true, true, true, false, false, false, false, b1, b2, false, false]) (fun b1 b2 ac W => ∃ v1 v2 v3 v4 p1 p2 lo hi, ac = act11 w ts x y a1 n n' n2 qa ca qx cx qy cy v1 v2 v3 v4 p1 p2 undef undef undef ∧ Hid (St d2 ts x y R T 3 b1 b2 v1 v2 v3 v4 p1 p2 lo hi W)) (fun b1 b2 ac W => ∃ v1 v2 v3 q cap pa pl pc p1 p2 lo hi, ac = act11 w ts x y a1 n n' n2 qa ca qx cx qy cy v1 v2 v3 (.tuple #[.agg #[.slice q R.length cap], .agg #[.slice pa pl pc]]) p1 p2 undef undef undef ∧ Hid (St d2 ts x y R T 4 b1 b2 v1 v2 v3 (.tuple #[.agg #[.slice q R.length cap], .agg #[.slice pa pl pc]]) p1 p2 lo hi W)) ?_ ?_ ?_ ?_ ?_ ?_ ?_ b1 b2 _ _ hI
        · intro b1 b2; cases b1 <;> cases b2 <;> kernel_rfl
        · intro b'; cases b' <;> kernel_rfl
        · intro b'; cases b' <;> kernel_rfl
        · intro b1 b2 ac W hI
          rw [show 5 + PhaseIn.left2 b1 b2 = 2 + PhaseIn.left2 b1 b2 + 3 by omega, show ((fun b1 b2 => #[true, true, true, true, true, true, true, false, false, false, false, b1, b2, false, false]) b1 b2).setIfInBounds 7 true = (fun b1 b2 => #[true, true, true, true, true, true, true, true, false, false, false, b1, b2, false, false]) b1 b2 from by cases b1 <;> cases b2 <;> kernel_rfl]
          refine PhaseIn.thru (F := 2) (fun b1 b2 => #[true, true, true, true, true, true, true, true, false, false, false, b1, b2, false, false]) (fun b1 b2 => #[true, true, true, true, true, true, true, true, true, true, true, b1, b2, false, false]) (fun b1 b2 ac W => ∃ v1 v2 v3 q cap pa pl pc p1 p2 lo hi, ac = act11 w ts x y a1 n n' n2 qa ca qx cx qy cy v1 v2 v3 (.tuple #[.agg #[.slice q R.length cap], .agg #[.slice pa pl pc]]) p1 p2 undef undef undef ∧ Hid (St d2 ts x y R T 4 b1 b2 v1 v2 v3 (.tuple #[.agg #[.slice q R.length cap], .agg #[.slice pa pl pc]]) p1 p2 lo hi W)) (fun b1 b2 ac W => ∃ v1 v2 v3 q cap pa pl pc p1 p2 lo hi, ac = act11 w ts x y a1 n n' n2 qa ca qx cx qy cy v1 v2 v3 (.tuple #[.agg #[.slice q R.length cap], .agg #[.slice pa pl pc]]) p1 p2 (.tuple #[.agg #[.slice q R.length cap], .agg #[.slice pa pl pc]]) (.agg #[.slice q R.length cap]) (.agg #[.slice pa pl pc]) ∧ Hid (St d2 ts x y R T 4 b1 b2 v1 v2 v3 (.tuple #[.agg #[.slice q R.length cap], .agg #[.slice pa pl pc]]) p1 p2 lo hi W)) ?_ ?_ b1 b2 _ _ hI
          · refine PhaseIn.last (F := 2) 11 12 _ _ rfl rfl rfl rfl (fun b1 b2 => #[true, true, true, true, true, true, true, true, true, true, true, b1, b2, false, false]) (fun b1 b2 ac W => ∃ v1 v2 v3 q cap pa pl pc p1 p2 lo hi, ac = act11 w ts x y a1 n n' n2 qa ca qx cx qy cy v1 v2 v3 (.tuple #[.agg #[.slice q R.length cap], .agg #[.slice pa pl pc]]) p1 p2 (.tuple #[.agg #[.slice q R.length cap], .agg #[.slice pa pl pc]]) (.agg #[.slice q R.length cap]) (.agg #[.slice pa pl pc]) ∧ Hid (St d2 ts x y R T 4 b1 b2 v1 v2 v3 (.tuple #[.agg #[.slice q R.length cap], .agg #[.slice pa pl pc]]) p1 p2 lo hi W)) ?_ ?_ ?_ ?_ ?_ ?_
            · intro b1 b2 h; cases b1 <;> cases b2 <;> first | (cases h; done) | kernel_rfl
            · intro b'; cases b' <;> kernel_rfl
            · intro b'; cases b' <;> kernel_rfl
            · rintro b' ac W K ⟨v1, v2, v3, q, cap, pa, pl, pc, p1, p2, lo, hi, rfl, S0⟩ hK
              unfold Oper.wpIn
              try unfold act11
              refine ⟨fun _ _ => trivial, ?_⟩
              go_simp
              have S' := hide (S0.out.box1 32)
              try simp only [Act.put, sA, List.set]
              exact hK _ _ ⟨TA.out.below S'.out.bd, TX.out.below S'.out.bd, TY.out.below S'.out.bd⟩ ⟨v1, v2, v3, q, cap, pa, pl, pc, _, p2, lo, hi, rfl, S'⟩
            · rintro b' ac W K ⟨v1, v2, v3, q, cap, pa, pl, pc, p1, p2, lo, hi, rfl, S0⟩ hK
              unfold Oper.wpIn
              try unfold act11
              refine ⟨fun _ _ => trivial, ?_⟩
              go_simp
              have S' := hide (S0.out.box2 35)
              try simp only [Act.put, sA, List.set]
              exact hK _ _ ⟨TA.out.below S'.out.bd, TX.out.below S'.out.bd, TY.out.below S'.out.bd⟩ ⟨v1, v2, v3, q, cap, pa, pl, pc, p1, _, lo, hi, rfl, S'⟩
            · rintro ac W ⟨v1, v2, v3, q, cap, pa, pl, pc, p1, p2, lo, hi, rfl, S0⟩
              obtain ⟨Z1, rfl, -, -, -⟩ := S0.out.z1 rfl
              obtain ⟨Z2, rfl, -, -, -⟩ := S0.out.z2 rfl
              obtain ⟨r1, r2, ne, zd1, zd2, la, ha, mid, hid, DN⟩ := S0.out.done
              have D0 := hide DN
              have t1 : Turn Z1 W (W.setCell ⟨Z1, 0, none⟩ (.slice q R.length cap)) := (Turn.refl _ W).setCell (p := ⟨Z1, 0, none⟩) rfl _
              have B1 := S0.out.bd.trans (t1.below zd1 S0.out.bd.size)
              have r2' := r2.turn t1 (Ne.symm ne)
              have c1 := r1.cell 0 _ rfl
              have f1 := r1.soft 0
              unfold act11
              refine PhaseIn.one (i := 13) (by kernel_rfl) rfl (by kernel_rfl) (fun K hK => ?_)
              unfold Oper.wpIn
              try unfold act11
              refine ⟨fun _ _ => trivial, ?_⟩
              go_simp
              refine hK _ _ (fun _ => ⟨TA.out.below B1, TX.out.below B1, TY.out.below B1⟩) ?_
              clear hK K c1 f1
              try simp only [Act.put, sA, List.set]
              have c2 := r2'.cell 0 _ rfl
              have f2 := r2'.soft 0
              refine PhaseIn.one (i := 14) (by kernel_rfl) rfl (by kernel_rfl) (fun K hK => ?_)
              unfold Oper.wpIn
              try unfold act11
              refine ⟨fun _ _ => trivial, ?_⟩
              go_simp
              refine hK _ _ (fun _ => ⟨TA.out.below D0.out.bd, TX.out.below D0.out.bd, TY.out.below D0.out.bd⟩) ?_
              clear hK K c2 f2
              try simp only [Act.put, sA, List.set]
              refine PhaseIn.done (by kernel_rfl) ?_ _
              exact ⟨v1, v2, v3, q, cap, pa, pl, pc, Z1, Z2, la, ha, mid, hid, rfl, D0⟩
          · rintro b1 b2 ac W ⟨v1, v2, v3, q, cap, pa, pl, pc, p1, p2, lo, hi, rfl, S0⟩ hN
            have hHeld := And.intro (TA.out.below S0.out.bd) (And.intro (TX.out.below S0.out.bd) (TY.out.below S0.out.bd))
            unfold act11
            cases b1 <;> cases b2
            all_goals
             refine PhaseIn.takeE (i := 8) (v := ?_) [8, 9, 10, 13, 14] 37 rfl (by rfl) (by kernel_rfl) (fun _ _ _ h => h) (Or.inl ⟨by kernel_rfl, ?_⟩) hHeld ?_
             rotate_left
             · intro w' hSw
               (try dsimp only at hSw)
               go_simp
               first | done | with_reducible rfl
             try simp only [Act.put, sA, List.set]
             refine PhaseIn.takeE (i := 9) (v := ?_) [9, 13, 14] 46 rfl (by rfl) (by kernel_rfl) (fun _ _ _ h => h) (Or.inl ⟨by kernel_rfl, ?_⟩) hHeld ?_
             rotate_left
             · intro w' hSw
               (try dsimp only at hSw)
               go_simp
               first | done | with_reducible rfl
             try simp only [Act.put, sA, List.set]
             refine PhaseIn.takeE (i := 10) (v := ?_) [10, 14] 47 rfl (by rfl) (by kernel_rfl) (fun _ _ _ h => h) (Or.inl ⟨by kernel_rfl, ?_⟩) hHeld ?_
             rotate_left
             · intro w' hSw
               (try dsimp only at hSw)
               go_simp
               first | done | with_reducible rfl
             try simp only [Act.put, sA, List.set]
             exact hN _ ⟨v1, v2, v3, q, cap, pa, pl, pc, p1, p2, lo, hi, rfl, S0⟩
        · rintro b1 b2 ac W K ⟨v1, v2, v3, v4, p1, p2, lo, hi, rfl, S0⟩ hK
          obtain ⟨g1, B1, rfl, r1⟩ := S0.out.c1 (by omega)
          obtain ⟨g2, B2, rfl, r2⟩ := S0.out.c2 (by omega)
          obtain ⟨g3, B3, rfl, r3⟩ := S0.out.c3 (by omega)
          have CL := specDo ts a1 x y B1 B2 B3 _ _ _ _ r1 r2 r3
          rw [ER.out, ET.out] at CL
          unfold Oper.wpIn
          try unfold act11
          refine ⟨fun _ _ => trivial, ?_⟩
          go_simp
          refine ⟨rfl, (callsIn_wide.2 CL).mono ?_⟩
          rintro e W' ho
          obtain ⟨q, cap, pa, pl, pc, rfl, S1⟩ := S0.out.call4 ho.out
          have S' := hide S1
          try simp only [Act.put, sA, List.set]
          exact hK _ _ ⟨TA.out.below S'.out.bd, TX.out.below S'.out.bd, TY.out.below S'.out.bd⟩ ⟨_, _, _, q, cap, pa, pl, pc, p1, p2, _, _, rfl, S'⟩
        · rintro b' ac W K ⟨v1, v2, v3, v4, p1, p2, lo, hi, rfl, S0⟩ hK
          unfold Oper.wpIn
          try unfold act11
          refine ⟨fun _ _ => trivial, ?_⟩
          go_simp
          have S' := hide (S0.out.box1 32)
          try simp only [Act.put, sA, List.set]
          exact hK _ _ ⟨TA.out.below S'.out.bd, TX.out.below S'.out.bd, TY.out.below S'.out.bd⟩ ⟨v1, v2, v3, v4, _, p2, lo, hi, rfl, S'⟩
        · rintro b' ac W K ⟨v1, v2, v3, v4, p1, p2, lo, hi, rfl, S0⟩ hK
          unfold Oper.wpIn
          try unfold act11
          refine ⟨fun _ _ => trivial, ?_⟩
          go_simp
          have S' := hide (S0.out.box2 35)
          try simp only [Act.put, sA, List.set]
          exact hK _ _ ⟨TA.out.below S'.out.bd, TX.out.below S'.out.bd, TY.out.below S'.out.bd⟩ ⟨v1, v2, v3, v4, p1, _, lo, hi, rfl, S'⟩
      · rintro b1 b2 ac W K ⟨v1, v2, v3, v4, p1, p2, lo, hi, rfl, S0⟩ hK
        unfold Oper.wpIn
        try unfold act11
        refine ⟨fun _ _ => trivial, ?_⟩
        go_simp
        refine ⟨rfl, (callsIn_wide.2 (toTrmPoly y By _ _ (RY.out.below (BW.out.trans (S0.out.bd.mono BW.out.size))) HY.out)).mono ?_⟩
        rintro e W' ⟨g, rfl, M1, hb⟩
        have S' := hide (S0.out.call3 hb M1.read)
        try simp only [Act.put, sA, List.set]
        exact hK _ _ ⟨TA.out.below S'.out.bd, TX.out.below S'.out.bd, TY.out.below S'.out.bd⟩ ⟨v1, v2, _, v4, p1, p2, lo, hi, rfl, S'⟩
      · rintro b' ac W K ⟨v1, v2, v3, v4, p1, p2, lo, hi, rfl, S0⟩ hK
        unfold Oper.wpIn
        try unfold act11
        refine ⟨fun _ _ => trivial, ?_⟩
        go_simp
        have S' := hide (S0.out.box1 32)
        try simp only [Act.put, sA, List.set]
        exact hK _ _ ⟨TA.out.below S'.out.bd, TX.out.below S'.out.bd, TY.out.below S'.out.bd⟩ ⟨v1, v2, v3, v4, _, p2, lo, hi, rfl, S'⟩
      · rintro b' ac W K ⟨v1, v2, v3, v4, p1, p2, lo, hi, rfl, S0⟩ hK
        unfold Oper.wpIn
        try unfold act11
        refine ⟨fun _ _ => trivial, ?_⟩
        go_simp
        have S' := hide (S0.out.box2 35)
        try simp only [Act.put, sA, List.set]
        exact hK _ _ ⟨TA.out.below S'.out.bd, TX.out.below S'.out.bd, TY.out.below S'.out.bd⟩ ⟨v1, v2, v3, v4, p1, _, lo, hi, rfl, S'⟩
    · rintro b1 b2 ac W K ⟨v1, v2, v3, v4, p1, p2, lo, hi, rfl, S0⟩ hK
      unfold Oper.wpIn
      try unfold act11
      refine ⟨fun _ _ => trivial, ?_⟩
      go_simp
      refine ⟨rfl, (callsIn_wide.2 (toTrmPoly x Bx _ _ (RX.out.below (BW.out.trans (S0.out.bd.mono BW.out.size))) HX.out)).mono ?_⟩
      rintro e W' ⟨g, rfl, M1, hb⟩
      have S' := hide (S0.out.call2 hb M1.read)
      try simp only [Act.put, sA, List.set]
      exact hK _ _ ⟨TA.out.below S'.out.bd, TX.out.below S'.out.bd, TY.out.below S'.out.bd⟩ ⟨v1, _, v3, v4, p1, p2, lo, hi, rfl, S'⟩
    · rintro b' ac W K ⟨v1, v2, v3, v4, p1, p2, lo, hi, rfl, S0⟩ hK
      unfold Oper.wpIn
      try unfold act11
      refine ⟨fun _ _ => trivial, ?_⟩
      go_simp
      have S' := hide (S0.out.box1 32)
      try simp only [Act.put, sA, List.set]
      exact hK _ _ ⟨TA.out.below S'.out.bd, TX.out.below S'.out.bd, TY.out.below S'.out.bd⟩ ⟨v1, v2, v3, v4, _, p2, lo, hi, rfl, S'⟩
    · rintro b' ac W K ⟨v1, v2, v3, v4, p1, p2, lo, hi, rfl, S0⟩ hK
      unfold Oper.wpIn
      try unfold act11
      refine ⟨fun _ _ => trivial, ?_⟩
      go_simp
      have S' := hide (S0.out.box2 35)
      try simp only [Act.put, sA, List.set]
      exact hK _ _ ⟨TA.out.below S'.out.bd, TX.out.below S'.out.bd, TY.out.below S'.out.bd⟩ ⟨v1, v2, v3, v4, p1, _, lo, hi, rfl, S'⟩
  · rintro b1 b2 ac W K ⟨v1, v2, v3, v4, p1, p2, lo, hi, rfl, S0⟩ hK
    unfold Oper.wpIn
    try unfold act11
    refine ⟨fun _ _ => trivial, ?_⟩
    go_simp
    refine ⟨rfl, (callsIn_wide.2 (toTabTab ts B _ _ (RM.out.below (BW.out.trans (S0.out.bd.mono BW.out.size))) HS.out)).mono ?_⟩
    rintro e W' ⟨g, rfl, M1, hb⟩
    have S' := hide (S0.out.call1 hb M1.read)
    try simp only [Act.put, sA, List.set]
    exact hK _ _ ⟨TA.out.below S'.out.bd, TX.out.below S'.out.bd, TY.out.below S'.out.bd⟩ ⟨_, v2, v3, v4, p1, p2, lo, hi, rfl, S'⟩
  · rintro b' ac W K ⟨v1, v2, v3, v4, p1, p2, lo, hi, rfl, S0⟩ hK
    unfold Oper.wpIn
    try unfold act11
    refine ⟨fun _ _ => trivial, ?_⟩
    go_simp
    have S' := hide (S0.out.box1 32)
    try simp only [Act.put, sA, List.set]
    exact hK _ _ ⟨TA.out.below S'.out.bd, TX.out.below S'.out.bd, TY.out.below S'.out.bd⟩ ⟨v1, v2, v3, v4, _, p2, lo, hi, rfl, S'⟩
  · rintro b' ac W K ⟨v1, v2, v3, v4, p1, p2, lo, hi, rfl, S0⟩ hK
    unfold Oper.wpIn
    try unfold act11
    refine ⟨fun _ _ => trivial, ?_⟩
    go_simp
    have S' := hide (S0.out.box2 35)
    try simp only [Act.put, sA, List.set]
    exact hK _ _ ⟨TA.out.below S'.out.bd, TX.out.below S'.out.bd, TY.out.below S'.out.bd⟩ ⟨v1, v2, v3, v4, p1, _, lo, hi, rfl, S'⟩
  · exact ⟨undef, undef, undef, undef, undef, undef, _, _, rfl, hide (St.new _ _ _ _ _ _ _ _ _ _ _ _)⟩
 rintro ac W ⟨o1, o2, o3, oq, ocap, opa, opl, opc, oZ1, oZ2, la, ha, mid, hid, rfl, DN⟩
 unfold act11
 have hb := (Below.refl u2.heap.size u2).drew.trans DN.out.bd
 have MW := hide DN.out.t
 have NW := hide DN.out.p
 have Y1 := hide DN.out.r1
 have Y2 := hide DN.out.r2
 have DL : Hid (u2.heap.size ≤ la ∧ u2.heap.size ≤ mid ∧ ha ≤ W.heap.size ∧ hid ≤ W.heap.size ∧ u2.heap.size ≤ oZ1 ∧ u2.heap.size ≤ oZ2 ∧ oZ1 < W.heap.size ∧ oZ2 < W.heap.size ∧ w.heap.size + 1 + 1 < u2.heap.size) := ⟨DN.out.le.1, DN.out.le.2.1, DN.out.le.2.2.1, DN.out.le.2.2.2.1, DN.out.le.2.2.2.2.1, DN.out.le.2.2.2.2.2, DN.out.r1.lt, DN.out.r2.lt, lw.out⟩
 clear DN
 replace TA := hide (TA.out.below hb)
 replace TX := hide (TX.out.below hb)
 replace TY := hide (TY.out.below hb)
 replace BW := hide (BW.out.trans (hb.mono BW.out.size))
 clear hb
 have ta0 := TA.out.cell 0 _ rfl
 go_wp2_with fail
 refine (toTabTab ts B _ _ (RM.out.below BW.out) HS.out).mono ?_
 rintro e u3 ⟨gx, rfl, MX, hb⟩
 replace MX := hide MX
 have L3 : Hid (W.heap.size ≤ u3.heap.size) := hb.size
 clear ta0
 replace TA := hide (TA.out.below hb)
 replace TX := hide (TX.out.below hb)
 replace TY := hide (TY.out.below hb)
 replace MW := hide (MW.out.below hb)
 replace NW := hide (NW.out.below hb)
 replace Y1 := hide (Y1.out.below hb)
 replace Y2 := hide (Y2.out.below hb)
 replace BW := hide (BW.out.trans (hb.mono BW.out.size))
 clear hb
 have bX : Below u3.heap.size u3 (u3.alloc (.cells #[.slice (some ⟨gx, 0, none⟩) ts.length ts.length] 32)) := (Below.refl _ _).alloc (Nat.le_refl _) _
 have X := hide (Rec.new u3 [.slice (some ⟨gx, 0, none⟩) ts.length ts.length] 32)
 have szX : Hid ((u3.alloc (.cells #[.slice (some ⟨gx, 0, none⟩) ts.length ts.length] 32)).heap.size = u3.heap.size + 1) := show _ = _ by simp
 replace BW := hide (BW.out.trans (bX.mono BW.out.size))
 replace TA := hide (TA.out.below bX)
 replace TX := hide (TX.out.below bX)
 replace TY := hide (TY.out.below bX)
 replace MW := hide (MW.out.below bX)
 replace NW := hide (NW.out.below bX)
 replace Y1 := hide (Y1.out.below bX)
 replace Y2 := hide (Y2.out.below bX)
 replace MX := hide (MX.out.below bX)
 clear bX
 have t0 := TX.out.cell 0 _ rfl
 go_wp2_with fail
 refine (toTrmPoly x Bx _ _ (RX.out.below BW.out) HX.out).mono ?_
 rintro e u4 ⟨gv, rfl, MV, hb⟩
 rw [szX.out] at MV
 replace MV := hide MV
 have L4 : Hid (u3.heap.size + 1 ≤ u4.heap.size) := show _ ≤ _ by have := hb.size; rw [szX.out] at this; exact this
 clear t0
 replace TA := hide (TA.out.below hb)
 replace TX := hide (TX.out.below hb)
 replace TY := hide (TY.out.below hb)
 replace MW := hide (MW.out.below hb)
 replace NW := hide (NW.out.below hb)
 replace Y1 := hide (Y1.out.below hb)
 replace Y2 := hide (Y2.out.below hb)
 replace MX := hide (MX.out.below hb)
 replace X := hide (X.out.below hb)
 replace BW := hide (BW.out.trans (hb.mono BW.out.size))
 clear hb
 have bX : Below u4.heap.size u4 (u4.alloc (.cells #[.slice (some ⟨gv, 0, none⟩) x.length x.length] 35)) := (Below.refl _ _).alloc (Nat.le_refl _) _
 have V := hide (Rec.new u4 [.slice (some ⟨gv, 0, none⟩) x.length x.length] 35)
 have szV : Hid ((u4.alloc (.cells #[.slice (some ⟨gv, 0, none⟩) x.length x.length] 35)).heap.size = u4.heap.size + 1) := show _ = _ by simp
 replace BW := hide (BW.out.trans (bX.mono BW.out.size))
 replace TA := hide (TA.out.below bX)
 replace TX := hide (TX.out.below bX)
 replace TY := hide (TY.out.below bX)
 replace MW := hide (MW.out.below bX)
 replace NW := hide (NW.out.below bX)
 replace Y1 := hide (Y1.out.below bX)
 replace Y2 := hide (Y2.out.below bX)
 replace MX := hide (MX.out.below bX)
 replace X := hide (X.out.below bX)
 replace MV := hide (MV.out.below bX)
 clear bX
 have t0 := TY.out.cell 0 _ rfl
 go_wp2_with fail
 refine (toTrmPoly y By _ _ (RY.out.below BW.out) HY.out).mono ?_
 rintro e u5 ⟨gu, rfl, MU, hb⟩
 rw [szV.out] at MU
 replace MU := hide MU
 have L5 : Hid (u4.heap.size + 1 ≤ u5.heap.size) := show _ ≤ _ by have := hb.size; rw [szV.out] at this; exact this
 clear t0
 replace TA := hide (TA.out.below hb)
 replace TX := hide (TX.out.below hb)
 replace TY := hide (TY.out.below hb)
 replace MW := hide (MW.out.below hb)
 replace NW := hide (NW.out.below hb)
 replace Y1 := hide (Y1.out.below hb)
 replace Y2 := hide (Y2.out.below hb)
 replace MX := hide (MX.out.below hb)
 replace X := hide (X.out.below hb)
 replace MV := hide (MV.out.below hb)
 replace V := hide (V.out.below hb)
 replace BW := hide (BW.out.trans (hb.mono BW.out.size))
 clear hb
 have bX : Below u5.heap.size u5 (u5.alloc (.cells #[.slice (some ⟨gu, 0, none⟩) y.length y.length] 35)) := (Below.refl _ _).alloc (Nat.le_refl _) _
 have U := hide (Rec.new u5 [.slice (some ⟨gu, 0, none⟩) y.length y.length] 35)
 have szU : Hid ((u5.alloc (.cells #[.slice (some ⟨gu, 0, none⟩) y.length y.length] 35)).heap.size = u5.heap.size + 1) := show _ = _ by simp
 replace BW := hide (BW.out.trans (bX.mono BW.out.size))
 replace TA := hide (TA.out.below bX)
 replace TX := hide (TX.out.below bX)
 replace TY := hide (TY.out.below bX)
 replace MW := hide (MW.out.below bX)
 replace NW := hide (NW.out.below bX)
 replace Y1 := hide (Y1.out.below bX)
 replace Y2 := hide (Y2.out.below bX)
 replace MX := hide (MX.out.below bX)
 replace X := hide (X.out.below bX)
 replace MV := hide (MV.out.below bX)
 replace V := hide (V.out.below bX)
 replace MU := hide (MU.out.below bX)
 clear bX
 obtain ⟨BX, RBX⟩ := MX.out.read
 replace RBX := hide RBX
 obtain ⟨BV, RBV⟩ := MV.out.read
 replace RBV := hide RBV
 obtain ⟨BU, RBU⟩ := MU.out.read
 replace RBU := hide RBU
 have x0 := X.out.cell 0 _ rfl
 have v0 := V.out.cell 0 _ rfl
 have u0' := U.out.cell 0 _ rfl
 go_wp2_with fail
 refine (implTabDo ts a1 x y BX BV BU _ _ _ _ RBX.out RBV.out RBU.out).mono ?_
 rintro e u6 ho
 rw [ER.out, ET.out] at ho
 obtain ⟨⟨gq, gcap, ga, gn, gc, la2, ha2, mid2, hid2, rfl, MG, NG, g1, g2, g3, g4, gap⟩, hb⟩ := ho
 rw [szU.out] at g1 g3
 have GL : Hid (u5.heap.size + 1 ≤ la2 ∧ ha2 ≤ u6.heap.size ∧ u5.heap.size + 1 ≤ mid2 ∧ hid2 ≤ u6.heap.size ∧ (ha2 ≤ mid2 ∨ hid2 ≤ la2) ∧ u5.heap.size + 1 ≤ u6.heap.size) := ⟨g1, g2, g3, g4, gap, by have := hb.size; rw [szU.out] at this; exact this⟩
 replace MG := hide MG
 replace NG := hide NG
 clear x0 v0 u0' RBX RBV RBU g1 g2 g3 g4 gap
 replace TA := hide (TA.out.below hb)
 replace TX := hide (TX.out.below hb)
 replace TY := hide (TY.out.below hb)
 replace MW := hide (MW.out.below hb)
 replace NW := hide (NW.out.below hb)
 replace Y1 := hide (Y1.out.below hb)
 replace Y2 := hide (Y2.out.below hb)
 replace MX := hide (MX.out.below hb)
 replace X := hide (X.out.below hb)
 replace MV := hide (MV.out.below hb)
 replace V := hide (V.out.below hb)
 replace MU := hide (MU.out.below hb)
 replace U := hide (U.out.below hb)
 replace BW := hide (BW.out.trans (hb.mono BW.out.size))
 clear hb
 have bX : Below u6.heap.size u6 ((u6.alloc (.cells #[.slice gq R.length gcap] 32)).alloc (.cells #[.slice ga gn gc] 35)) := ((Below.refl _ _).alloc (Nat.le_refl _) _).alloc (by simp) _
 have G1 := hide ((Rec.new u6 [.slice gq R.length gcap] 32).alloc (.cells #[.slice ga gn gc] 35))
 have G2 := Rec.new (u6.alloc (.cells #[.slice gq R.length gcap] 32)) [.slice ga gn gc] 35
 rw [show (u6.alloc (.cells #[.slice gq R.length gcap] 32)).heap.size = u6.heap.size + 1 by simp] at G2
 replace G2 := hide G2
 replace BW := hide (BW.out.trans (bX.mono BW.out.size))
 replace TA := hide (TA.out.below bX)
 replace TX := hide (TX.out.below bX)
 replace TY := hide (TY.out.below bX)
 replace MW := hide (MW.out.below bX)
 replace NW := hide (NW.out.below bX)
 replace Y1 := hide (Y1.out.below bX)
 replace Y2 := hide (Y2.out.below bX)
 replace MX := hide (MX.out.below bX)
 replace X := hide (X.out.below bX)
 replace MV := hide (MV.out.below bX)
 replace V := hide (V.out.below bX)
 replace MU := hide (MU.out.below bX)
 replace U := hide (U.out.below bX)
 replace MG := hide (MG.out.below bX)
 replace NG := hide (NG.out.below bX)
 clear bX
 obtain ⟨BG, RBG⟩ := MG.out.read
 replace RBG := hide RBG
 obtain ⟨BY, RBY⟩ := MW.out.read
 replace RBY := hide RBY
 have x0 := G1.out.cell 0 _ rfl
 have y0 := Y1.out.cell 0 _ rfl
 go_wp2_with fail
 refine (eqTabTab R BG BY _ _ _ RBG.out RBY.out).mono ?_
 rintro e u7 ⟨rfl, hb⟩
 clear x0 y0 RBG RBY BG BY
 replace TA := hide (TA.out.below hb)
 replace TX := hide (TX.out.below hb)
 replace TY := hide (TY.out.below hb)
 replace MW := hide (MW.out.below hb)
 replace NW := hide (NW.out.below hb)
 replace Y1 := hide (Y1.out.below hb)
 replace Y2 := hide (Y2.out.below hb)
 replace MX := hide (MX.out.below hb)
 replace X := hide (X.out.below hb)
 replace MV := hide (MV.out.below hb)
 replace V := hide (V.out.below hb)
 replace MU := hide (MU.out.below hb)
 replace U := hide (U.out.below hb)
 replace MG := hide (MG.out.below hb)
 replace NG := hide (NG.out.below hb)
 replace G1 := hide (G1.out.below hb)
 replace G2 := hide (G2.out.below hb)
 replace BW := hide (BW.out.trans (hb.mono BW.out.size))
 clear hb
 obtain ⟨BG, RBG⟩ := NG.out.read
 replace RBG := hide RBG
 obtain ⟨BY, RBY⟩ := NW.out.read
 replace RBY := hide RBY
 have x0 := G2.out.cell 0 _ rfl
 have y0 := Y2.out.cell 0 _ rfl
 go_wp2_with fail
 refine (eqTrmPoly T BG BY _ _ _ RBG.out RBY.out).mono ?_
 rintro e u8 ⟨rfl, hb⟩
 clear x0 y0 RBG RBY BG BY
 replace TA := hide (TA.out.below hb)
 replace TX := hide (TX.out.below hb)
 replace TY := hide (TY.out.below hb)
 replace MW := hide (MW.out.below hb)
 replace NW := hide (NW.out.below hb)
 replace Y1 := hide (Y1.out.below hb)
 replace Y2 := hide (Y2.out.below hb)
 replace MX := hide (MX.out.below hb)
 replace X := hide (X.out.below hb)
 replace MV := hide (MV.out.below hb)
 replace V := hide (V.out.below hb)
 replace MU := hide (MU.out.below hb)
 replace U := hide (U.out.below hb)
 replace MG := hide (MG.out.below hb)
 replace NG := hide (NG.out.below hb)
 replace G1 := hide (G1.out.below hb)
 replace G2 := hide (G2.out.below hb)
 replace BW := hide (BW.out.trans (hb.mono BW.out.size))
 clear hb
 go_wp2_with fail
 refine (wpIn_wide (n := 0)).1 ?_
 refine PhaseIn.region (S := fun w' => Rec (u3.heap.size) [.slice (some ⟨gx, 0, none⟩) ts.length ts.length] w' ∧ Rec (w.heap.size) [.slice qa ts.length ca] w') 5 (by kernel_rfl) ?_
 have hb : Below u8.heap.size u8 u8.drew := (Below.refl _ _).drew
 replace TA := hide (TA.out.below hb)
 replace TX := hide (TX.out.below hb)
 replace TY := hide (TY.out.below hb)
 replace MW := hide (MW.out.below hb)
 replace NW := hide (NW.out.below hb)
 replace Y1 := hide (Y1.out.below hb)
 replace Y2 := hide (Y2.out.below hb)
 replace MX := hide (MX.out.below hb)
 replace X := hide (X.out.below hb)
 replace MV := hide (MV.out.below hb)
 replace V := hide (V.out.below hb)
 replace MU := hide (MU.out.below hb)
 replace U := hide (U.out.below hb)
 replace MG := hide (MG.out.below hb)
 replace NG := hide (NG.out.below hb)
 replace G1 := hide (G1.out.below hb)
 replace G2 := hide (G2.out.below hb)
 replace BW := hide (BW.out.trans (hb.mono BW.out.size))
 clear hb
 generalize u8.drew = d8 at BW TA TX TY MW NW Y1 Y2 MX X MV V MU U MG NG G1 G2 ⊢
 have hHeld := And.intro X.out TA.out
 refine PhaseIn.takeE (i := 0) (v := ?_) [0, 3, 4] 72 rfl (by rfl) (by kernel_rfl) (fun _ _ _ h => h) (Or.inl ⟨by kernel_rfl, ?_⟩) hHeld ?_
 rotate_left
 · intro w' hSw
   (try dsimp only at hSw)
   have z0 := hSw.1.cell 0 _ rfl
   go_simp
   first | done | with_reducible rfl
 try simp only [Act.put, sA, List.set]
 refine PhaseIn.takeE (i := 1) (v := ?_) [1, 2, 3, 4] 73 rfl (by rfl) (by kernel_rfl) (fun _ _ _ h => h) (Or.inl ⟨by kernel_rfl, ?_⟩) hHeld ?_
 rotate_left
 · intro w' hSw
   (try dsimp only at hSw)
   have z0 := hSw.2.cell 0 _ rfl
   go_simp
   first | done | with_reducible rfl
 try simp only [Act.put, sA, List.set]
 refine PhaseIn.one (i := 2) (by kernel_rfl) rfl (by kernel_rfl) (fun K hK => ?_)
 unfold Oper.wpIn
 refine ⟨fun _ _ => trivial, ?_⟩
 go_simp
 refine ⟨rfl, (callsIn_wide.2 (toTabTab ts B _ _ (RM.out.below BW.out) HS.out)).mono ?_⟩
 rintro e u9 ⟨gu9, rfl, M6, hb⟩
 have hHeld2 := And.intro (hHeld.1.below hb) (hHeld.2.below hb)
 refine hK _ _ (fun _ => hHeld2) ?_
 clear hK K hHeld
 obtain ⟨B6, R6⟩ := M6.read
 replace R6 := hide R6
 clear M6
 replace TA := hide (TA.out.below hb)
 replace TX := hide (TX.out.below hb)
 replace TY := hide (TY.out.below hb)
 replace MW := hide (MW.out.below hb)
 replace NW := hide (NW.out.below hb)
 replace Y1 := hide (Y1.out.below hb)
 replace Y2 := hide (Y2.out.below hb)
 replace MX := hide (MX.out.below hb)
 replace X := hide (X.out.below hb)
 replace MV := hide (MV.out.below hb)
 replace V := hide (V.out.below hb)
 replace MU := hide (MU.out.below hb)
 replace U := hide (U.out.below hb)
 replace MG := hide (MG.out.below hb)
 replace NG := hide (NG.out.below hb)
 replace G1 := hide (G1.out.below hb)
 replace G2 := hide (G2.out.below hb)
 replace BW := hide (BW.out.trans (hb.mono BW.out.size))
 clear hb
 try simp only [Act.put, sA, List.set]
 obtain ⟨BZ, RBZ⟩ := MX.out.read
 replace RBZ := hide RBZ
 refine PhaseIn.one (i := 3) (by kernel_rfl) rfl (by kernel_rfl) (fun K hK => ?_)
 unfold Oper.wpIn
 refine ⟨fun _ _ => trivial, ?_⟩
 go_simp
 refine ⟨rfl, (callsIn_wide.2 (eqTabTab ts BZ B6 _ _ _ RBZ.out R6.out)).mono ?_⟩
 rintro e u10 ⟨rfl, hb⟩
 have hHeld := And.intro (hHeld2.1.below hb) (hHeld2.2.below hb)
 refine hK _ _ (fun _ => hHeld) ?_
 clear hK K hHeld2 R6 RBZ BZ
 replace TA := hide (TA.out.below hb)
 replace TX := hide (TX.out.below hb)
 replace TY := hide (TY.out.below hb)
 replace MW := hide (MW.out.below hb)
 replace NW := hide (NW.out.below hb)
 replace Y1 := hide (Y1.out.below hb)
 replace Y2 := hide (Y2.out.below hb)
 replace MX := hide (MX.out.below hb)
 replace X := hide (X.out.below hb)
 replace MV := hide (MV.out.below hb)
 replace V := hide (V.out.below hb)
 replace MU := hide (MU.out.below hb)
 replace U := hide (U.out.below hb)
 replace MG := hide (MG.out.below hb)
 replace NG := hide (NG.out.below hb)
 replace G1 := hide (G1.out.below hb)
 replace G2 := hide (G2.out.below hb)
 replace BW := hide (BW.out.trans (hb.mono BW.out.size))
 clear hb
 try simp only [Act.put, sA, List.set]
 refine PhaseIn.takeE (i := 4) (v := ?_) [4] 76 rfl (by rfl) (by kernel_rfl) (fun _ _ _ h => h) (Or.inl ⟨by kernel_rfl, ?_⟩) hHeld ?_
 rotate_left
 · intro w' hSw
   (try dsimp only at hSw)
   go_simp
   first | done | with_reducible rfl
 try simp only [Act.put, sA, List.set]
 refine PhaseIn.done (by kernel_rfl) ?_ _
 clear hHeld
 go_wp2_with fail
 refine (wpIn_wide (n := 0)).1 ?_
 refine PhaseIn.region (S := fun w' => Rec (u4.heap.size) [.slice (some ⟨gv, 0, none⟩) x.length x.length] w' ∧ Rec (w.heap.size + 1) [.slice qx x.length cx] w') 5 (by kernel_rfl) ?_
 have hb : Below u10.heap.size u10 u10.drew := (Below.refl _ _).drew
 replace TA := hide (TA.out.below hb)
 replace TX := hide (TX.out.below hb)
 replace TY := hide (TY.out.below hb)
 replace MW := hide (MW.out.below hb)
 replace NW := hide (NW.out.below hb)
 replace Y1 := hide (Y1.out.below hb)
 replace Y2 := hide (Y2.out.below hb)
 replace MX := hide (MX.out.below hb)
 replace X := hide (X.out.below hb)
 replace MV := hide (MV.out.below hb)
 replace V := hide (V.out.below hb)
 replace MU := hide (MU.out.below hb)
 replace U := hide (U.out.below hb)
 replace MG := hide (MG.out.below hb)
 replace NG := hide (NG.out.below hb)
 replace G1 := hide (G1.out.below hb)
 replace G2 := hide (G2.out.below hb)
 replace BW := hide (BW.out.trans (hb.mono BW.out.size))
 clear hb
 generalize u10.drew = d10 at BW TA TX TY MW NW Y1 Y2 MX X MV V MU U MG NG G1 G2 ⊢
 have hHeld := And.intro V.out TX.out
 refine PhaseIn.takeE (i := 0) (v := ?_) [0, 3, 4] 77 rfl (by rfl) (by kernel_rfl) (fun _ _ _ h => h) (Or.inl ⟨by kernel_rfl, ?_⟩) hHeld ?_
 rotate_left
 · intro w' hSw
   (try dsimp only at hSw)
   have z0 := hSw.1.cell 0 _ rfl
   go_simp
   first | done | with_reducible rfl
 try simp only [Act.put, sA, List.set]
 refine PhaseIn.takeE (i := 1) (v := ?_) [1, 2, 3, 4] 78 rfl (by rfl) (by kernel_rfl) (fun _ _ _ h => h) (Or.inl ⟨by kernel_rfl, ?_⟩) hHeld ?_
 rotate_left
 · intro w' hSw
   (try dsimp only at hSw)
   have z0 := hSw.2.cell 0 _ rfl
   go_simp
   first | done | with_reducible rfl
 try simp only [Act.put, sA, List.set]
 refine PhaseIn.one (i := 2) (by kernel_rfl) rfl (by kernel_rfl) (fun K hK => ?_)
 unfold Oper.wpIn
 refine ⟨fun _ _ => trivial, ?_⟩
 go_simp
 refine ⟨rfl, (callsIn_wide.2 (toTrmPoly x Bx _ _ (RX.out.below BW.out) HX.out)).mono ?_⟩
 rintro e u11 ⟨gu11, rfl, M6, hb⟩
 have hHeld2 := And.intro (hHeld.1.below hb) (hHeld.2.below hb)
 refine hK _ _ (fun _ => hHeld2) ?_
 clear hK K hHeld
 obtain ⟨B6, R6⟩ := M6.read
 replace R6 := hide R6
 clear M6
 replace TA := hide (TA.out.below hb)
 replace TX := hide (TX.out.below hb)
 replace TY := hide (TY.out.below hb)
 replace MW := hide (MW.out.below hb)
 replace NW := hide (NW.out.below hb)
 replace Y1 := hide (Y1.out.below hb)
 replace Y2 := hide (Y2.out.below hb)
 replace MX := hide (MX.out.below hb)
 replace X := hide (X.out.below hb)
 replace MV := hide (MV.out.below hb)
 replace V := hide (V.out.below hb)
 replace MU := hide (MU.out.below hb)
 replace U := hide (U.out.below hb)
 replace MG := hide (MG.out.below hb)
 replace NG := hide (NG.out.below hb)
 replace G1 := hide (G1.out.below hb)
 replace G2 := hide (G2.out.below hb)
 replace BW := hide (BW.out.trans (hb.mono BW.out.size))
 clear hb
 try simp only [Act.put, sA, List.set]
 obtain ⟨BZ, RBZ⟩ := MV.out.read
 replace RBZ := hide RBZ
 refine PhaseIn.one (i := 3) (by kernel_rfl) rfl (by kernel_rfl) (fun K hK => ?_)
 unfold Oper.wpIn
 refine ⟨fun _ _ => trivial, ?_⟩
 go_simp
 refine ⟨rfl, (callsIn_wide.2 (eqTrmPoly x BZ B6 _ _ _ RBZ.out R6.out)).mono ?_⟩
 rintro e u12 ⟨rfl, hb⟩
 have hHeld := And.intro (hHeld2.1.below hb) (hHeld2.2.below hb)
 refine hK _ _ (fun _ => hHeld) ?_
 clear hK K hHeld2 R6 RBZ BZ
 replace TA := hide (TA.out.below hb)
 replace TX := hide (TX.out.below hb)
 replace TY := hide (TY.out.below hb)
 replace MW := hide (MW.out.below hb)
 replace NW := hide (NW.out.below hb)
 replace Y1 := hide (Y1.out.below hb)
 replace Y2 := hide (Y2.out.below hb)
 replace MX := hide (MX.out.below hb)
 replace X := hide (X.out.below hb)
 replace MV := hide (MV.out.below hb)
 replace V := hide (V.out.below hb)
 replace MU := hide (MU.out.below hb)
 replace U := hide (U.out.below hb)
 replace MG := hide (MG.out.below hb)
 replace NG := hide (NG.out.below hb)
 replace G1 := hide (G1.out.below hb)
 replace G2 := hide (G2.out.below hb)
 replace BW := hide (BW.out.trans (hb.mono BW.out.size))
 clear hb
 try simp only [Act.put, sA, List.set]
 refine PhaseIn.takeE (i := 4) (v := ?_) [4] 81 rfl (by rfl) (by kernel_rfl) (fun _ _ _ h => h) (Or.inl ⟨by kernel_rfl, ?_⟩) hHeld ?_
 rotate_left
 · intro w' hSw
   (try dsimp only at hSw)
   go_simp
   first | done | with_reducible rfl
 try simp only [Act.put, sA, List.set]
 refine PhaseIn.done (by kernel_rfl) ?_ _
 clear hHeld
 go_wp2_with fail
 refine (wpIn_wide (n := 0)).1 ?_
 refine PhaseIn.region (S := fun w' => Rec (u5.heap.size) [.slice (some ⟨gu, 0, none⟩) y.length y.length] w' ∧ Rec (w.heap.size + 1 + 1) [.slice qy y.length cy] w') 5 (by kernel_rfl) ?_
 have hb : Below u12.heap.size u12 u12.drew := (Below.refl _ _).drew
 replace TA := hide (TA.out.below hb)
 replace TX := hide (TX.out.below hb)
 replace TY := hide (TY.out.below hb)
 replace MW := hide (MW.out.below hb)
 replace NW := hide (NW.out.below hb)
 replace Y1 := hide (Y1.out.below hb)
 replace Y2 := hide (Y2.out.below hb)
 replace MX := hide (MX.out.below hb)
 replace X := hide (X.out.below hb)
 replace MV := hide (MV.out.below hb)
 replace V := hide (V.out.below hb)
 replace MU := hide (MU.out.below hb)
 replace U := hide (U.out.below hb)
 replace MG := hide (MG.out.below hb)
 replace NG := hide (NG.out.below hb)
 replace G1 := hide (G1.out.below hb)
 replace G2 := hide (G2.out.below hb)
 replace BW := hide (BW.out.trans (hb.mono BW.out.size))
 clear hb
 generalize u12.drew = d12 at BW TA TX TY MW NW Y1 Y2 MX X MV V MU U MG NG G1 G2 ⊢
 have hHeld := And.intro U.out TY.out
 refine PhaseIn.takeE (i := 0) (v := ?_) [0, 3, 4] 82 rfl (by rfl) (by kernel_rfl) (fun _ _ _ h => h) (Or.inl ⟨by kernel_rfl, ?_⟩) hHeld ?_
 rotate_left
 · intro w' hSw
   (try dsimp only at hSw)
   have z0 := hSw.1.cell 0 _ rfl
   go_simp
   first | done | with_reducible rfl
 try simp only [Act.put, sA, List.set]
 refine PhaseIn.takeE (i := 1) (v := ?_) [1, 2, 3, 4] 83 rfl (by rfl) (by kernel_rfl) (fun _ _ _ h => h) (Or.inl ⟨by kernel_rfl, ?_⟩) hHeld ?_
 rotate_left
 · intro w' hSw
   (try dsimp only at hSw)
   have z0 := hSw.2.cell 0 _ rfl
   go_simp
   first | done | with_reducible rfl
 try simp only [Act.put, sA, List.set]
 refine PhaseIn.one (i := 2) (by kernel_rfl) rfl (by kernel_rfl) (fun K hK => ?_)
 unfold Oper.wpIn
 refine ⟨fun _ _ => trivial, ?_⟩
 go_simp
 refine ⟨rfl, (callsIn_wide.2 (toTrmPoly y By _ _ (RY.out.below BW.out) HY.out)).mono ?_⟩
 rintro e u13 ⟨gu13, rfl, M6, hb⟩
 have hHeld2 := And.intro (hHeld.1.below hb) (hHeld.2.below hb)
 refine hK _ _ (fun _ => hHeld2) ?_
 clear hK K hHeld
 obtain ⟨B6, R6⟩ := M6.read
 replace R6 := hide R6
 clear M6
 replace TA := hide (TA.out.below hb)
 replace TX := hide (TX.out.below hb)
 replace TY := hide (TY.out.below hb)
 replace MW := hide (MW.out.below hb)
 replace NW := hide (NW.out.below hb)
 replace Y1 := hide (Y1.out.below hb)
 replace Y2 := hide (Y2.out.below hb)
 replace MX := hide (MX.out.below hb)
 replace X := hide (X.out.below hb)
 replace MV := hide (MV.out.below hb)
 replace V := hide (V.out.below hb)
 replace MU := hide (MU.out.below hb)
 replace U := hide (U.out.below hb)
 replace MG := hide (MG.out.below hb)
 replace NG := hide (NG.out.below hb)
 replace G1 := hide (G1.out.below hb)
 replace G2 := hide (G2.out.below hb)
 replace BW := hide (BW.out.trans (hb.mono BW.out.size))
 clear hb
 try simp only [Act.put, sA, List.set]
 obtain ⟨BZ, RBZ⟩ := MU.out.read
 replace RBZ := hide RBZ
 refine PhaseIn.one (i := 3) (by kernel_rfl) rfl (by kernel_rfl) (fun K hK => ?_)
 unfold Oper.wpIn
 refine ⟨fun _ _ => trivial, ?_⟩
 go_simp
 refine ⟨rfl, (callsIn_wide.2 (eqTrmPoly y BZ B6 _ _ _ RBZ.out R6.out)).mono ?_⟩
 rintro e u14 ⟨rfl, hb⟩
 have hHeld := And.intro (hHeld2.1.below hb) (hHeld2.2.below hb)
 refine hK _ _ (fun _ => hHeld) ?_
 clear hK K hHeld2 R6 RBZ BZ
 replace TA := hide (TA.out.below hb)
 replace TX := hide (TX.out.below hb)
 replace TY := hide (TY.out.below hb)
 replace MW := hide (MW.out.below hb)
 replace NW := hide (NW.out.below hb)
 replace Y1 := hide (Y1.out.below hb)
 replace Y2 := hide (Y2.out.below hb)
 replace MX := hide (MX.out.below hb)
 replace X := hide (X.out.below hb)
 replace MV := hide (MV.out.below hb)
 replace V := hide (V.out.below hb)
 replace MU := hide (MU.out.below hb)
 replace U := hide (U.out.below hb)
 replace MG := hide (MG.out.below hb)
 replace NG := hide (NG.out.below hb)
 replace G1 := hide (G1.out.below hb)
 replace G2 := hide (G2.out.below hb)
 replace BW := hide (BW.out.trans (hb.mono BW.out.size))
 clear hb
 try simp only [Act.put, sA, List.set]
 refine PhaseIn.takeE (i := 4) (v := ?_) [4] 86 rfl (by rfl) (by kernel_rfl) (fun _ _ _ h => h) (Or.inl ⟨by kernel_rfl, ?_⟩) hHeld ?_
 rotate_left
 · intro w' hSw
   (try dsimp only at hSw)
   go_simp
   first | done | with_reducible rfl
 try simp only [Act.put, sA, List.set]
 refine PhaseIn.done (by kernel_rfl) ?_ _
 clear hHeld
 have x0 := X.out.cell 0 _ rfl
 go_wp2_with fail
 refine (markTabTab ts 1 _ _ _ _ MX.out (by have := SP.out; omega) (by omega) (by omega)).mono ?_
 rintro e u15 ⟨rfl, -, hk⟩
 rw [EX.out]
 have l0 := DL.out
 have l3 := L3.out
 have l4 := L4.out
 have l5 := L5.out
 have l6 := GL.out
 clear x0 MX
 replace MW := hide (MW.out.keep hk (fun b h1 h2 h3 => by omega))
 replace NW := hide (NW.out.keep hk (fun b h1 h2 h3 => by omega))
 replace MV := hide (MV.out.keep hk (fun b h1 h2 h3 => by omega))
 replace MU := hide (MU.out.keep hk (fun b h1 h2 h3 => by omega))
 replace MG := hide (MG.out.keep hk (fun b h1 h2 h3 => by omega))
 replace NG := hide (NG.out.keep hk (fun b h1 h2 h3 => by omega))
 replace TA := hide (TA.out.keep hk (fun h3 => by omega))
 replace TX := hide (TX.out.keep hk (fun h3 => by omega))
 replace TY := hide (TY.out.keep hk (fun h3 => by omega))
 replace Y1 := hide (Y1.out.keep hk (fun h3 => by omega))
 replace Y2 := hide (Y2.out.keep hk (fun h3 => by omega))
 replace V := hide (V.out.keep hk (fun h3 => by omega))
 replace U := hide (U.out.keep hk (fun h3 => by omega))
 replace G1 := hide (G1.out.keep hk (fun h3 => by omega))
 replace G2 := hide (G2.out.keep hk (fun h3 => by omega))
 replace BW := hide (BW.out.trans (hk.below BW.out.size (fun k h1 h2 => by omega)))
 clear hk l0 l3 l4 l5 l6 X
 have bt : tx ≤ 10000000 := by rw [← EX.out, offT_full]; have := SP.out; omega
 have x0 := V.out.cell 0 _ rfl
 go_wp2_with fail
 refine (markTrmPoly x tx _ _ _ _ MV.out (by have := SX.out; omega) (by omega) (by omega)).mono ?_
 rintro e u16 ⟨rfl, -, hk⟩
 rw [EY.out]
 have l0 := DL.out
 have l3 := L3.out
 have l4 := L4.out
 have l5 := L5.out
 have l6 := GL.out
 clear x0 MV
 replace MW := hide (MW.out.keep hk (fun b h1 h2 h3 => by omega))
 replace NW := hide (NW.out.keep hk (fun b h1 h2 h3 => by omega))
 replace MU := hide (MU.out.keep hk (fun b h1 h2 h3 => by omega))
 replace MG := hide (MG.out.keep hk (fun b h1 h2 h3 => by omega))
 replace NG := hide (NG.out.keep hk (fun b h1 h2 h3 => by omega))
 replace TA := hide (TA.out.keep hk (fun h3 => by omega))
 replace TX := hide (TX.out.keep hk (fun h3 => by omega))
 replace TY := hide (TY.out.keep hk (fun h3 => by omega))
 replace Y1 := hide (Y1.out.keep hk (fun h3 => by omega))
 replace Y2 := hide (Y2.out.keep hk (fun h3 => by omega))
 replace U := hide (U.out.keep hk (fun h3 => by omega))
 replace G1 := hide (G1.out.keep hk (fun h3 => by omega))
 replace G2 := hide (G2.out.keep hk (fun h3 => by omega))
 replace BW := hide (BW.out.trans (hk.below BW.out.size (fun k h1 h2 => by omega)))
 clear hk l0 l3 l4 l5 l6 V
 have by_ : ty ≤ 20000000 := by rw [← EY.out, offs_full]; have := SX.out; omega
 have x0 := U.out.cell 0 _ rfl
 go_wp2_with fail
 refine (markTrmPoly y ty _ _ _ _ MU.out (by have := SY.out; omega) (by omega) (by omega)).mono ?_
 rintro e u17 ⟨rfl, -, hk⟩
 rw [EZ.out]
 have l0 := DL.out
 have l3 := L3.out
 have l4 := L4.out
 have l5 := L5.out
 have l6 := GL.out
 clear x0 MU
 replace MW := hide (MW.out.keep hk (fun b h1 h2 h3 => by omega))
 replace NW := hide (NW.out.keep hk (fun b h1 h2 h3 => by omega))
 replace MG := hide (MG.out.keep hk (fun b h1 h2 h3 => by omega))
 replace NG := hide (NG.out.keep hk (fun b h1 h2 h3 => by omega))
 replace TA := hide (TA.out.keep hk (fun h3 => by omega))
 replace TX := hide (TX.out.keep hk (fun h3 => by omega))
 replace TY := hide (TY.out.keep hk (fun h3 => by omega))
 replace Y1 := hide (Y1.out.keep hk (fun h3 => by omega))
 replace Y2 := hide (Y2.out.keep hk (fun h3 => by omega))
 replace G1 := hide (G1.out.keep hk (fun h3 => by omega))
 replace G2 := hide (G2.out.keep hk (fun h3 => by omega))
 replace BW := hide (BW.out.trans (hk.below BW.out.size (fun k h1 h2 => by omega)))
 clear hk l0 l3 l4 l5 l6 U
 obtain ⟨BG, RBG⟩ := MG.out.read
 replace RBG := hide RBG
 obtain ⟨BY, RBY⟩ := MW.out.read
 replace RBY := hide RBY
 have x0 := G1.out.cell 0 _ rfl
 have y0 := Y1.out.cell 0 _ rfl
 go_wp2_with fail
 refine (eqTabTab R BG BY _ _ _ RBG.out RBY.out).mono ?_
 rintro e u18 ⟨rfl, hb⟩
 clear x0 y0 RBG RBY BG BY
 replace TA := hide (TA.out.below hb)
 replace TX := hide (TX.out.below hb)
 replace TY := hide (TY.out.below hb)
 replace MW := hide (MW.out.below hb)
 replace NW := hide (NW.out.below hb)
 replace Y1 := hide (Y1.out.below hb)
 replace Y2 := hide (Y2.out.below hb)
 replace MG := hide (MG.out.below hb)
 replace NG := hide (NG.out.below hb)
 replace G1 := hide (G1.out.below hb)
 replace G2 := hide (G2.out.below hb)
 replace BW := hide (BW.out.trans (hb.mono BW.out.size))
 clear hb
 obtain ⟨BG, RBG⟩ := NG.out.read
 replace RBG := hide RBG
 obtain ⟨BY, RBY⟩ := NW.out.read
 replace RBY := hide RBY
 have x0 := G2.out.cell 0 _ rfl
 have y0 := Y2.out.cell 0 _ rfl
 go_wp2_with fail
 refine (eqTrmPoly T BG BY _ _ _ RBG.out RBY.out).mono ?_
 rintro e u19 ⟨rfl, hb⟩
 clear x0 y0 RBG RBY BG BY
 replace TA := hide (TA.out.below hb)
 replace TX := hide (TX.out.below hb)
 replace TY := hide (TY.out.below hb)
 replace MW := hide (MW.out.below hb)
 replace NW := hide (NW.out.below hb)
 replace Y1 := hide (Y1.out.below hb)
 replace Y2 := hide (Y2.out.below hb)
 replace MG := hide (MG.out.below hb)
 replace NG := hide (NG.out.below hb)
 replace G1 := hide (G1.out.below hb)
 replace G2 := hide (G2.out.below hb)
 replace BW := hide (BW.out.trans (hb.mono BW.out.size))
 clear hb
 have x0 := G1.out.cell 0 _ rfl
 go_wp2_with fail
 refine (markTabTab R 1 _ _ _ _ MG.out SR.out (by omega) (by omega)).mono ?_
 rintro e u20 ⟨rfl, MM, hk⟩
 rw [EG.out]
 replace MM := hide MM
 have l0 := DL.out
 have l3 := L3.out
 have l4 := L4.out
 have l5 := L5.out
 have l6 := GL.out
 clear x0 MG
 replace MW := hide (MW.out.keep hk (fun b h1 h2 h3 => by omega))
 replace NW := hide (NW.out.keep hk (fun b h1 h2 h3 => by omega))
 replace NG := hide (NG.out.keep hk (fun b h1 h2 h3 => by omega))
 replace TA := hide (TA.out.keep hk (fun h3 => by omega))
 replace TX := hide (TX.out.keep hk (fun h3 => by omega))
 replace TY := hide (TY.out.keep hk (fun h3 => by omega))
 replace Y1 := hide (Y1.out.keep hk (fun h3 => by omega))
 replace Y2 := hide (Y2.out.keep hk (fun h3 => by omega))
 replace G1 := hide (G1.out.keep hk (fun h3 => by omega))
 replace G2 := hide (G2.out.keep hk (fun h3 => by omega))
 replace BW := hide (BW.out.trans (hk.below BW.out.size (fun k h1 h2 => by omega)))
 clear hk l0 l3 l4 l5 l6 
 have bg : tg ≤ 20000000 := by rw [← EG.out, offT_full]; have := SRS.out; omega
 have x0 := G2.out.cell 0 _ rfl
 go_wp2_with fail
 refine (markTrmPoly T tg _ _ _ _ NG.out (by have := STT.out; omega) (by omega) (by omega)).mono ?_
 rintro e u21 ⟨rfl, NN, hk⟩
 rw [EH.out]
 replace NN := hide NN
 have l0 := DL.out
 have l3 := L3.out
 have l4 := L4.out
 have l5 := L5.out
 have l6 := GL.out
 clear x0 NG
 replace MW := hide (MW.out.keep hk (fun b h1 h2 h3 => by omega))
 replace NW := hide (NW.out.keep hk (fun b h1 h2 h3 => by omega))
 replace MM := hide (MM.out.keep hk (fun b h1 h2 h3 => by omega))
 replace TA := hide (TA.out.keep hk (fun h3 => by omega))
 replace TX := hide (TX.out.keep hk (fun h3 => by omega))
 replace TY := hide (TY.out.keep hk (fun h3 => by omega))
 replace Y1 := hide (Y1.out.keep hk (fun h3 => by omega))
 replace Y2 := hide (Y2.out.keep hk (fun h3 => by omega))
 replace G1 := hide (G1.out.keep hk (fun h3 => by omega))
 replace G2 := hide (G2.out.keep hk (fun h3 => by omega))
 replace BW := hide (BW.out.trans (hk.below BW.out.size (fun k h1 h2 => by omega)))
 clear hk l0 l3 l4 l5 l6 
 obtain ⟨BM, RBM⟩ := MM.out.read
 replace RBM := hide RBM
 have x0 := G1.out.cell 0 _ rfl
 go_wp2_with fail
 refine (heldTabTab R 1 BM _ _ RBM.out SR.out (by omega) (by omega)).mono ?_
 rintro e u22 ⟨rfl, hb⟩
 rw [EG.out]
 clear x0 RBM BM
 replace TA := hide (TA.out.below hb)
 replace TX := hide (TX.out.below hb)
 replace TY := hide (TY.out.below hb)
 replace MW := hide (MW.out.below hb)
 replace NW := hide (NW.out.below hb)
 replace Y1 := hide (Y1.out.below hb)
 replace Y2 := hide (Y2.out.below hb)
 replace MM := hide (MM.out.below hb)
 replace NN := hide (NN.out.below hb)
 replace G1 := hide (G1.out.below hb)
 replace G2 := hide (G2.out.below hb)
 replace BW := hide (BW.out.trans (hb.mono BW.out.size))
 clear hb
 obtain ⟨BM, RBM⟩ := NN.out.read
 replace RBM := hide RBM
 have x0 := G2.out.cell 0 _ rfl
 go_wp2_with fail
 refine (heldTrmPoly T tg BM _ _ RBM.out (by have := STT.out; omega) (by omega) (by omega)).mono ?_
 rintro e u23 ⟨rfl, hb⟩
 rw [EH.out]
 clear x0 RBM BM
 replace TA := hide (TA.out.below hb)
 replace TX := hide (TX.out.below hb)
 replace TY := hide (TY.out.below hb)
 replace MW := hide (MW.out.below hb)
 replace NW := hide (NW.out.below hb)
 replace Y1 := hide (Y1.out.below hb)
 replace Y2 := hide (Y2.out.below hb)
 replace MM := hide (MM.out.below hb)
 replace NN := hide (NN.out.below hb)
 replace G1 := hide (G1.out.below hb)
 replace G2 := hide (G2.out.below hb)
 replace BW := hide (BW.out.trans (hb.mono BW.out.size))
 clear hb
 go_wp2_with fail
 refine PhaseIn.cut (fun ac W => ∃ v1 v2 v3 q cap pa pl pc Z1 Z2 la ha mid hid, ac = act42 w ts x y a1 n n' n2 qa ca qx cx qy cy R oZ1 oZ2 u3 u4 u5 u6 tx ty tz tg th oq ocap opa opl opc o1 o2 o3 gx gv gu gq gcap ga gn gc gu9 gu11 gu13 v1 v2 v3 (.tuple #[.agg #[.slice q R.length cap], .agg #[.slice pa pl pc]]) (.pointer (some ⟨Z1, 0, none⟩)) (.pointer (some ⟨Z2, 0, none⟩)) (.tuple #[.agg #[.slice q R.length cap], .agg #[.slice pa pl pc]]) (.agg #[.slice q R.length cap]) (.agg #[.slice pa pl pc]) ∧ Hid (Done u23.drew R T Z1 Z2 q cap pa pl pc la ha mid hid W)) ?_ ?_
 ·
  refine PhaseIn.region (S := fun w' => Rec w.heap.size [.slice qa ts.length ca] w' ∧ Rec (w.heap.size + 1) [.slice qx x.length cx] w' ∧ Rec (w.heap.size + 1 + 1) [.slice qy y.length cy] w') 15 (by kernel_rfl) ?_
  have hb : Below u23.heap.size u23 u23.drew := (Below.refl _ _).drew
  replace TA := hide (TA.out.below hb)
  replace TX := hide (TX.out.below hb)
  replace TY := hide (TY.out.below hb)
  replace BW := hide (BW.out.trans (hb.mono BW.out.size))
  clear hb
  generalize u23.drew = d23 at BW TA TX TY ⊢
  have hHeld := And.intro TA.out (And.intro TX.out TY.out)
  refine PhaseIn.takeE (i := 0) (v := ?_) [0, 1, 4, 6, 7, 8, 9, 10, 13, 14] 130 rfl (by rfl) (by kernel_rfl) (fun _ _ _ h => h) (Or.inl ⟨by kernel_rfl, ?_⟩) hHeld ?_
  rotate_left
  · intro w' hSw
    (try dsimp only at hSw)
    have z0 := hSw.1.cell 0 _ rfl
    go_simp
    first | done | with_reducible rfl
  try simp only [Act.put, sA, List.set]
  refine PhaseIn.takeE (i := 2) (v := ?_) [2, 7, 8, 9, 10, 13, 14] 132 rfl (by rfl) (by kernel_rfl) (fun _ _ _ h => h) (Or.inl ⟨by kernel_rfl, ?_⟩) hHeld ?_
  rotate_left
  · intro w' hSw
    (try dsimp only at hSw)
    go_simp
    first | done | with_reducible rfl
  try simp only [Act.put, sA, List.set]
  refine PhaseIn.takeE (i := 3) (v := ?_) [3, 4, 6, 7, 8, 9, 10, 13, 14] 133 rfl (by rfl) (by kernel_rfl) (fun _ _ _ h => h) (Or.inl ⟨by kernel_rfl, ?_⟩) hHeld ?_
  rotate_left
  · intro w' hSw
    (try dsimp only at hSw)
    have z0 := hSw.2.1.cell 0 _ rfl
    go_simp
    first | done | with_reducible rfl
  try simp only [Act.put, sA, List.set]
  refine PhaseIn.takeE (i := 5) (v := ?_) [5, 6, 7, 8, 9, 10, 13, 14] 135 rfl (by rfl) (by kernel_rfl) (fun _ _ _ h => h) (Or.inl ⟨by kernel_rfl, ?_⟩) hHeld ?_
  rotate_left
  · intro w' hSw
    (try dsimp only at hSw)
    have z0 := hSw.2.2.cell 0 _ rfl
    go_simp
    first | done | with_reducible rfl
  try simp only [Act.put, sA, List.set]
  clear hHeld
  refine PhaseIn.layer (F := 8) 1 11 12 _ _ _ rfl rfl rfl rfl rfl rfl (fun b1 b2 => #[true, false, true, true, false, true, false, false, false, false, false, b1, b2, false, false]) (fun b1 b2 ac W => ∃ v1 v2 v3 v4 p1 p2 lo hi, ac = act42 w ts x y a1 n n' n2 qa ca qx cx qy cy R oZ1 oZ2 u3 u4 u5 u6 tx ty tz tg th oq ocap opa opl opc o1 o2 o3 gx gv gu gq gcap ga gn gc gu9 gu11 gu13 v1 v2 v3 v4 p1 p2 undef undef undef ∧ Hid (St d23 ts x y R T 0 b1 b2 v1 v2 v3 v4 p1 p2 lo hi W)) (fun b1 b2 ac W => ∃ v1 v2 v3 v4 p1 p2 lo hi, ac = act42 w ts x y a1 n n' n2 qa ca qx cx qy cy R oZ1 oZ2 u3 u4 u5 u6 tx ty tz tg th oq ocap opa opl opc o1 o2 o3 gx gv gu gq gcap ga gn gc gu9 gu11 gu13 v1 v2 v3 v4 p1 p2 undef undef undef ∧ Hid (St d23 ts x y R T 1 b1 b2 v1 v2 v3 v4 p1 p2 lo hi W)) ?_ ?_ ?_ ?_ ?_ ?_ ?_ false false _ _ ?_
  · intro b1 b2; cases b1 <;> cases b2 <;> kernel_rfl
  · intro b'; cases b' <;> kernel_rfl
  · intro b'; cases b' <;> kernel_rfl
  · intro b1 b2 ac W hI
    rw [show 8 + PhaseIn.left2 b1 b2 = 7 + PhaseIn.left2 b1 b2 + 1 by omega, show ((fun b1 b2 => #[true, false, true, true, false, true, false, false, false, false, false, b1, b2, false, false]) b1 b2).setIfInBounds 1 true = (fun b1 b2 => #[true, true, true, true, false, true, false, false, false, false, false, b1, b2, false, false]) b1 b2 from by cases b1 <;> cases b2 <;> kernel_rfl]
    refine PhaseIn.layer (F := 7) 4 11 12 _ _ _ rfl rfl rfl rfl rfl rfl (fun b1 b2 => #[true, true, true, true, false, true, false, false, false, false, false, b1, b2, false, false]) (fun b1 b2 ac W => ∃ v1 v2 v3 v4 p1 p2 lo hi, ac = act42 w ts x y a1 n n' n2 qa ca qx cx qy cy R oZ1 oZ2 u3 u4 u5 u6 tx ty tz tg th oq ocap opa opl opc o1 o2 o3 gx gv gu gq gcap ga gn gc gu9 gu11 gu13 v1 v2 v3 v4 p1 p2 undef undef undef ∧ Hid (St d23 ts x y R T 1 b1 b2 v1 v2 v3 v4 p1 p2 lo hi W)) (fun b1 b2 ac W => ∃ v1 v2 v3 v4 p1 p2 lo hi, ac = act42 w ts x y a1 n n' n2 qa ca qx cx qy cy R oZ1 oZ2 u3 u4 u5 u6 tx ty tz tg th oq ocap opa opl opc o1 o2 o3 gx gv gu gq gcap ga gn gc gu9 gu11 gu13 v1 v2 v3 v4 p1 p2 undef undef undef ∧ Hid (St d23 ts x y R T 2 b1 b2 v1 v2 v3 v4 p1 p2 lo hi W)) ?_ ?_ ?_ ?_ ?_ ?_ ?_ b1 b2 _ _ hI
    · intro b1 b2; cases b1 <;> cases b2 <;> kernel_rfl
    · intro b'; cases b' <;> kernel_rfl
    · intro b'; cases b' <;> kernel_rfl
    · intro b1 b2 ac W hI
      rw [show 7 + PhaseIn.left2 b1 b2 = 6 + PhaseIn.left2 b1 b2 + 1 by omega, show ((fun b1 b2 => #[true, true, true, true, false, true, false, false, false, false, false, b1, b2, false, false]) b1 b2).setIfInBounds 4 true = (fun b1 b2 => #[true, true, true, true, true, true, false, false, false, false, false, b1, b2, false, false]) b1 b2 from by cases b1 <;> cases b2 <;> kernel_rfl]
      refine PhaseIn.layer (F := 6) 6 11 12 _ _ _ rfl rfl rfl rfl rfl rfl (fun b1 b2 => #[true, true, true, true, true, true, false, false, false, false, false, b1, b2, false, false]) (fun b1 b2 ac W => ∃ v1 v2 v3 v4 p1 p2 lo hi, ac = act42 w ts x y a1 n n' n2 qa ca qx cx qy cy R oZ1 oZ2 u3 u4 u5 u6 tx ty tz tg th oq ocap opa opl opc o1 o2 o3 gx gv gu gq gcap ga gn gc gu9 gu11 gu13 v1 v2 v3 v4 p1 p2 undef undef undef ∧ Hid (St d23 ts x y R T 2 b1 b2 v1 v2 v3 v4 p1 p2 lo hi W)) (fun b1 b2 ac W => ∃ v1 v2 v3 v4 p1 p2 lo hi, ac = act42 w ts x y a1 n n' n2 qa ca qx cx qy cy R oZ1 oZ2 u3 u4 u5 u6 tx ty tz tg th oq ocap opa opl opc o1 o2 o3 gx gv gu gq gcap ga gn gc gu9 gu11 gu13 v1 v2 v3 v4 p1 p2 undef undef undef ∧ Hid (St d23 ts x y R T 3 b1 b2 v1 v2 v3 v4 p1 p2 lo hi W)) ?_ ?_ ?_ ?_ ?_ ?_ ?_ b1 b2 _ _ hI
      · intro b1 b2; cases b1 <;> cases b2 <;> kernel_rfl
      · intro b'; cases b' <;> kernel_rfl
      · intro b'; cases b' <;> kernel_rfl
      · intro b1 b2 ac W hI
        rw [show 6 + PhaseIn.left2 b1 b2 = 5 + PhaseIn.left2 b1 b2 + 1 by omega, show ((fun b1 b2 => #[true, true, true, true, true, true, false, false, false, false, false, b1, b2, false, false]) b1 b2).setIfInBounds 6 true = (fun b1 b2 => #[true, true, true, true, true, true, true, false, false, false, false, b1, b2, false, false]) b1 b2 from by cases b1 <;> cases b2 <;> kernel_rfl]
        refine PhaseIn.layer (F := 5) 7 11 12 _ _ _ rfl rfl rfl rfl rfl rfl (fun b1 b2 => #[true, true, true, true, true, true, true, false, false, false, false, b1, b2, false, false]) (fun b1 b2 ac W => ∃ v1 v2 v3 v4 p1 p2 lo hi, ac = act42 w ts x y a1 n n' n2 qa ca qx cx qy cy R oZ1 oZ2 u3 u4 u5 u6 tx ty tz tg th oq ocap opa opl opc o1 o2 o3 gx gv gu gq gcap ga gn gc gu9 gu11 gu13 v1 v2 v3 v4 p1 p2 undef undef undef ∧ Hid (St d23 ts x y R T 3 b1 b2 v1 v2 v3 v4 p1 p2 lo hi W)) (fun b1 b2 ac W => ∃ v1 v2 v3 q cap pa pl pc p1 p2 lo hi, ac = act42 w ts x y a1 n n' n2 qa ca qx cx qy cy R oZ1 oZ2 u3 u4 u5 u6 tx ty tz tg th oq ocap opa opl opc o1 o2 o3 gx gv gu gq gcap ga gn gc gu9 gu11 gu13 v1 v2 v3 (.tuple #[.agg #[.slice q R.length cap], .agg #[.slice pa pl pc]]) p1 p2 undef undef undef ∧ Hid (St d23 ts x y R T 4 b1 b2 v1 v2 v3 (.tuple #[.agg #[.slice q R.length cap], .agg #[.slice pa pl pc]]) p1 p2 lo hi W)) ?_ ?_ ?_ ?_ ?_ ?_ ?_ b1 b2 _ _ hI
        · intro b1 b2; cases b1 <;> cases b2 <;> kernel_rfl
        · intro b'; cases b' <;> kernel_rfl
        · intro b'; cases b' <;> kernel_rfl
        · intro b1 b2 ac W hI
          rw [show 5 + PhaseIn.left2 b1 b2 = 2 + PhaseIn.left2 b1 b2 + 3 by omega, show ((fun b1 b2 => #[true, true, true, true, true, true, true, false, false, false, false, b1, b2, false, false]) b1 b2).setIfInBounds 7 true = (fun b1 b2 => #[true, true, true, true, true, true, true, true, false, false, false, b1, b2, false, false]) b1 b2 from by cases b1 <;> cases b2 <;> kernel_rfl]
          refine PhaseIn.thru (F := 2) (fun b1 b2 => #[true, true, true, true, true, true, true, true, false, false, false, b1, b2, false, false]) (fun b1 b2 => #[true, true, true, true, true, true, true, true, true, true, true, b1, b2, false, false]) (fun b1 b2 ac W => ∃ v1 v2 v3 q cap pa pl pc p1 p2 lo hi, ac = act42 w ts x y a1 n n' n2 qa ca qx cx qy cy R oZ1 oZ2 u3 u4 u5 u6 tx ty tz tg th oq ocap opa opl opc o1 o2 o3 gx gv gu gq gcap ga gn gc gu9 gu11 gu13 v1 v2 v3 (.tuple #[.agg #[.slice q R.length cap], .agg #[.slice pa pl pc]]) p1 p2 undef undef undef ∧ Hid (St d23 ts x y R T 4 b1 b2 v1 v2 v3 (.tuple #[.agg #[.slice q R.length cap], .agg #[.slice pa pl pc]]) p1 p2 lo hi W)) (fun b1 b2 ac W => ∃ v1 v2 v3 q cap pa pl pc p1 p2 lo hi, ac = act42 w ts x y a1 n n' n2 qa ca qx cx qy cy R oZ1 oZ2 u3 u4 u5 u6 tx ty tz tg th oq ocap opa opl opc o1 o2 o3 gx gv gu gq gcap ga gn gc gu9 gu11 gu13 v1 v2 v3 (.tuple #[.agg #[.slice q R.length cap], .agg #[.slice pa pl pc]]) p1 p2 (.tuple #[.agg #[.slice q R.length cap], .agg #[.slice pa pl pc]]) (.agg #[.slice q R.length cap]) (.agg #[.slice pa pl pc]) ∧ Hid (St d23 ts x y R T 4 b1 b2 v1 v2 v3 (.tuple #[.agg #[.slice q R.length cap], .agg #[.slice pa pl pc]]) p1 p2 lo hi W)) ?_ ?_ b1 b2 _ _ hI
          · refine PhaseIn.last (F := 2) 11 12 _ _ rfl rfl rfl rfl (fun b1 b2 => #[true, true, true, true, true, true, true, true, true, true, true, b1, b2, false, false]) (fun b1 b2 ac W => ∃ v1 v2 v3 q cap pa pl pc p1 p2 lo hi, ac = act42 w ts x y a1 n n' n2 qa ca qx cx qy cy R oZ1 oZ2 u3 u4 u5 u6 tx ty tz tg th oq ocap opa opl opc o1 o2 o3 gx gv gu gq gcap ga gn gc gu9 gu11 gu13 v1 v2 v3 (.tuple #[.agg #[.slice q R.length cap], .agg #[.slice pa pl pc]]) p1 p2 (.tuple #[.agg #[.slice q R.length cap], .agg #[.slice pa pl pc]]) (.agg #[.slice q R.length cap]) (.agg #[.slice pa pl pc]) ∧ Hid (St d23 ts x y R T 4 b1 b2 v1 v2 v3 (.tuple #[.agg #[.slice q R.length cap], .agg #[.slice pa pl pc]]) p1 p2 lo hi W)) ?_ ?_ ?_ ?_ ?_ ?_
            · intro b1 b2 h; cases b1 <;> cases b2 <;> first | (cases h; done) | kernel_rfl
            · intro b'; cases b' <;> kernel_rfl
            · intro b'; cases b' <;> kernel_rfl
            · rintro b' ac W K ⟨v1, v2, v3, q, cap, pa, pl, pc, p1, p2, lo, hi, rfl, S0⟩ hK
              unfold Oper.wpIn
              try unfold act42
              refine ⟨fun _ _ => trivial, ?_⟩
              go_simp
              have S' := hide (S0.out.box1 32)
              try simp only [Act.put, sA, List.set]
              exact hK _ _ ⟨TA.out.below S'.out.bd, TX.out.below S'.out.bd, TY.out.below S'.out.bd⟩ ⟨v1, v2, v3, q, cap, pa, pl, pc, _, p2, lo, hi, rfl, S'⟩
            · rintro b' ac W K ⟨v1, v2, v3, q, cap, pa, pl, pc, p1, p2, lo, hi, rfl, S0⟩ hK
              unfold Oper.wpIn
              try unfold act42
              refine ⟨fun _ _ => trivial, ?_⟩
              go_simp
              have S' := hide (S0.out.box2 35)
              try simp only [Act.put, sA, List.set]
              exact hK _ _ ⟨TA.out.below S'.out.bd, TX.out.below S'.out.bd, TY.out.below S'.out.bd⟩ ⟨v1, v2, v3, q, cap, pa, pl, pc, p1, _, lo, hi, rfl, S'⟩
            · rintro ac W ⟨v1, v2, v3, q, cap, pa, pl, pc, p1, p2, lo, hi, rfl, S0⟩
              obtain ⟨Z1, rfl, -, -, -⟩ := S0.out.z1 rfl
              obtain ⟨Z2, rfl, -, -, -⟩ := S0.out.z2 rfl
              obtain ⟨r1, r2, ne, zd1, zd2, la, ha, mid, hid, DN⟩ := S0.out.done
              have D0 := hide DN
              have t1 : Turn Z1 W (W.setCell ⟨Z1, 0, none⟩ (.slice q R.length cap)) := (Turn.refl _ W).setCell (p := ⟨Z1, 0, none⟩) rfl _
              have B1 := S0.out.bd.trans (t1.below zd1 S0.out.bd.size)
              have r2' := r2.turn t1 (Ne.symm ne)
              have c1 := r1.cell 0 _ rfl
              have f1 := r1.soft 0
              unfold act42
              refine PhaseIn.one (i := 13) (by kernel_rfl) rfl (by kernel_rfl) (fun K hK => ?_)
              unfold Oper.wpIn
              try unfold act42
              refine ⟨fun _ _ => trivial, ?_⟩
              go_simp
              refine hK _ _ (fun _ => ⟨TA.out.below B1, TX.out.below B1, TY.out.below B1⟩) ?_
              clear hK K c1 f1
              try simp only [Act.put, sA, List.set]
              have c2 := r2'.cell 0 _ rfl
              have f2 := r2'.soft 0
              refine PhaseIn.one (i := 14) (by kernel_rfl) rfl (by kernel_rfl) (fun K hK => ?_)
              unfold Oper.wpIn
              try unfold act42
              refine ⟨fun _ _ => trivial, ?_⟩
              go_simp
              refine hK _ _ (fun _ => ⟨TA.out.below D0.out.bd, TX.out.below D0.out.bd, TY.out.below D0.out.bd⟩) ?_
              clear hK K c2 f2
              try simp only [Act.put, sA, List.set]
              refine PhaseIn.done (by kernel_rfl) ?_ _
              exact ⟨v1, v2, v3, q, cap, pa, pl, pc, Z1, Z2, la, ha, mid, hid, rfl, D0⟩
          · rintro b1 b2 ac W ⟨v1, v2, v3, q, cap, pa, pl, pc, p1, p2, lo, hi, rfl, S0⟩ hN
            have hHeld := And.intro (TA.out.below S0.out.bd) (And.intro (TX.out.below S0.out.bd) (TY.out.below S0.out.bd))
            unfold act42
            cases b1 <;> cases b2
            all_goals
             refine PhaseIn.takeE (i := 8) (v := ?_) [8, 9, 10, 13, 14] 129 rfl (by rfl) (by kernel_rfl) (fun _ _ _ h => h) (Or.inl ⟨by kernel_rfl, ?_⟩) hHeld ?_
             rotate_left
             · intro w' hSw
               (try dsimp only at hSw)
               go_simp
               first | done | with_reducible rfl
             try simp only [Act.put, sA, List.set]
             refine PhaseIn.takeE (i := 9) (v := ?_) [9, 13, 14] 138 rfl (by rfl) (by kernel_rfl) (fun _ _ _ h => h) (Or.inl ⟨by kernel_rfl, ?_⟩) hHeld ?_
             rotate_left
             · intro w' hSw
               (try dsimp only at hSw)
               go_simp
               first | done | with_reducible rfl
             try simp only [Act.put, sA, List.set]
             refine PhaseIn.takeE (i := 10) (v := ?_) [10, 14] 139 rfl (by rfl) (by kernel_rfl) (fun _ _ _ h => h) (Or.inl ⟨by kernel_rfl, ?_⟩) hHeld ?_
             rotate_left
             · intro w' hSw
               (try dsimp only at hSw)
               go_simp
               first | done | with_reducible rfl
             try simp only [Act.put, sA, List.set]
             exact hN _ ⟨v1, v2, v3, q, cap, pa, pl, pc, p1, p2, lo, hi, rfl, S0⟩
        · rintro b1 b2 ac W K ⟨v1, v2, v3, v4, p1, p2, lo, hi, rfl, S0⟩ hK
          obtain ⟨g1, B1, rfl, r1⟩ := S0.out.c1 (by omega)
          obtain ⟨g2, B2, rfl, r2⟩ := S0.out.c2 (by omega)
          obtain ⟨g3, B3, rfl, r3⟩ := S0.out.c3 (by omega)
          have CL := implTabDo ts a1 x y B1 B2 B3 _ _ _ _ r1 r2 r3
          rw [ER.out, ET.out] at CL
          unfold Oper.wpIn
          try unfold act42
          refine ⟨fun _ _ => trivial, ?_⟩
          go_simp
          refine ⟨rfl, (callsIn_wide.2 CL).mono ?_⟩
          rintro e W' ho
          obtain ⟨q, cap, pa, pl, pc, rfl, S1⟩ := S0.out.call4 ho.out
          have S' := hide S1
          try simp only [Act.put, sA, List.set]
          exact hK _ _ ⟨TA.out.below S'.out.bd, TX.out.below S'.out.bd, TY.out.below S'.out.bd⟩ ⟨_, _, _, q, cap, pa, pl, pc, p1, p2, _, _, rfl, S'⟩
        · rintro b' ac W K ⟨v1, v2, v3, v4, p1, p2, lo, hi, rfl, S0⟩ hK
          unfold Oper.wpIn
          try unfold act42
          refine ⟨fun _ _ => trivial, ?_⟩
          go_simp
          have S' := hide (S0.out.box1 32)
          try simp only [Act.put, sA, List.set]
          exact hK _ _ ⟨TA.out.below S'.out.bd, TX.out.below S'.out.bd, TY.out.below S'.out.bd⟩ ⟨v1, v2, v3, v4, _, p2, lo, hi, rfl, S'⟩
        · rintro b' ac W K ⟨v1, v2, v3, v4, p1, p2, lo, hi, rfl, S0⟩ hK
          unfold Oper.wpIn
          try unfold act42
          refine ⟨fun _ _ => trivial, ?_⟩
          go_simp
          have S' := hide (S0.out.box2 35)
          try simp only [Act.put, sA, List.set]
          exact hK _ _ ⟨TA.out.below S'.out.bd, TX.out.below S'.out.bd, TY.out.below S'.out.bd⟩ ⟨v1, v2, v3, v4, p1, _, lo, hi, rfl, S'⟩
      · rintro b1 b2 ac W K ⟨v1, v2, v3, v4, p1, p2, lo, hi, rfl, S0⟩ hK
        unfold Oper.wpIn
        try unfold act42
        refine ⟨fun _ _ => trivial, ?_⟩
        go_simp
        refine ⟨rfl, (callsIn_wide.2 (toTrmPoly y By _ _ (RY.out.below (BW.out.trans (S0.out.bd.mono BW.out.size))) HY.out)).mono ?_⟩
        rintro e W' ⟨g, rfl, M1, hb⟩
        have S' := hide (S0.out.call3 hb M1.read)
        try simp only [Act.put, sA, List.set]
        exact hK _ _ ⟨TA.out.below S'.out.bd, TX.out.below S'.out.bd, TY.out.below S'.out.bd⟩ ⟨v1, v2, _, v4, p1, p2, lo, hi, rfl, S'⟩
      · rintro b' ac W K ⟨v1, v2, v3, v4, p1, p2, lo, hi, rfl, S0⟩ hK
        unfold Oper.wpIn
        try unfold act42
        refine ⟨fun _ _ => trivial, ?_⟩
        go_simp
        have S' := hide (S0.out.box1 32)
        try simp only [Act.put, sA, List.set]
        exact hK _ _ ⟨TA.out.below S'.out.bd, TX.out.below S'.out.bd, TY.out.below S'.out.bd⟩ ⟨v1, v2, v3, v4, _, p2, lo, hi, rfl, S'⟩
      · rintro b' ac W K ⟨v1, v2, v3, v4, p1, p2, lo, hi, rfl, S0⟩ hK
        unfold Oper.wpIn
        try unfold act42
        refine ⟨fun _ _ => trivial, ?_⟩
        go_simp
        have S' := hide (S0.out.box2 35)
        try simp only [Act.put, sA, List.set]
        exact hK _ _ ⟨TA.out.below S'.out.bd, TX.out.below S'.out.bd, TY.out.below S'.out.bd⟩ ⟨v1, v2, v3, v4, p1, _, lo, hi, rfl, S'⟩
    · rintro b1 b2 ac W K ⟨v1, v2, v3, v4, p1, p2, lo, hi, rfl, S0⟩ hK
      unfold Oper.wpIn
      try unfold act42
      refine ⟨fun _ _ => trivial, ?_⟩
      go_simp
      refine ⟨rfl, (callsIn_wide.2 (toTrmPoly x Bx _ _ (RX.out.below (BW.out.trans (S0.out.bd.mono BW.out.size))) HX.out)).mono ?_⟩
      rintro e W' ⟨g, rfl, M1, hb⟩
      have S' := hide (S0.out.call2 hb M1.read)
      try simp only [Act.put, sA, List.set]
      exact hK _ _ ⟨TA.out.below S'.out.bd, TX.out.below S'.out.bd, TY.out.below S'.out.bd⟩ ⟨v1, _, v3, v4, p1, p2, lo, hi, rfl, S'⟩
    · rintro b' ac W K ⟨v1, v2, v3, v4, p1, p2, lo, hi, rfl, S0⟩ hK
      unfold Oper.wpIn
      try unfold act42
      refine ⟨fun _ _ => trivial, ?_⟩
      go_simp
      have S' := hide (S0.out.box1 32)
      try simp only [Act.put, sA, List.set]
      exact hK _ _ ⟨TA.out.below S'.out.bd, TX.out.below S'.out.bd, TY.out.below S'.out.bd⟩ ⟨v1, v2, v3, v4, _, p2, lo, hi, rfl, S'⟩
    · rintro b' ac W K ⟨v1, v2, v3, v4, p1, p2, lo, hi, rfl, S0⟩ hK
      unfold Oper.wpIn
      try unfold act42
      refine ⟨fun _ _ => trivial, ?_⟩
      go_simp
      have S' := hide (S0.out.box2 35)
      try simp only [Act.put, sA, List.set]
      exact hK _ _ ⟨TA.out.below S'.out.bd, TX.out.below S'.out.bd, TY.out.below S'.out.bd⟩ ⟨v1, v2, v3, v4, p1, _, lo, hi, rfl, S'⟩
  · rintro b1 b2 ac W K ⟨v1, v2, v3, v4, p1, p2, lo, hi, rfl, S0⟩ hK
    unfold Oper.wpIn
    try unfold act42
    refine ⟨fun _ _ => trivial, ?_⟩
    go_simp
    refine ⟨rfl, (callsIn_wide.2 (toTabTab ts B _ _ (RM.out.below (BW.out.trans (S0.out.bd.mono BW.out.size))) HS.out)).mono ?_⟩
    rintro e W' ⟨g, rfl, M1, hb⟩
    have S' := hide (S0.out.call1 hb M1.read)
    try simp only [Act.put, sA, List.set]
    exact hK _ _ ⟨TA.out.below S'.out.bd, TX.out.below S'.out.bd, TY.out.below S'.out.bd⟩ ⟨_, v2, v3, v4, p1, p2, lo, hi, rfl, S'⟩
  · rintro b' ac W K ⟨v1, v2, v3, v4, p1, p2, lo, hi, rfl, S0⟩ hK
    unfold Oper.wpIn
    try unfold act42
    refine ⟨fun _ _ => trivial, ?_⟩
    go_simp
    have S' := hide (S0.out.box1 32)
    try simp only [Act.put, sA, List.set]
    exact hK _ _ ⟨TA.out.below S'.out.bd, TX.out.below S'.out.bd, TY.out.below S'.out.bd⟩ ⟨v1, v2, v3, v4, _, p2, lo, hi, rfl, S'⟩
  · rintro b' ac W K ⟨v1, v2, v3, v4, p1, p2, lo, hi, rfl, S0⟩ hK
    unfold Oper.wpIn
    try unfold act42
    refine ⟨fun _ _ => trivial, ?_⟩
    go_simp
    have S' := hide (S0.out.box2 35)
    try simp only [Act.put, sA, List.set]
    exact hK _ _ ⟨TA.out.below S'.out.bd, TX.out.below S'.out.bd, TY.out.below S'.out.bd⟩ ⟨v1, v2, v3, v4, p1, _, lo, hi, rfl, S'⟩
  · exact ⟨undef, undef, undef, undef, undef, undef, _, _, rfl, hide (St.new _ _ _ _ _ _ _ _ _ _ _ _)⟩
 rintro ac W2 ⟨v1', v2', v3', q', cap', pa', pl', pc', Z3, Z4, la', ha', mid', hid', rfl, DN⟩
 unfold act42
 have hb := (Below.refl u23.heap.size u23).drew.trans DN.out.bd
 have MH := hide DN.out.t
 have NH := hide DN.out.p
 have H1 := hide DN.out.r1
 have H2 := hide DN.out.r2
 clear DN TA TX TY
 replace MW := hide (MW.out.below hb)
 replace NW := hide (NW.out.below hb)
 replace Y1 := hide (Y1.out.below hb)
 replace Y2 := hide (Y2.out.below hb)
 replace MM := hide (MM.out.below hb)
 replace NN := hide (NN.out.below hb)
 replace G1 := hide (G1.out.below hb)
 replace G2 := hide (G2.out.below hb)
 replace BW := hide (BW.out.trans (hb.mono BW.out.size))
 clear hb
 obtain ⟨BG, RBG⟩ := MH.out.read
 replace RBG := hide RBG
 obtain ⟨BY, RBY⟩ := MW.out.read
 replace RBY := hide RBY
 have x0 := H1.out.cell 0 _ rfl
 have y0 := Y1.out.cell 0 _ rfl
 go_wp2_with fail
 refine (eqTabTab R BG BY _ _ _ RBG.out RBY.out).mono ?_
 rintro e e1 ⟨rfl, hb⟩
 clear x0 y0 RBG RBY BG BY
 replace MW := hide (MW.out.below hb)
 replace NW := hide (NW.out.below hb)
 replace Y1 := hide (Y1.out.below hb)
 replace Y2 := hide (Y2.out.below hb)
 replace MM := hide (MM.out.below hb)
 replace NN := hide (NN.out.below hb)
 replace G1 := hide (G1.out.below hb)
 replace G2 := hide (G2.out.below hb)
 replace NH := hide (NH.out.below hb)
 replace H2 := hide (H2.out.below hb)
 replace BW := hide (BW.out.trans (hb.mono BW.out.size))
 clear hb
 obtain ⟨BG, RBG⟩ := NH.out.read
 replace RBG := hide RBG
 obtain ⟨BY, RBY⟩ := NW.out.read
 replace RBY := hide RBY
 have x0 := H2.out.cell 0 _ rfl
 have y0 := Y2.out.cell 0 _ rfl
 go_wp2_with fail
 refine (eqTrmPoly T BG BY _ _ _ RBG.out RBY.out).mono ?_
 rintro e e2 ⟨rfl, hb⟩
 clear x0 y0 RBG RBY BG BY
 replace MW := hide (MW.out.below hb)
 replace NW := hide (NW.out.below hb)
 replace Y1 := hide (Y1.out.below hb)
 replace Y2 := hide (Y2.out.below hb)
 replace MM := hide (MM.out.below hb)
 replace NN := hide (NN.out.below hb)
 replace G1 := hide (G1.out.below hb)
 replace G2 := hide (G2.out.below hb)
 replace NH := hide (NH.out.below hb)
 replace H2 := hide (H2.out.below hb)
 replace BW := hide (BW.out.trans (hb.mono BW.out.size))
 clear hb
 clear MH NH H1 H2 MW NW Y1 Y2
 obtain ⟨BM, RBM⟩ := MM.out.read
 replace RBM := hide RBM
 have x0 := G1.out.cell 0 _ rfl
 go_wp2_with fail
 refine (heldTabTab R 1 BM _ _ RBM.out SR.out (by omega) (by omega)).mono ?_
 rintro e e3 ⟨rfl, hb⟩
 rw [EG.out]
 clear x0 RBM BM
 replace NN := hide (NN.out.below hb)
 replace G2 := hide (G2.out.below hb)
 replace BW := hide (BW.out.trans (hb.mono BW.out.size))
 clear hb
 obtain ⟨BM, RBM⟩ := NN.out.read
 replace RBM := hide RBM
 have x0 := G2.out.cell 0 _ rfl
 go_wp2_with fail
 refine (heldTrmPoly T tg BM _ _ RBM.out (by have := STT.out; omega) (by omega) (by omega)).mono ?_
 rintro e e4 ⟨rfl, hb⟩
 rw [EH.out]
 clear x0 RBM BM
 replace NN := hide (NN.out.below hb)
 replace G2 := hide (G2.out.below hb)
 replace BW := hide (BW.out.trans (hb.mono BW.out.size))
 clear hb
 clear MM NN G1 G2
 go_wp2
 go_ret
 exact ⟨rfl, BW.out⟩

set_option maxRecDepth 100000 in
theorem lifted (os : Os) (started : os.Started) (H : Type) (enc : TypeId × Value → H) :
 ReturnsInHanded {} Tryz.checked os 3 .any (Rows.fnExactTabDoSpec.pre6 enc Tryz.prog Tryz.f3 Rows.fnExactTabDoRow.domain false) (Rows.fnExactTabDoSpec.post enc Tryz.prog Tryz.f3 false true false false) := by
 refine returnsInHanded_of_change (C := Tryz.checked) own started (by kernel_rfl) Tryz.func3
  (ChangeSpec.witness6 (enc := enc) (C := Tryz.checked) false ⟨#[], #[.agg #[.slice none 0 0], .int .i64 0, .agg #[.slice none 0 0], .agg #[.slice none 0 0]], []⟩ 8 (by kernel_rfl) (by kernel_rfl) (by kernel_rfl) (by kernel_rfl)) ?_
 intro W base args ds gs before hval0 hW hcnd hsz0
 have hval : ∀ (j : Nat) t v, Tryz.f3.params[j]? = some t → args[j]? = some v → Value.okWide Tryz.prog W .any base t v := hval0
 have hW' := hW
 obtain ⟨p, q, hA0, hV, rfl, hfz, hnd⟩ := hW
 have hA : DataW.TrodAll enc Tryz.prog W 0 (fun _ => true) true Tryz.f3.params.toList args.toList ds p := hA0
 rw [Tryz.params3] at hA hval
 obtain ⟨v0, vs0, d0, ds0, p0, q0, hargs, rfl, rfl, h0, r0⟩ := trodAll_cons hA
 obtain ⟨v1, vs1, d1, ds1, p1, q1, rfl, rfl, rfl, h1, r1⟩ := trodAll_cons r0
 obtain ⟨v2, vs2, d2, ds2, p2, q2, rfl, rfl, rfl, h2, r2⟩ := trodAll_cons r1
 obtain ⟨v3, vs3, d3, ds3, p3, q3, rfl, rfl, rfl, h3, r3⟩ := trodAll_cons r2
 obtain ⟨rfl, rfl, rfl⟩ := trodAll_nil r3
 obtain rfl : args = #[v0, v1, v2, v3] := by cases args; simp_all
 obtain ⟨rfl, rfl⟩ := trodVars_none hV
 have k0 := h0
 have lt0 : ∀ x ∈ p0, x.block < W.heap.size := by obtain ⟨m, hm⟩ := k0; exact DataW.trod_lt m _ _ _ hm
 obtain ⟨a0, rfl, _⟩ := okWide_struct Tryz.underlying24 (hval 0 24 v0 rfl rfl)
 have w0 : Shape.Holds Tryz.prog W 9 24 a0.toList := Shape.opened 9 h0
 have k1 := h1
 have lt1 : ∀ x ∈ p1, x.block < W.heap.size := by obtain ⟨m, hm⟩ := k1; exact DataW.trod_lt m _ _ _ hm
 obtain ⟨a1, rfl, rfl, rfl, w1⟩ := open_int Tryz.underlying3 (hval 1 3 v1 rfl rfl) h1
 have k2 := h2
 have lt2 : ∀ x ∈ p2, x.block < W.heap.size := by obtain ⟨m, hm⟩ := k2; exact DataW.trod_lt m _ _ _ hm
 obtain ⟨a2, rfl, _⟩ := okWide_struct Tryz.underlying27 (hval 2 27 v2 rfl rfl)
 have w2 : Shape.Holds Tryz.prog W 9 27 a2.toList := Shape.opened 9 h2
 have k3 := h3
 have lt3 : ∀ x ∈ p3, x.block < W.heap.size := by obtain ⟨m, hm⟩ := k3; exact DataW.trod_lt m _ _ _ hm
 obtain ⟨a3, rfl, _⟩ := okWide_struct Tryz.underlying27 (hval 3 27 v3 rfl rfl)
 have w3 : Shape.Holds Tryz.prog W 9 27 a3.toList := Shape.opened 9 h3
 clear hA0 hval0
 refine (walk a0 a1 w1 a2 a3 W w0 w2 w3).mono fun e W' ⟨he, hnx⟩ => ?_
 subst he
 exact ⟨_, rfl, _, _, _, [], _, [], hW', trodAll_cons_mk (shut_bool Tryz.underlying4 _) trodAll_mk0, (trodAll_cons_mk (Below.trod laidOut (by kernel_rfl) (of_decide_eq_true (by kernel_rfl)) k0 hnx lt0) (trodAll_cons_mk (Below.trod laidOut (by kernel_rfl) (of_decide_eq_true (by kernel_rfl)) k1 hnx lt1) (trodAll_cons_mk (Below.trod laidOut (by kernel_rfl) (of_decide_eq_true (by kernel_rfl)) k2 hnx lt2) (trodAll_cons_mk (Below.trod laidOut (by kernel_rfl) (of_decide_eq_true (by kernel_rfl)) k3 hnx lt3) trodAll_mk0)))), rfl, hnx.frame _, fun h => by cases h⟩

theorem over : Rows.fnExactTabDoRow.holds Tryz.pinned (OpenSpec.ofChange Rows.fnExactTabDoSpec) :=
 OpenClaim.holds_of_wide 3 Tryz.f3 rfl rfl rfl rfl rfl rfl rfl ⟨rfl, rfl, rfl, rfl, rfl⟩ rfl rfl rfl rfl rfl (by kernel_rfl) Tryz.func3 (by kernel_rfl)
  (of_decide_eq_true (by kernel_rfl)) (by unfold Func.isWrapper; first | (rw [if_pos (by decide +kernel)]; kernel_rfl) | (rw [if_neg (by decide +kernel)]; exact ⟨rfl, rfl⟩))
  (fun os started H enc _ => lifted os started H enc)

theorem proved : Rows.FnExactTabDoSaid := over
#print axioms proved
end Go.Proofs.YtggilenddbobnaaGreat.fnExactTabDo
