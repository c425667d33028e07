/-
  At every table of atoms and every atom the program's TabPut answers as the specification's TabPut does, both answers, every field; it writes into no argument, and its answer owns its memory (the law FnExactTabPut returns true); no condition.
  The frame (lifted, over, proved) is written by my own program after the guide's worked texts; the walk and the lemmas ahead of it are mine.
-/
import Derived.Test.YtagfgbkclopoeaaRows
import Derived.Test.YtagfgbkclopoeaaJ01
import Derived.Test.YtagfgbkclopoeaaJ20
import Derived.Test.YtagfgbkclopoeaaJ22
import Derived.Test.YtagfgbkclopoeaaJ19
import Derived.WalkKit
import Derived.ProofKit
import Derived.OpenShut
import Derived.ShutString
import Derived.ChangeOld
import Derived.Below
import Derived.SizedLaws
namespace Go.Proofs.Ytagfgbkclopoeaa.fnExactTabPut
open Go.ChangeShapes Go.WideShapes Go.ChangeAt Go.RowKit
open Go.ChangeMaps (open_string shut_string)
set_option linter.unusedVariables false

theorem own : ownKnob Try.prog.godebug = none := by kernel_rfl
theorem laidOut : laidOutB Try.prog = true := by kernel_rfl

open IntS Pol Tab
theorem same_nei (b : Int) : (b != b) = false := by simp
theorem small_r (ts : List At) (a : At) : (putP ts a).length + totT (putP ts a) ≤ ts.length + totT ts + 1 + szA a := by
  unfold putP putT
  split
  · split
    · rw [List.length_append, totT_app]
      simp [totT]
      omega
    · omega
  · simp [totT]
theorem offT_full (ts : List At) : offT ts ts.length = 2 * (ts.length : Int) + (totT ts : Int) := by unfold offT; rw [List.take_length]
set_option maxRecDepth 8000 in
theorem atom_holds {w : World} {c : Array Value} (h : Shape.Holds Try.prog w 9 29 c.toList) : ∃ (a : At) (qx : Option Addr) (cx bx : Nat) (qy : Option Addr) (cy b : Nat), c = #[.int .i64 a.kd, .int .i64 a.k, .slice qx a.x.length cx, .slice qy a.y.length cy] ∧ PRow w bx (.slice qx a.x.length cx) a.x ∧ PRow w b (.slice qy a.y.length cy) a.y := by
  have e4 : Try.prog.cellsOf 29 = 4 := by kernel_rfl
  have e1 : Try.prog.cellsOf 3 = 1 := by kernel_rfl
  have es : Try.prog.cellsOf 27 = 1 := by kernel_rfl
  obtain ⟨hl, hf⟩ := Shape.holds_struct (n := 8) Try.underlying29 h
  rw [e4] at hl
  obtain ⟨c0, c1, c2, c3, hc⟩ := four hl
  rw [hc] at hf
  obtain ⟨v0, q0, _⟩ := Shape.holds_int (n := 7) Try.underlying3 (hf _ (List.mem_of_getElem? (i := 0) rfl))
  obtain ⟨v1, q1, _⟩ := Shape.holds_int (n := 7) Try.underlying3 (hf _ (List.mem_of_getElem? (i := 1) rfl))
  obtain ⟨v2, p2, b2, q2, r2⟩ := poly_hold (n := 3) (hf _ (List.mem_of_getElem? (i := 2) rfl))
  obtain ⟨v3, p3, b3, q3, r3⟩ := poly_hold (n := 3) (hf _ (List.mem_of_getElem? (i := 3) rfl))
  simp [e1, es] at q0 q1 q2 q3
  subst q0 q1 q2 q3
  obtain ⟨qx, cx, _, rfl, w1⟩ := r2
  obtain ⟨qy, cy, _, rfl, w2⟩ := r3
  exact ⟨⟨v0, v1, p2, p3⟩, qx, cx, b2, qy, cy, b3, Array.ext' hc, ⟨qx, cx, _, rfl, w1⟩, ⟨qy, cy, _, rfl, w2⟩⟩

set_option maxRecDepth 8000 in
set_option maxHeartbeats 32000000 in
theorem walk (a0 : Array Value) (a1 : Array Value) (w : World) (w0 : Shape.Holds Try.prog w 9 24 a0.toList) (w1 : Shape.Holds Try.prog w 9 29 a1.toList)  :
    Calls Try.prog 3 #[.agg a0, .agg a1] w fun e w' => e = .returned (.bool true) ∧ Below w.heap.size w w' := by
  obtain ⟨v, ts, B, rfl, hP⟩ := Tab.of_holds w0
  obtain ⟨a, qx, cx, bx, qy, cy, b, rfl, hx, hy⟩ := atom_holds w1
  have RM := hide hP
  have RX := hide hx
  have RY := hide hy
  obtain ⟨qa, ca, _, rfl, _⟩ := hP
  clear w0 w1 hx hy
  obtain ⟨R, eR⟩ : ∃ R, putP ts a = R := ⟨_, rfl⟩
  have ER := hide eR
  obtain ⟨T, eT⟩ : ∃ T, putK ts a = T := ⟨_, rfl⟩
  have EB := hide eT
  have SR0 : Hid (R.length + totT R ≤ ts.length + totT ts + 1 + szA a) := by rw [← eR]; exact small_r ts a
  clear eR eT
  obtain ⟨tt, et⟩ : ∃ tt, 1 + offT R R.length = tt := ⟨_, rfl⟩
  have tp : 0 ≤ tt := by rw [← et, offT_full]; omega
  have ET := hide et
  clear et
  obtain ⟨tx, ex⟩ : ∃ tx, 1 + offT ts ts.length = tx := ⟨_, rfl⟩
  have tq : 0 ≤ tx := by rw [← ex, offT_full]; omega
  have EX := hide ex
  clear ex
  obtain ⟨ty, ey⟩ : ∃ ty, tx + offs a.x a.x.length + offs a.y a.y.length = ty := ⟨_, rfl⟩
  have tr : 0 ≤ ty := by rw [← ey, offs_full, offs_full]; omega
  have EY := hide ey
  clear ey
  have pt : ¬ tt < 0 := by omega
  have py : ¬ ty < 0 := by omega
  have pn : (tt != tt) = false := by simp
  have nb := same_nei T
  have TA := hide ((Rec.new w [.slice qa ts.length ca] 24).alloc (.cells #[.int .i64 a.kd, .int .i64 a.k, .slice qx a.x.length cx, .slice qy a.y.length cy] 29))
  have TB := Rec.new (w.alloc (.cells #[.slice qa ts.length ca] 24)) [.int .i64 a.kd, .int .i64 a.k, .slice qx a.x.length cx, .slice qy a.y.length cy] 29
  rw [show (w.alloc (.cells #[.slice qa ts.length ca] 24)).heap.size = w.heap.size + 1 by simp] at TB
  replace TB := hide TB
  have BW := hide (((Below.refl w.heap.size w).alloc (Nat.le_refl _) (.cells #[.slice qa ts.length ca] 24)).alloc (by simp) (.cells #[.int .i64 a.kd, .int .i64 a.k, .slice qx a.x.length cx, .slice qy a.y.length cy] 29))
  go_enter Try.func3, Try.ntmps3
  go_wp2_with fail
  generalize ((w.alloc (.cells #[.slice qa ts.length ca] 24)).alloc (.cells #[.int .i64 a.kd, .int .i64 a.k, .slice qx a.x.length cx, .slice qy a.y.length cy] 29)) = v0 at TA TB BW ⊢
  have ta0 := TA.out.cell 0 _ rfl
  go_wp2_with fail
  refine (szTabTab ts B _ 1048576 _ (RM.out.below BW.out) (by omega) (by omega)).mono ?_
  rintro e u0 ⟨n, rfl, n0, hs, hb⟩
  clear ta0
  replace TA := hide (TA.out.below hb)
  replace TB := hide (TB.out.below hb)
  replace BW := hide (BW.out.trans (hb.mono BW.out.size))
  clear hb
  by_cases hn : n < 0
  · clear TA TB
    go_wp2
    go_ret
    exact ⟨rfl, BW.out⟩
  have HS : Hid (SmallT ts) := show SmallT ts by have := hs (by omega); unfold SmallT; omega
  have SP : Hid (ts.length + totT ts ≤ 1048576) := show _ ≤ _ by have := hs (by omega); omega
  have n9 : n ≤ 1048576 := by have := hs (by omega); omega
  clear hs
  have tb0 := TB.out.cell 0 _ rfl
  have tb1 := TB.out.cell 1 _ rfl
  have tb2 := TB.out.cell 2 _ rfl
  have tb3 := TB.out.cell 3 _ rfl
  go_wp2_with fail
  refine (szTabAtom a qx cx qy cy bx b n _ (RX.out.below BW.out) (RY.out.below BW.out) (by omega) (by omega)).mono ?_
  rintro e u1 ⟨n', rfl, n0', hs, hb⟩
  clear tb0 tb1 tb2 tb3
  replace TA := hide (TA.out.below hb)
  replace TB := hide (TB.out.below hb)
  replace BW := hide (BW.out.trans (hb.mono BW.out.size))
  clear hb
  by_cases hn' : n' < 0
  · clear TA TB
    go_wp2
    go_ret
    exact ⟨rfl, BW.out⟩
  have SQ : Hid (szA a ≤ 1048576) := show _ ≤ _ by have := hs (by omega); omega
  have SR : Hid (R.length + totT R ≤ 1000000000) := show _ ≤ _ by have := SR0.out; have := SP.out; have := SQ.out; omega
  clear hs
  have lw : Hid (w.heap.size + 1 < u1.heap.size) := TB.out.lt
  go_wp2_with fail
  refine PhaseIn.cut (fun ac W => ∃ (Z : Nat) (pa : Option Addr) (pc lo hi g1 g3 g4 : Nat), ac = { tmps := #[.agg #[.slice qa ts.length ca], .agg #[.int .i64 a.kd, .int .i64 a.k, .slice qx a.x.length cx, .slice qy a.y.length cy], .pointer (some ⟨w.heap.size, 0, none⟩), .pointer (some ⟨w.heap.size + 1, 0, none⟩), .bool false, .int .i64 n', .pointer (some ⟨Z, 0, none⟩), .int .i64 T, undef, undef, undef, undef, undef, undef, undef, undef, undef, .agg #[.slice qa ts.length ca], .int .i64 1048576, .int .i64 n, .int .i64 n, .bool (decide (n < 0)), .agg #[.int .i64 a.kd, .int .i64 a.k, .slice qx a.x.length cx, .slice qy a.y.length cy], .int .i64 n, .int .i64 n', .int .i64 n', .bool (decide (n' < 0)), .tuple #[.agg #[.slice pa R.length pc], .int .i64 T], .agg #[.slice qa ts.length ca], .agg #[.slice (some ⟨g1, 0, none⟩) ts.length ts.length], .agg #[.int .i64 a.kd, .int .i64 a.k, .slice qx a.x.length cx, .slice qy a.y.length cy], .agg #[.int .i64 a.kd, .int .i64 a.k, .slice (some ⟨g3, 0, none⟩) a.x.length a.x.length, .slice (some ⟨g4, 0, none⟩) a.y.length a.y.length], .tuple #[.agg #[.slice pa R.length pc], .int .i64 T], .agg #[.slice pa R.length pc], .int .i64 T, undef, undef, undef, undef, undef, undef, undef, undef, undef, undef, undef, undef, undef, undef, undef, undef, undef, undef, undef, undef, undef, undef, undef, undef, undef, undef, undef, undef, undef, undef, undef, undef, undef, undef, undef, undef, undef, undef, undef, undef, undef, undef, undef, undef, undef, undef, undef, undef, undef, undef, undef, undef, undef, undef, undef, undef, undef, undef, undef, undef, undef, undef, undef, undef, undef, undef, undef, undef, undef, undef, undef, undef, undef, undef, undef, undef, undef, undef, undef, undef, undef, undef, undef, undef], defers := [] } ∧ Hid (Rec w.heap.size [.slice qa ts.length ca] W) ∧ Hid (Rec (w.heap.size + 1) [.int .i64 a.kd, .int .i64 a.k, .slice qx a.x.length cx, .slice qy a.y.length cy] W) ∧ Hid (Rec Z [.slice pa R.length pc] W) ∧ Hid (WTab W lo hi (.slice pa R.length pc) R) ∧ Hid (Below w.heap.size w W) ∧ Hid (w.heap.size + 1 < Z ∧ Z < W.heap.size ∧ w.heap.size + 1 < lo ∧ hi ≤ W.heap.size ∧ (Z < lo ∨ hi ≤ Z))) ?_ ?_
  · -- the specification's
    refine PhaseIn.region (S := fun w' => Rec w.heap.size [.slice qa ts.length ca] w' ∧ Rec (w.heap.size + 1) [.int .i64 a.kd, .int .i64 a.k, .slice qx a.x.length cx, .slice qy a.y.length cy] w') 11 (by kernel_rfl) ?_
    have hb : Below u1.heap.size u1 u1.drew := (Below.refl _ _).drew
    have hzd1 := hb.size
    replace TA := hide (TA.out.below hb)
    replace TB := hide (TB.out.below hb)
    replace BW := hide (BW.out.trans (hb.mono BW.out.size))
    clear hb
    generalize u1.drew = d1 at BW hzd1 TA TB ⊢
    have hHeld := And.intro TA.out TB.out
    refine PhaseIn.takeD (i := 0) (v := ?_) [0, 1, 3, 4, 5, 6, 7, 9, 10] 28 rfl (by rfl) (by kernel_rfl) (by kernel_rfl) (by kernel_rfl) (by kernel_rfl) (by kernel_rfl) (fun _ _ _ h => h) (Or.inl ⟨by kernel_rfl, ?_⟩) hHeld ?_
    rotate_left
    · intro w' hSw
      (try dsimp only at hSw)
      have z0 := hSw.1.cell 0 _ rfl
      go_simp
      first | done | with_reducible rfl
    try simp only [Act.put, List.setIfInBounds_toArray, List.set]
    refine PhaseIn.takeD (i := 2) (v := ?_) [2, 3, 4, 5, 6, 7, 9, 10] 30 rfl (by rfl) (by kernel_rfl) (by kernel_rfl) (by kernel_rfl) (by kernel_rfl) (by kernel_rfl) (fun _ _ _ h => h) (Or.inl ⟨by kernel_rfl, ?_⟩) hHeld ?_
    rotate_left
    · intro w' hSw
      (try dsimp only at hSw)
      have z0 := hSw.2.cell 0 _ rfl; have z1 := hSw.2.cell 1 _ rfl; have z2 := hSw.2.cell 2 _ rfl; have z3 := hSw.2.cell 3 _ rfl
      go_simp
      first | done | with_reducible rfl
    try simp only [Act.put, List.setIfInBounds_toArray, List.set]
    refine PhaseIn.two (i := 1) (j := 8) (by kernel_rfl) rfl rfl (by kernel_rfl) (by kernel_rfl) (fun K hK => ?_) (fun K hK => ?_)
    · -- 1
      unfold Oper.wpIn
      refine ⟨fun _ _ => trivial, ?_⟩
      go_simp
      refine ⟨rfl, (callsIn_wide.2 (toTabTab ts B _ _ (RM.out.below BW.out) HS.out)).mono ?_⟩
      rintro e x1 ⟨g1, rfl, M1, hb⟩
      obtain ⟨B1, R1⟩ := M1.read
      replace R1 := hide R1
      clear M1
      refine hK _ _ (fun _ => And.intro (hHeld.1.below hb) (hHeld.2.below hb)) ?_
      replace hHeld := And.intro (hHeld.1.below hb) (hHeld.2.below hb)
      have hzx1 := hb.size
      replace TA := hide (TA.out.below hb)
      replace TB := hide (TB.out.below hb)
      replace BW := hide (BW.out.trans (hb.mono BW.out.size))
      clear hb
      clear hK K
      try simp only [Act.put, List.setIfInBounds_toArray, List.set]
      refine PhaseIn.two (i := 3) (j := 8) (by kernel_rfl) rfl rfl (by kernel_rfl) (by kernel_rfl) (fun K hK => ?_) (fun K hK => ?_)
      · -- 3
        unfold Oper.wpIn
        refine ⟨fun _ _ => trivial, ?_⟩
        go_simp
        refine ⟨rfl, (callsIn_wide.2 (toTabAtom a qx cx qy cy bx b _ (RX.out.below BW.out) (RY.out.below BW.out) SQ.out)).mono ?_⟩
        rintro e x2 ⟨g3, g4, mid3, rfl, M3, M4, -, -, hb⟩
        obtain ⟨B3, R3⟩ := M3.read
        obtain ⟨B4, R4⟩ := M4.read
        replace R3 := hide R3
        replace R4 := hide R4
        clear M3 M4
        refine hK _ _ (fun _ => And.intro (hHeld.1.below hb) (hHeld.2.below hb)) ?_
        replace hHeld := And.intro (hHeld.1.below hb) (hHeld.2.below hb)
        have hzx2 := hb.size
        replace TA := hide (TA.out.below hb)
        replace TB := hide (TB.out.below hb)
        replace R1 := hide (R1.out.below hb)
        replace BW := hide (BW.out.trans (hb.mono BW.out.size))
        clear hb
        clear hK K
        try simp only [Act.put, List.setIfInBounds_toArray, List.set]
        refine PhaseIn.two (i := 4) (j := 8) (by kernel_rfl) rfl rfl (by kernel_rfl) (by kernel_rfl) (fun K hK => ?_) (fun K hK => ?_)
        · -- 4
          unfold Oper.wpIn
          refine ⟨fun _ _ => trivial, ?_⟩
          go_simp
          refine ⟨rfl, (callsIn_wide.2 (specPut ts a B1 _ _ _ _ _ B3 B4 _ R1.out R3.out R4.out)).mono ?_⟩
          rintro e x3 ⟨pa, pc, _, _, _, _, rfl, OW, hb⟩
          have MW0 := OW.whole
          rw [ER.out] at MW0 ⊢
          rw [EB.out]
          have MW := hide MW0
          clear MW0 R1 R3 R4 OW
          refine hK _ _ (fun _ => And.intro (hHeld.1.below hb) (hHeld.2.below hb)) ?_
          replace hHeld := And.intro (hHeld.1.below hb) (hHeld.2.below hb)
          have hzx3 := hb.size
          replace TA := hide (TA.out.below hb)
          replace TB := hide (TB.out.below hb)
          replace BW := hide (BW.out.trans (hb.mono BW.out.size))
          clear hb
          clear hK K
          try simp only [Act.put, List.setIfInBounds_toArray, List.set]
          refine PhaseIn.takeD (i := 5) (v := ?_) [5, 6, 7, 9, 10] 27 rfl (by rfl) (by kernel_rfl) (by kernel_rfl) (by kernel_rfl) (by kernel_rfl) (by kernel_rfl) (fun _ _ _ h => h) (Or.inl ⟨by kernel_rfl, ?_⟩) hHeld ?_
          rotate_left
          · intro w' hSw
            (try dsimp only at hSw)
            skip
            go_simp
            first | done | with_reducible rfl
          try simp only [Act.put, List.setIfInBounds_toArray, List.set]
          refine PhaseIn.takeD (i := 6) (v := ?_) [6, 9, 10] 33 rfl (by rfl) (by kernel_rfl) (by kernel_rfl) (by kernel_rfl) (by kernel_rfl) (by kernel_rfl) (fun _ _ _ h => h) (Or.inl ⟨by kernel_rfl, ?_⟩) hHeld ?_
          rotate_left
          · intro w' hSw
            (try dsimp only at hSw)
            skip
            go_simp
            first | done | with_reducible rfl
          try simp only [Act.put, List.setIfInBounds_toArray, List.set]
          refine PhaseIn.takeD (i := 7) (v := ?_) [7, 10] 34 rfl (by rfl) (by kernel_rfl) (by kernel_rfl) (by kernel_rfl) (by kernel_rfl) (by kernel_rfl) (fun _ _ _ h => h) (Or.inl ⟨by kernel_rfl, ?_⟩) hHeld ?_
          rotate_left
          · intro w' hSw
            (try dsimp only at hSw)
            skip
            go_simp
            first | done | with_reducible rfl
          try simp only [Act.put, List.setIfInBounds_toArray, List.set]
          refine PhaseIn.one (i := 8) (by kernel_rfl) rfl (by kernel_rfl) (fun K hK => ?_)
          unfold Oper.wpIn
          refine ⟨fun _ _ => trivial, ?_⟩
          go_simp
          have hb := (Below.refl _ x3).alloc (Nat.le_refl _) (.cells #[.slice none 0 0] 34)
          refine hK _ _ (fun _ => And.intro (hHeld.1.below hb) (hHeld.2.below hb)) ?_
          have Y0 := hide (Rec.new x3 [.slice none 0 0] 34)
          have hzx4 : x3.heap.size < (x3.alloc (.cells #[.slice none 0 0] 34)).heap.size := by simp
          replace hHeld := And.intro (hHeld.1.below hb) (hHeld.2.below hb)
          replace TA := hide (TA.out.below hb)
          replace TB := hide (TB.out.below hb)
          replace MW := hide (MW.out.below hb)
          replace BW := hide (BW.out.trans (hb.mono BW.out.size))
          clear hb
          generalize (x3.alloc (.cells #[.slice none 0 0] 34)) = x4 at hHeld BW Y0 hzx4 TA TB MW ⊢
          clear hK K
          try simp only [Act.put, List.setIfInBounds_toArray, List.set]
          have zl : w.heap.size + 1 < x3.heap.size := by have := lw.out; omega
          have y0 := Y0.out.cell 0 _ rfl
          have ys := Y0.out.soft 0
          refine PhaseIn.one (i := 9) (by kernel_rfl) rfl (by kernel_rfl) (fun K hK => ?_)
          unfold Oper.wpIn
          refine ⟨fun _ _ => trivial, ?_⟩
          go_simp
          have tn : Turn x3.heap.size x4 (x4.setCell ⟨x3.heap.size, 0, none⟩ (.slice pa R.length pc)) := (Turn.refl _ x4).setCell (p := ⟨x3.heap.size, 0, none⟩) rfl _
          have Y := hide (Y0.out.set 0 (.slice pa R.length pc) (by simp) rfl)
          replace TA := hide (TA.out.turn tn (by omega))
          replace TB := hide (TB.out.turn tn (by omega))
          replace MW := hide (MW.out.keep (Keep.of_turn tn) (fun b' h1 h2 (h3 : b' = _) => by omega))
          replace BW := hide (BW.out.trans (tn.below (by omega) BW.out.size))
          have hHeld9 : (Rec w.heap.size [.slice qa ts.length ca] (x4.setCell ⟨x3.heap.size, 0, none⟩ (.slice pa R.length pc)) ∧ Rec (w.heap.size + 1) [.int .i64 a.kd, .int .i64 a.k, .slice qx a.x.length cx, .slice qy a.y.length cy] (x4.setCell ⟨x3.heap.size, 0, none⟩ (.slice pa R.length pc))) := ⟨TA.out, TB.out⟩
          refine hK _ _ (fun _ => hHeld9) ?_
          clear hK K y0 ys hHeld Y0
          have hzz : x4.heap.size ≤ (x4.setCell ⟨x3.heap.size, 0, none⟩ (.slice pa R.length pc)).heap.size := tn.size
          clear tn
          generalize (x4.setCell ⟨x3.heap.size, 0, none⟩ (.slice pa R.length pc)) = y9 at hHeld9 BW Y hzz TA TB MW ⊢
          try simp only [Act.put, List.setIfInBounds_toArray, List.set]
          refine PhaseIn.takeD (i := 10) (v := ?_) [10] 7 rfl (by rfl) (by kernel_rfl) (by kernel_rfl) (by kernel_rfl) (by kernel_rfl) (by kernel_rfl) (fun _ _ _ h => h) (Or.inl ⟨by kernel_rfl, ?_⟩) hHeld9 ?_
          rotate_left
          · intro w' hSw
            (try dsimp only at hSw)
            skip
            go_simp
            first | done | with_reducible rfl
          try simp only [Act.put, List.setIfInBounds_toArray, List.set]
          refine PhaseIn.done (by kernel_rfl) ?_ _
          clear hHeld9
          exact ⟨x3.heap.size, pa, pc, x2.heap.size, x3.heap.size, g1, g3, g4, rfl, TA, TB, Y, MW, BW, ⟨by have := lw.out; omega, Y.out.lt, by have := lw.out; omega, by omega, by omega⟩⟩
        · -- the box
          unfold Oper.wpIn
          refine ⟨fun _ _ => trivial, ?_⟩
          go_simp
          have hb := (Below.refl _ x2).alloc (Nat.le_refl _) (.cells #[.slice none 0 0] 34)
          refine hK _ _ (fun _ => And.intro (hHeld.1.below hb) (hHeld.2.below hb)) ?_
          have Y0 := hide (Rec.new x2 [.slice none 0 0] 34)
          have hzx5 : x2.heap.size < (x2.alloc (.cells #[.slice none 0 0] 34)).heap.size := by simp
          replace hHeld := And.intro (hHeld.1.below hb) (hHeld.2.below hb)
          replace TA := hide (TA.out.below hb)
          replace TB := hide (TB.out.below hb)
          replace R1 := hide (R1.out.below hb)
          replace R3 := hide (R3.out.below hb)
          replace R4 := hide (R4.out.below hb)
          replace BW := hide (BW.out.trans (hb.mono BW.out.size))
          clear hb
          generalize (x2.alloc (.cells #[.slice none 0 0] 34)) = x5 at hHeld BW Y0 hzx5 TA TB R1 R3 R4 ⊢
          clear hK K
          try simp only [Act.put, List.setIfInBounds_toArray, List.set]
          refine PhaseIn.one (i := 4) (by kernel_rfl) rfl (by kernel_rfl) (fun K hK => ?_)
          unfold Oper.wpIn
          refine ⟨fun _ _ => trivial, ?_⟩
          go_simp
          refine ⟨rfl, (callsIn_wide.2 (specPut ts a B1 _ _ _ _ _ B3 B4 _ R1.out R3.out R4.out)).mono ?_⟩
          rintro e x6 ⟨pa, pc, _, _, _, _, rfl, OW, hb⟩
          have MW0 := OW.whole
          rw [ER.out] at MW0 ⊢
          rw [EB.out]
          have MW := hide MW0
          clear MW0 R1 R3 R4 OW
          refine hK _ _ (fun _ => And.intro (hHeld.1.below hb) (hHeld.2.below hb)) ?_
          replace hHeld := And.intro (hHeld.1.below hb) (hHeld.2.below hb)
          have hzx6 := hb.size
          replace TA := hide (TA.out.below hb)
          replace TB := hide (TB.out.below hb)
          replace Y0 := hide (Y0.out.below hb)
          replace BW := hide (BW.out.trans (hb.mono BW.out.size))
          clear hb
          clear hK K
          try simp only [Act.put, List.setIfInBounds_toArray, List.set]
          refine PhaseIn.takeD (i := 5) (v := ?_) [5, 6, 7, 9, 10] 27 rfl (by rfl) (by kernel_rfl) (by kernel_rfl) (by kernel_rfl) (by kernel_rfl) (by kernel_rfl) (fun _ _ _ h => h) (Or.inl ⟨by kernel_rfl, ?_⟩) hHeld ?_
          rotate_left
          · intro w' hSw
            (try dsimp only at hSw)
            skip
            go_simp
            first | done | with_reducible rfl
          try simp only [Act.put, List.setIfInBounds_toArray, List.set]
          refine PhaseIn.takeD (i := 6) (v := ?_) [6, 9, 10] 33 rfl (by rfl) (by kernel_rfl) (by kernel_rfl) (by kernel_rfl) (by kernel_rfl) (by kernel_rfl) (fun _ _ _ h => h) (Or.inl ⟨by kernel_rfl, ?_⟩) hHeld ?_
          rotate_left
          · intro w' hSw
            (try dsimp only at hSw)
            skip
            go_simp
            first | done | with_reducible rfl
          try simp only [Act.put, List.setIfInBounds_toArray, List.set]
          refine PhaseIn.takeD (i := 7) (v := ?_) [7, 10] 34 rfl (by rfl) (by kernel_rfl) (by kernel_rfl) (by kernel_rfl) (by kernel_rfl) (by kernel_rfl) (fun _ _ _ h => h) (Or.inl ⟨by kernel_rfl, ?_⟩) hHeld ?_
          rotate_left
          · intro w' hSw
            (try dsimp only at hSw)
            skip
            go_simp
            first | done | with_reducible rfl
          try simp only [Act.put, List.setIfInBounds_toArray, List.set]
          have zl : w.heap.size + 1 < x2.heap.size := by have := lw.out; omega
          have y0 := Y0.out.cell 0 _ rfl
          have ys := Y0.out.soft 0
          refine PhaseIn.one (i := 9) (by kernel_rfl) rfl (by kernel_rfl) (fun K hK => ?_)
          unfold Oper.wpIn
          refine ⟨fun _ _ => trivial, ?_⟩
          go_simp
          have tn : Turn x2.heap.size x6 (x6.setCell ⟨x2.heap.size, 0, none⟩ (.slice pa R.length pc)) := (Turn.refl _ x6).setCell (p := ⟨x2.heap.size, 0, none⟩) rfl _
          have Y := hide (Y0.out.set 0 (.slice pa R.length pc) (by simp) rfl)
          replace TA := hide (TA.out.turn tn (by omega))
          replace TB := hide (TB.out.turn tn (by omega))
          replace MW := hide (MW.out.keep (Keep.of_turn tn) (fun b' h1 h2 (h3 : b' = _) => by omega))
          replace BW := hide (BW.out.trans (tn.below (by omega) BW.out.size))
          have hHeld9 : (Rec w.heap.size [.slice qa ts.length ca] (x6.setCell ⟨x2.heap.size, 0, none⟩ (.slice pa R.length pc)) ∧ Rec (w.heap.size + 1) [.int .i64 a.kd, .int .i64 a.k, .slice qx a.x.length cx, .slice qy a.y.length cy] (x6.setCell ⟨x2.heap.size, 0, none⟩ (.slice pa R.length pc))) := ⟨TA.out, TB.out⟩
          refine hK _ _ (fun _ => hHeld9) ?_
          clear hK K y0 ys hHeld Y0
          have hzz : x6.heap.size ≤ (x6.setCell ⟨x2.heap.size, 0, none⟩ (.slice pa R.length pc)).heap.size := tn.size
          clear tn
          generalize (x6.setCell ⟨x2.heap.size, 0, none⟩ (.slice pa R.length pc)) = y9 at hHeld9 BW Y hzz TA TB MW ⊢
          try simp only [Act.put, List.setIfInBounds_toArray, List.set]
          refine PhaseIn.takeD (i := 10) (v := ?_) [10] 7 rfl (by rfl) (by kernel_rfl) (by kernel_rfl) (by kernel_rfl) (by kernel_rfl) (by kernel_rfl) (fun _ _ _ h => h) (Or.inl ⟨by kernel_rfl, ?_⟩) hHeld9 ?_
          rotate_left
          · intro w' hSw
            (try dsimp only at hSw)
            skip
            go_simp
            first | done | with_reducible rfl
          try simp only [Act.put, List.setIfInBounds_toArray, List.set]
          refine PhaseIn.done (by kernel_rfl) ?_ _
          clear hHeld9
          exact ⟨x2.heap.size, pa, pc, x5.heap.size, x6.heap.size, g1, g3, g4, rfl, TA, TB, Y, MW, BW, ⟨by have := lw.out; omega, Y.out.lt, by have := lw.out; omega, by omega, by omega⟩⟩
      · -- the box
        unfold Oper.wpIn
        refine ⟨fun _ _ => trivial, ?_⟩
        go_simp
        have hb := (Below.refl _ x1).alloc (Nat.le_refl _) (.cells #[.slice none 0 0] 34)
        refine hK _ _ (fun _ => And.intro (hHeld.1.below hb) (hHeld.2.below hb)) ?_
        have Y0 := hide (Rec.new x1 [.slice none 0 0] 34)
        have hzx7 : x1.heap.size < (x1.alloc (.cells #[.slice none 0 0] 34)).heap.size := by simp
        replace hHeld := And.intro (hHeld.1.below hb) (hHeld.2.below hb)
        replace TA := hide (TA.out.below hb)
        replace TB := hide (TB.out.below hb)
        replace R1 := hide (R1.out.below hb)
        replace BW := hide (BW.out.trans (hb.mono BW.out.size))
        clear hb
        generalize (x1.alloc (.cells #[.slice none 0 0] 34)) = x7 at hHeld BW Y0 hzx7 TA TB R1 ⊢
        clear hK K
        try simp only [Act.put, List.setIfInBounds_toArray, List.set]
        refine PhaseIn.one (i := 3) (by kernel_rfl) rfl (by kernel_rfl) (fun K hK => ?_)
        unfold Oper.wpIn
        refine ⟨fun _ _ => trivial, ?_⟩
        go_simp
        refine ⟨rfl, (callsIn_wide.2 (toTabAtom a qx cx qy cy bx b _ (RX.out.below BW.out) (RY.out.below BW.out) SQ.out)).mono ?_⟩
        rintro e x8 ⟨g3, g4, mid3, rfl, M3, M4, -, -, hb⟩
        obtain ⟨B3, R3⟩ := M3.read
        obtain ⟨B4, R4⟩ := M4.read
        replace R3 := hide R3
        replace R4 := hide R4
        clear M3 M4
        refine hK _ _ (fun _ => And.intro (hHeld.1.below hb) (hHeld.2.below hb)) ?_
        replace hHeld := And.intro (hHeld.1.below hb) (hHeld.2.below hb)
        have hzx8 := hb.size
        replace TA := hide (TA.out.below hb)
        replace TB := hide (TB.out.below hb)
        replace R1 := hide (R1.out.below hb)
        replace Y0 := hide (Y0.out.below hb)
        replace BW := hide (BW.out.trans (hb.mono BW.out.size))
        clear hb
        clear hK K
        try simp only [Act.put, List.setIfInBounds_toArray, List.set]
        refine PhaseIn.one (i := 4) (by kernel_rfl) rfl (by kernel_rfl) (fun K hK => ?_)
        unfold Oper.wpIn
        refine ⟨fun _ _ => trivial, ?_⟩
        go_simp
        refine ⟨rfl, (callsIn_wide.2 (specPut ts a B1 _ _ _ _ _ B3 B4 _ R1.out R3.out R4.out)).mono ?_⟩
        rintro e x9 ⟨pa, pc, _, _, _, _, rfl, OW, hb⟩
        have MW0 := OW.whole
        rw [ER.out] at MW0 ⊢
        rw [EB.out]
        have MW := hide MW0
        clear MW0 R1 R3 R4 OW
        refine hK _ _ (fun _ => And.intro (hHeld.1.below hb) (hHeld.2.below hb)) ?_
        replace hHeld := And.intro (hHeld.1.below hb) (hHeld.2.below hb)
        have hzx9 := hb.size
        replace TA := hide (TA.out.below hb)
        replace TB := hide (TB.out.below hb)
        replace Y0 := hide (Y0.out.below hb)
        replace BW := hide (BW.out.trans (hb.mono BW.out.size))
        clear hb
        clear hK K
        try simp only [Act.put, List.setIfInBounds_toArray, List.set]
        refine PhaseIn.takeD (i := 5) (v := ?_) [5, 6, 7, 9, 10] 27 rfl (by rfl) (by kernel_rfl) (by kernel_rfl) (by kernel_rfl) (by kernel_rfl) (by kernel_rfl) (fun _ _ _ h => h) (Or.inl ⟨by kernel_rfl, ?_⟩) hHeld ?_
        rotate_left
        · intro w' hSw
          (try dsimp only at hSw)
          skip
          go_simp
          first | done | with_reducible rfl
        try simp only [Act.put, List.setIfInBounds_toArray, List.set]
        refine PhaseIn.takeD (i := 6) (v := ?_) [6, 9, 10] 33 rfl (by rfl) (by kernel_rfl) (by kernel_rfl) (by kernel_rfl) (by kernel_rfl) (by kernel_rfl) (fun _ _ _ h => h) (Or.inl ⟨by kernel_rfl, ?_⟩) hHeld ?_
        rotate_left
        · intro w' hSw
          (try dsimp only at hSw)
          skip
          go_simp
          first | done | with_reducible rfl
        try simp only [Act.put, List.setIfInBounds_toArray, List.set]
        refine PhaseIn.takeD (i := 7) (v := ?_) [7, 10] 34 rfl (by rfl) (by kernel_rfl) (by kernel_rfl) (by kernel_rfl) (by kernel_rfl) (by kernel_rfl) (fun _ _ _ h => h) (Or.inl ⟨by kernel_rfl, ?_⟩) hHeld ?_
        rotate_left
        · intro w' hSw
          (try dsimp only at hSw)
          skip
          go_simp
          first | done | with_reducible rfl
        try simp only [Act.put, List.setIfInBounds_toArray, List.set]
        have zl : w.heap.size + 1 < x1.heap.size := by have := lw.out; omega
        have y0 := Y0.out.cell 0 _ rfl
        have ys := Y0.out.soft 0
        refine PhaseIn.one (i := 9) (by kernel_rfl) rfl (by kernel_rfl) (fun K hK => ?_)
        unfold Oper.wpIn
        refine ⟨fun _ _ => trivial, ?_⟩
        go_simp
        have tn : Turn x1.heap.size x9 (x9.setCell ⟨x1.heap.size, 0, none⟩ (.slice pa R.length pc)) := (Turn.refl _ x9).setCell (p := ⟨x1.heap.size, 0, none⟩) rfl _
        have Y := hide (Y0.out.set 0 (.slice pa R.length pc) (by simp) rfl)
        replace TA := hide (TA.out.turn tn (by omega))
        replace TB := hide (TB.out.turn tn (by omega))
        replace MW := hide (MW.out.keep (Keep.of_turn tn) (fun b' h1 h2 (h3 : b' = _) => by omega))
        replace BW := hide (BW.out.trans (tn.below (by omega) BW.out.size))
        have hHeld9 : (Rec w.heap.size [.slice qa ts.length ca] (x9.setCell ⟨x1.heap.size, 0, none⟩ (.slice pa R.length pc)) ∧ Rec (w.heap.size + 1) [.int .i64 a.kd, .int .i64 a.k, .slice qx a.x.length cx, .slice qy a.y.length cy] (x9.setCell ⟨x1.heap.size, 0, none⟩ (.slice pa R.length pc))) := ⟨TA.out, TB.out⟩
        refine hK _ _ (fun _ => hHeld9) ?_
        clear hK K y0 ys hHeld Y0
        have hzz : x9.heap.size ≤ (x9.setCell ⟨x1.heap.size, 0, none⟩ (.slice pa R.length pc)).heap.size := tn.size
        clear tn
        generalize (x9.setCell ⟨x1.heap.size, 0, none⟩ (.slice pa R.length pc)) = y9 at hHeld9 BW Y hzz TA TB MW ⊢
        try simp only [Act.put, List.setIfInBounds_toArray, List.set]
        refine PhaseIn.takeD (i := 10) (v := ?_) [10] 7 rfl (by rfl) (by kernel_rfl) (by kernel_rfl) (by kernel_rfl) (by kernel_rfl) (by kernel_rfl) (fun _ _ _ h => h) (Or.inl ⟨by kernel_rfl, ?_⟩) hHeld9 ?_
        rotate_left
        · intro w' hSw
          (try dsimp only at hSw)
          skip
          go_simp
          first | done | with_reducible rfl
        try simp only [Act.put, List.setIfInBounds_toArray, List.set]
        refine PhaseIn.done (by kernel_rfl) ?_ _
        clear hHeld9
        exact ⟨x1.heap.size, pa, pc, x8.heap.size, x9.heap.size, g1, g3, g4, rfl, TA, TB, Y, MW, BW, ⟨by have := lw.out; omega, Y.out.lt, by have := lw.out; omega, by omega, by omega⟩⟩
    · -- the box
      unfold Oper.wpIn
      refine ⟨fun _ _ => trivial, ?_⟩
      go_simp
      have hb := (Below.refl _ d1).alloc (Nat.le_refl _) (.cells #[.slice none 0 0] 34)
      refine hK _ _ (fun _ => And.intro (hHeld.1.below hb) (hHeld.2.below hb)) ?_
      have Y0 := hide (Rec.new d1 [.slice none 0 0] 34)
      have hzx10 : d1.heap.size < (d1.alloc (.cells #[.slice none 0 0] 34)).heap.size := by simp
      replace hHeld := And.intro (hHeld.1.below hb) (hHeld.2.below hb)
      replace TA := hide (TA.out.below hb)
      replace TB := hide (TB.out.below hb)
      replace BW := hide (BW.out.trans (hb.mono BW.out.size))
      clear hb
      generalize (d1.alloc (.cells #[.slice none 0 0] 34)) = x10 at hHeld BW Y0 hzx10 TA TB ⊢
      clear hK K
      try simp only [Act.put, List.setIfInBounds_toArray, List.set]
      refine PhaseIn.one (i := 1) (by kernel_rfl) rfl (by kernel_rfl) (fun K hK => ?_)
      unfold Oper.wpIn
      refine ⟨fun _ _ => trivial, ?_⟩
      go_simp
      refine ⟨rfl, (callsIn_wide.2 (toTabTab ts B _ _ (RM.out.below BW.out) HS.out)).mono ?_⟩
      rintro e x11 ⟨g1, rfl, M1, hb⟩
      obtain ⟨B1, R1⟩ := M1.read
      replace R1 := hide R1
      clear M1
      refine hK _ _ (fun _ => And.intro (hHeld.1.below hb) (hHeld.2.below hb)) ?_
      replace hHeld := And.intro (hHeld.1.below hb) (hHeld.2.below hb)
      have hzx11 := hb.size
      replace TA := hide (TA.out.below hb)
      replace TB := hide (TB.out.below hb)
      replace Y0 := hide (Y0.out.below hb)
      replace BW := hide (BW.out.trans (hb.mono BW.out.size))
      clear hb
      clear hK K
      try simp only [Act.put, List.setIfInBounds_toArray, List.set]
      refine PhaseIn.one (i := 3) (by kernel_rfl) rfl (by kernel_rfl) (fun K hK => ?_)
      unfold Oper.wpIn
      refine ⟨fun _ _ => trivial, ?_⟩
      go_simp
      refine ⟨rfl, (callsIn_wide.2 (toTabAtom a qx cx qy cy bx b _ (RX.out.below BW.out) (RY.out.below BW.out) SQ.out)).mono ?_⟩
      rintro e x12 ⟨g3, g4, mid3, rfl, M3, M4, -, -, hb⟩
      obtain ⟨B3, R3⟩ := M3.read
      obtain ⟨B4, R4⟩ := M4.read
      replace R3 := hide R3
      replace R4 := hide R4
      clear M3 M4
      refine hK _ _ (fun _ => And.intro (hHeld.1.below hb) (hHeld.2.below hb)) ?_
      replace hHeld := And.intro (hHeld.1.below hb) (hHeld.2.below hb)
      have hzx12 := hb.size
      replace TA := hide (TA.out.below hb)
      replace TB := hide (TB.out.below hb)
      replace Y0 := hide (Y0.out.below hb)
      replace R1 := hide (R1.out.below hb)
      replace BW := hide (BW.out.trans (hb.mono BW.out.size))
      clear hb
      clear hK K
      try simp only [Act.put, List.setIfInBounds_toArray, List.set]
      refine PhaseIn.one (i := 4) (by kernel_rfl) rfl (by kernel_rfl) (fun K hK => ?_)
      unfold Oper.wpIn
      refine ⟨fun _ _ => trivial, ?_⟩
      go_simp
      refine ⟨rfl, (callsIn_wide.2 (specPut ts a B1 _ _ _ _ _ B3 B4 _ R1.out R3.out R4.out)).mono ?_⟩
      rintro e x13 ⟨pa, pc, _, _, _, _, rfl, OW, hb⟩
      have MW0 := OW.whole
      rw [ER.out] at MW0 ⊢
      rw [EB.out]
      have MW := hide MW0
      clear MW0 R1 R3 R4 OW
      refine hK _ _ (fun _ => And.intro (hHeld.1.below hb) (hHeld.2.below hb)) ?_
      replace hHeld := And.intro (hHeld.1.below hb) (hHeld.2.below hb)
      have hzx13 := hb.size
      replace TA := hide (TA.out.below hb)
      replace TB := hide (TB.out.below hb)
      replace Y0 := hide (Y0.out.below hb)
      replace BW := hide (BW.out.trans (hb.mono BW.out.size))
      clear hb
      clear hK K
      try simp only [Act.put, List.setIfInBounds_toArray, List.set]
      refine PhaseIn.takeD (i := 5) (v := ?_) [5, 6, 7, 9, 10] 27 rfl (by rfl) (by kernel_rfl) (by kernel_rfl) (by kernel_rfl) (by kernel_rfl) (by kernel_rfl) (fun _ _ _ h => h) (Or.inl ⟨by kernel_rfl, ?_⟩) hHeld ?_
      rotate_left
      · intro w' hSw
        (try dsimp only at hSw)
        skip
        go_simp
        first | done | with_reducible rfl
      try simp only [Act.put, List.setIfInBounds_toArray, List.set]
      refine PhaseIn.takeD (i := 6) (v := ?_) [6, 9, 10] 33 rfl (by rfl) (by kernel_rfl) (by kernel_rfl) (by kernel_rfl) (by kernel_rfl) (by kernel_rfl) (fun _ _ _ h => h) (Or.inl ⟨by kernel_rfl, ?_⟩) hHeld ?_
      rotate_left
      · intro w' hSw
        (try dsimp only at hSw)
        skip
        go_simp
        first | done | with_reducible rfl
      try simp only [Act.put, List.setIfInBounds_toArray, List.set]
      refine PhaseIn.takeD (i := 7) (v := ?_) [7, 10] 34 rfl (by rfl) (by kernel_rfl) (by kernel_rfl) (by kernel_rfl) (by kernel_rfl) (by kernel_rfl) (fun _ _ _ h => h) (Or.inl ⟨by kernel_rfl, ?_⟩) hHeld ?_
      rotate_left
      · intro w' hSw
        (try dsimp only at hSw)
        skip
        go_simp
        first | done | with_reducible rfl
      try simp only [Act.put, List.setIfInBounds_toArray, List.set]
      have zl : w.heap.size + 1 < d1.heap.size := by have := lw.out; omega
      have y0 := Y0.out.cell 0 _ rfl
      have ys := Y0.out.soft 0
      refine PhaseIn.one (i := 9) (by kernel_rfl) rfl (by kernel_rfl) (fun K hK => ?_)
      unfold Oper.wpIn
      refine ⟨fun _ _ => trivial, ?_⟩
      go_simp
      have tn : Turn d1.heap.size x13 (x13.setCell ⟨d1.heap.size, 0, none⟩ (.slice pa R.length pc)) := (Turn.refl _ x13).setCell (p := ⟨d1.heap.size, 0, none⟩) rfl _
      have Y := hide (Y0.out.set 0 (.slice pa R.length pc) (by simp) rfl)
      replace TA := hide (TA.out.turn tn (by omega))
      replace TB := hide (TB.out.turn tn (by omega))
      replace MW := hide (MW.out.keep (Keep.of_turn tn) (fun b' h1 h2 (h3 : b' = _) => by omega))
      replace BW := hide (BW.out.trans (tn.below (by omega) BW.out.size))
      have hHeld9 : (Rec w.heap.size [.slice qa ts.length ca] (x13.setCell ⟨d1.heap.size, 0, none⟩ (.slice pa R.length pc)) ∧ Rec (w.heap.size + 1) [.int .i64 a.kd, .int .i64 a.k, .slice qx a.x.length cx, .slice qy a.y.length cy] (x13.setCell ⟨d1.heap.size, 0, none⟩ (.slice pa R.length pc))) := ⟨TA.out, TB.out⟩
      refine hK _ _ (fun _ => hHeld9) ?_
      clear hK K y0 ys hHeld Y0
      have hzz : x13.heap.size ≤ (x13.setCell ⟨d1.heap.size, 0, none⟩ (.slice pa R.length pc)).heap.size := tn.size
      clear tn
      generalize (x13.setCell ⟨d1.heap.size, 0, none⟩ (.slice pa R.length pc)) = y9 at hHeld9 BW Y hzz TA TB MW ⊢
      try simp only [Act.put, List.setIfInBounds_toArray, List.set]
      refine PhaseIn.takeD (i := 10) (v := ?_) [10] 7 rfl (by rfl) (by kernel_rfl) (by kernel_rfl) (by kernel_rfl) (by kernel_rfl) (by kernel_rfl) (fun _ _ _ h => h) (Or.inl ⟨by kernel_rfl, ?_⟩) hHeld9 ?_
      rotate_left
      · intro w' hSw
        (try dsimp only at hSw)
        skip
        go_simp
        first | done | with_reducible rfl
      try simp only [Act.put, List.setIfInBounds_toArray, List.set]
      refine PhaseIn.done (by kernel_rfl) ?_ _
      clear hHeld9
      exact ⟨d1.heap.size, pa, pc, x12.heap.size, x13.heap.size, g1, g3, g4, rfl, TA, TB, Y, MW, BW, ⟨by have := lw.out; omega, Y.out.lt, by have := lw.out; omega, by omega, by omega⟩⟩
  clear TA TB BW
  rintro ac W ⟨Z, pa, pc, lo, hi, g1, g3, g4, rfl, TA, TB, Y, MW, BW, ZZ⟩
  have ta0 := TA.out.cell 0 _ rfl
  go_wp2_with fail
  refine (toTabTab ts B _ _ (RM.out.below BW.out) HS.out).mono ?_
  rintro e u3 ⟨gx, rfl, MX, hb⟩
  replace MX := hide MX
  have L3 : Hid (W.heap.size ≤ u3.heap.size) := hb.size
  clear ta0
  replace TA := hide (TA.out.below hb)
  replace TB := hide (TB.out.below hb)
  replace MW := hide (MW.out.below hb)
  replace Y := hide (Y.out.below hb)
  replace BW := hide (BW.out.trans (hb.mono BW.out.size))
  clear hb
  have bX : Below u3.heap.size u3 (u3.alloc (.cells #[.slice (some ⟨gx, 0, none⟩) ts.length ts.length] 34)) := (Below.refl _ _).alloc (Nat.le_refl _) _
  have X := hide (Rec.new u3 [.slice (some ⟨gx, 0, none⟩) ts.length ts.length] 34)
  have szX : Hid ((u3.alloc (.cells #[.slice (some ⟨gx, 0, none⟩) ts.length ts.length] 34)).heap.size = u3.heap.size + 1) := show _ = _ by simp
  replace BW := hide (BW.out.trans (bX.mono BW.out.size))
  replace TA := hide (TA.out.below bX)
  replace TB := hide (TB.out.below bX)
  replace MW := hide (MW.out.below bX)
  replace Y := hide (Y.out.below bX)
  replace MX := hide (MX.out.below bX)
  clear bX
  have tb0 := TB.out.cell 0 _ rfl
  have tb1 := TB.out.cell 1 _ rfl
  have tb2 := TB.out.cell 2 _ rfl
  have tb3 := TB.out.cell 3 _ rfl
  go_wp2_with fail
  refine (toTabAtom a qx cx qy cy bx b _ (RX.out.below BW.out) (RY.out.below BW.out) SQ.out).mono ?_
  rintro e u4 ⟨gvx, gvy, mid, rfl, MV, MU, m1, m2, hb⟩
  rw [szX.out] at MV m1
  replace MV := hide MV
  replace MU := hide MU
  have L4 : Hid (u3.heap.size + 1 ≤ mid ∧ mid ≤ u4.heap.size) := ⟨m1, m2⟩
  clear tb0 tb1 tb2 tb3 m1 m2
  replace TA := hide (TA.out.below hb)
  replace TB := hide (TB.out.below hb)
  replace MW := hide (MW.out.below hb)
  replace Y := hide (Y.out.below hb)
  replace MX := hide (MX.out.below hb)
  replace X := hide (X.out.below hb)
  replace BW := hide (BW.out.trans (hb.mono BW.out.size))
  clear hb
  have bX : Below u4.heap.size u4 (u4.alloc (.cells #[.int .i64 a.kd, .int .i64 a.k, .slice (some ⟨gvx, 0, none⟩) a.x.length a.x.length, .slice (some ⟨gvy, 0, none⟩) a.y.length a.y.length] 42)) := (Below.refl _ _).alloc (Nat.le_refl _) _
  have V := hide (Rec.new u4 [.int .i64 a.kd, .int .i64 a.k, .slice (some ⟨gvx, 0, none⟩) a.x.length a.x.length, .slice (some ⟨gvy, 0, none⟩) a.y.length a.y.length] 42)
  have szV : Hid ((u4.alloc (.cells #[.int .i64 a.kd, .int .i64 a.k, .slice (some ⟨gvx, 0, none⟩) a.x.length a.x.length, .slice (some ⟨gvy, 0, none⟩) a.y.length a.y.length] 42)).heap.size = u4.heap.size + 1) := show _ = _ by simp
  replace BW := hide (BW.out.trans (bX.mono BW.out.size))
  replace TA := hide (TA.out.below bX)
  replace TB := hide (TB.out.below bX)
  replace MW := hide (MW.out.below bX)
  replace Y := hide (Y.out.below bX)
  replace MX := hide (MX.out.below bX)
  replace X := hide (X.out.below bX)
  replace MV := hide (MV.out.below bX)
  replace MU := hide (MU.out.below bX)
  clear bX
  obtain ⟨BX, RBX⟩ := MX.out.read
  replace RBX := hide RBX
  obtain ⟨BV, RBV⟩ := MV.out.read
  replace RBV := hide RBV
  obtain ⟨BU, RBU⟩ := MU.out.read
  replace RBU := hide RBU
  have x0 := X.out.cell 0 _ rfl
  have v0 := V.out.cell 0 _ rfl
  have v1 := V.out.cell 1 _ rfl
  have v2 := V.out.cell 2 _ rfl
  have v3 := V.out.cell 3 _ rfl
  go_wp2_with fail
  refine (implPut ts a BX _ _ _ _ _ BV BU _ RBX.out RBV.out RBU.out).mono ?_
  rintro e u5 ⟨ga, gc, _, _, _, _, rfl, OG, hb⟩
  have MG := OG.whole
  rw [szV.out] at MG
  rw [ER.out] at MG ⊢
  rw [EB.out]
  replace MG := hide MG
  have L5 : Hid (u4.heap.size + 1 ≤ u5.heap.size) := show _ ≤ _ by have := hb.size; rw [szV.out] at this; exact this
  clear x0 v0 v1 v2 v3 RBX RBV RBU OG
  replace TA := hide (TA.out.below hb)
  replace TB := hide (TB.out.below hb)
  replace MW := hide (MW.out.below hb)
  replace Y := hide (Y.out.below hb)
  replace MX := hide (MX.out.below hb)
  replace X := hide (X.out.below hb)
  replace MV := hide (MV.out.below hb)
  replace MU := hide (MU.out.below hb)
  replace V := hide (V.out.below hb)
  replace BW := hide (BW.out.trans (hb.mono BW.out.size))
  clear hb
  have bX : Below u5.heap.size u5 (u5.alloc (.cells #[.slice ga R.length gc] 34)) := (Below.refl _ _).alloc (Nat.le_refl _) _
  have G := hide (Rec.new u5 [.slice ga R.length gc] 34)
  have szG : Hid ((u5.alloc (.cells #[.slice ga R.length gc] 34)).heap.size = u5.heap.size + 1) := show _ = _ by simp
  replace BW := hide (BW.out.trans (bX.mono BW.out.size))
  replace TA := hide (TA.out.below bX)
  replace TB := hide (TB.out.below bX)
  replace MW := hide (MW.out.below bX)
  replace Y := hide (Y.out.below bX)
  replace MX := hide (MX.out.below bX)
  replace X := hide (X.out.below bX)
  replace MV := hide (MV.out.below bX)
  replace MU := hide (MU.out.below bX)
  replace V := hide (V.out.below bX)
  replace MG := hide (MG.out.below bX)
  clear bX
  obtain ⟨BG, RBG⟩ := MG.out.read
  replace RBG := hide RBG
  obtain ⟨BY, RBY⟩ := MW.out.read
  replace RBY := hide RBY
  have x0 := G.out.cell 0 _ rfl
  have y0 := Y.out.cell 0 _ rfl
  go_wp2_with fail
  refine (eqTabTab R BG BY _ _ _ RBG.out RBY.out).mono ?_
  rintro e u6 ⟨rfl, hb⟩
  clear x0 y0 RBG RBY
  replace TA := hide (TA.out.below hb)
  replace TB := hide (TB.out.below hb)
  replace MW := hide (MW.out.below hb)
  replace Y := hide (Y.out.below hb)
  replace MX := hide (MX.out.below hb)
  replace X := hide (X.out.below hb)
  replace MV := hide (MV.out.below hb)
  replace MU := hide (MU.out.below hb)
  replace V := hide (V.out.below hb)
  replace MG := hide (MG.out.below hb)
  replace G := hide (G.out.below hb)
  replace BW := hide (BW.out.trans (hb.mono BW.out.size))
  clear hb
  go_wp2_with fail
  refine (wpIn_wide (n := 0)).1 ?_
  refine PhaseIn.region (S := fun w' => Rec u3.heap.size [.slice (some ⟨gx, 0, none⟩) ts.length ts.length] w' ∧ Rec w.heap.size [.slice qa ts.length ca] w') 5 (by kernel_rfl) ?_
  have hb : Below u6.heap.size u6 u6.drew := (Below.refl _ _).drew
  replace TA := hide (TA.out.below hb)
  replace TB := hide (TB.out.below hb)
  replace MW := hide (MW.out.below hb)
  replace Y := hide (Y.out.below hb)
  replace MX := hide (MX.out.below hb)
  replace X := hide (X.out.below hb)
  replace MV := hide (MV.out.below hb)
  replace MU := hide (MU.out.below hb)
  replace V := hide (V.out.below hb)
  replace MG := hide (MG.out.below hb)
  replace G := hide (G.out.below hb)
  replace BW := hide (BW.out.trans (hb.mono BW.out.size))
  clear hb
  generalize u6.drew = d6 at BW TA TB MW Y MX X MV MU V MG G ⊢
  have hHeld := And.intro X.out TA.out
  refine PhaseIn.takeD (i := 0) (v := ?_) [0, 3, 4] 54 rfl (by rfl) (by kernel_rfl) (by kernel_rfl) (by kernel_rfl) (by kernel_rfl) (by kernel_rfl) (fun _ _ _ h => h) (Or.inl ⟨by kernel_rfl, ?_⟩) hHeld ?_
  rotate_left
  · intro w' hSw
    (try dsimp only at hSw)
    have z0 := hSw.1.cell 0 _ rfl
    go_simp
    first | done | with_reducible rfl
  try simp only [Act.put, List.setIfInBounds_toArray, List.set]
  refine PhaseIn.takeD (i := 1) (v := ?_) [1, 2, 3, 4] 55 rfl (by rfl) (by kernel_rfl) (by kernel_rfl) (by kernel_rfl) (by kernel_rfl) (by kernel_rfl) (fun _ _ _ h => h) (Or.inl ⟨by kernel_rfl, ?_⟩) hHeld ?_
  rotate_left
  · intro w' hSw
    (try dsimp only at hSw)
    have z0 := hSw.2.cell 0 _ rfl
    go_simp
    first | done | with_reducible rfl
  try simp only [Act.put, List.setIfInBounds_toArray, List.set]
  refine PhaseIn.one (i := 2) (by kernel_rfl) rfl (by kernel_rfl) (fun K hK => ?_)
  unfold Oper.wpIn
  refine ⟨fun _ _ => trivial, ?_⟩
  go_simp
  refine ⟨rfl, (callsIn_wide.2 (toTabTab ts B _ _ (RM.out.below BW.out) HS.out)).mono ?_⟩
  rintro e u7 ⟨g6, rfl, M6, hb⟩
  have hHeld2 := And.intro (hHeld.1.below hb) (hHeld.2.below hb)
  refine hK _ _ (fun _ => hHeld2) ?_
  clear hK K hHeld
  obtain ⟨B6, R6⟩ := M6.read
  replace R6 := hide R6
  clear M6
  replace TA := hide (TA.out.below hb)
  replace TB := hide (TB.out.below hb)
  replace MW := hide (MW.out.below hb)
  replace Y := hide (Y.out.below hb)
  replace MX := hide (MX.out.below hb)
  replace X := hide (X.out.below hb)
  replace MV := hide (MV.out.below hb)
  replace MU := hide (MU.out.below hb)
  replace V := hide (V.out.below hb)
  replace MG := hide (MG.out.below hb)
  replace G := hide (G.out.below hb)
  replace BW := hide (BW.out.trans (hb.mono BW.out.size))
  clear hb
  try simp only [Act.put, List.setIfInBounds_toArray, List.set]
  obtain ⟨BX, RBX⟩ := MX.out.read
  replace RBX := hide RBX
  refine PhaseIn.one (i := 3) (by kernel_rfl) rfl (by kernel_rfl) (fun K hK => ?_)
  unfold Oper.wpIn
  refine ⟨fun _ _ => trivial, ?_⟩
  go_simp
  refine ⟨rfl, (callsIn_wide.2 (eqTabTab ts BX B6 _ _ _ RBX.out R6.out)).mono ?_⟩
  rintro e u8 ⟨rfl, hb⟩
  have hHeld := And.intro (hHeld2.1.below hb) (hHeld2.2.below hb)
  refine hK _ _ (fun _ => hHeld) ?_
  clear hK K hHeld2 R6 RBX
  replace TA := hide (TA.out.below hb)
  replace TB := hide (TB.out.below hb)
  replace MW := hide (MW.out.below hb)
  replace Y := hide (Y.out.below hb)
  replace MX := hide (MX.out.below hb)
  replace X := hide (X.out.below hb)
  replace MV := hide (MV.out.below hb)
  replace MU := hide (MU.out.below hb)
  replace V := hide (V.out.below hb)
  replace MG := hide (MG.out.below hb)
  replace G := hide (G.out.below hb)
  replace BW := hide (BW.out.trans (hb.mono BW.out.size))
  clear hb
  try simp only [Act.put, List.setIfInBounds_toArray, List.set]
  refine PhaseIn.takeD (i := 4) (v := ?_) [4] 58 rfl (by rfl) (by kernel_rfl) (by kernel_rfl) (by kernel_rfl) (by kernel_rfl) (by kernel_rfl) (fun _ _ _ h => h) (Or.inl ⟨by kernel_rfl, ?_⟩) hHeld ?_
  rotate_left
  · intro w' hSw
    (try dsimp only at hSw)
    go_simp
    first | done | with_reducible rfl
  try simp only [Act.put, List.setIfInBounds_toArray, List.set]
  refine PhaseIn.done (by kernel_rfl) ?_ _
  clear hHeld
  go_wp2_with fail
  refine (wpIn_wide (n := 0)).1 ?_
  refine PhaseIn.region (S := fun w' => Rec u4.heap.size [.int .i64 a.kd, .int .i64 a.k, .slice (some ⟨gvx, 0, none⟩) a.x.length a.x.length, .slice (some ⟨gvy, 0, none⟩) a.y.length a.y.length] w' ∧ Rec (w.heap.size + 1) [.int .i64 a.kd, .int .i64 a.k, .slice qx a.x.length cx, .slice qy a.y.length cy] w') 5 (by kernel_rfl) ?_
  have hb : Below u8.heap.size u8 u8.drew := (Below.refl _ _).drew
  replace TA := hide (TA.out.below hb)
  replace TB := hide (TB.out.below hb)
  replace MW := hide (MW.out.below hb)
  replace Y := hide (Y.out.below hb)
  replace MX := hide (MX.out.below hb)
  replace X := hide (X.out.below hb)
  replace MV := hide (MV.out.below hb)
  replace MU := hide (MU.out.below hb)
  replace V := hide (V.out.below hb)
  replace MG := hide (MG.out.below hb)
  replace G := hide (G.out.below hb)
  replace BW := hide (BW.out.trans (hb.mono BW.out.size))
  clear hb
  generalize u8.drew = d8 at BW TA TB MW Y MX X MV MU V MG G ⊢
  have hHeld := And.intro V.out TB.out
  refine PhaseIn.takeD (i := 0) (v := ?_) [0, 3, 4] 59 rfl (by rfl) (by kernel_rfl) (by kernel_rfl) (by kernel_rfl) (by kernel_rfl) (by kernel_rfl) (fun _ _ _ h => h) (Or.inl ⟨by kernel_rfl, ?_⟩) hHeld ?_
  rotate_left
  · intro w' hSw
    (try dsimp only at hSw)
    have z0 := hSw.1.cell 0 _ rfl; have z1 := hSw.1.cell 1 _ rfl; have z2 := hSw.1.cell 2 _ rfl; have z3 := hSw.1.cell 3 _ rfl
    go_simp
    first | done | with_reducible rfl
  try simp only [Act.put, List.setIfInBounds_toArray, List.set]
  refine PhaseIn.takeD (i := 1) (v := ?_) [1, 2, 3, 4] 60 rfl (by rfl) (by kernel_rfl) (by kernel_rfl) (by kernel_rfl) (by kernel_rfl) (by kernel_rfl) (fun _ _ _ h => h) (Or.inl ⟨by kernel_rfl, ?_⟩) hHeld ?_
  rotate_left
  · intro w' hSw
    (try dsimp only at hSw)
    have z0 := hSw.2.cell 0 _ rfl; have z1 := hSw.2.cell 1 _ rfl; have z2 := hSw.2.cell 2 _ rfl; have z3 := hSw.2.cell 3 _ rfl
    go_simp
    first | done | with_reducible rfl
  try simp only [Act.put, List.setIfInBounds_toArray, List.set]
  refine PhaseIn.one (i := 2) (by kernel_rfl) rfl (by kernel_rfl) (fun K hK => ?_)
  unfold Oper.wpIn
  refine ⟨fun _ _ => trivial, ?_⟩
  go_simp
  refine ⟨rfl, (callsIn_wide.2 (toTabAtom a qx cx qy cy bx b _ (RX.out.below BW.out) (RY.out.below BW.out) SQ.out)).mono ?_⟩
  rintro e u9 ⟨g6, g7, mid6, rfl, M6, M7, -, -, hb⟩
  have hHeld2 := And.intro (hHeld.1.below hb) (hHeld.2.below hb)
  refine hK _ _ (fun _ => hHeld2) ?_
  clear hK K hHeld
  obtain ⟨B6, R6⟩ := M6.read
  replace R6 := hide R6
  obtain ⟨B7, R7⟩ := M7.read
  replace R7 := hide R7
  clear M6 M7
  replace TA := hide (TA.out.below hb)
  replace TB := hide (TB.out.below hb)
  replace MW := hide (MW.out.below hb)
  replace Y := hide (Y.out.below hb)
  replace MX := hide (MX.out.below hb)
  replace X := hide (X.out.below hb)
  replace MV := hide (MV.out.below hb)
  replace MU := hide (MU.out.below hb)
  replace V := hide (V.out.below hb)
  replace MG := hide (MG.out.below hb)
  replace G := hide (G.out.below hb)
  replace BW := hide (BW.out.trans (hb.mono BW.out.size))
  clear hb
  try simp only [Act.put, List.setIfInBounds_toArray, List.set]
  obtain ⟨BV, RBV⟩ := MV.out.read
  replace RBV := hide RBV
  obtain ⟨BU, RBU⟩ := MU.out.read
  replace RBU := hide RBU
  refine PhaseIn.one (i := 3) (by kernel_rfl) rfl (by kernel_rfl) (fun K hK => ?_)
  unfold Oper.wpIn
  refine ⟨fun _ _ => trivial, ?_⟩
  go_simp
  refine ⟨rfl, (callsIn_wide.2 (eqTabAtom a _ _ _ _ _ _ _ _ BV B6 BU B7 _ RBV.out RBU.out R6.out R7.out)).mono ?_⟩
  rintro e u10 ⟨rfl, hb⟩
  have hHeld := And.intro (hHeld2.1.below hb) (hHeld2.2.below hb)
  refine hK _ _ (fun _ => hHeld) ?_
  clear hK K hHeld2 R6 R7 RBV RBU
  replace TA := hide (TA.out.below hb)
  replace TB := hide (TB.out.below hb)
  replace MW := hide (MW.out.below hb)
  replace Y := hide (Y.out.below hb)
  replace MX := hide (MX.out.below hb)
  replace X := hide (X.out.below hb)
  replace MV := hide (MV.out.below hb)
  replace MU := hide (MU.out.below hb)
  replace V := hide (V.out.below hb)
  replace MG := hide (MG.out.below hb)
  replace G := hide (G.out.below hb)
  replace BW := hide (BW.out.trans (hb.mono BW.out.size))
  clear hb
  try simp only [Act.put, List.setIfInBounds_toArray, List.set]
  refine PhaseIn.takeD (i := 4) (v := ?_) [4] 63 rfl (by rfl) (by kernel_rfl) (by kernel_rfl) (by kernel_rfl) (by kernel_rfl) (by kernel_rfl) (fun _ _ _ h => h) (Or.inl ⟨by kernel_rfl, ?_⟩) hHeld ?_
  rotate_left
  · intro w' hSw
    (try dsimp only at hSw)
    go_simp
    first | done | with_reducible rfl
  try simp only [Act.put, List.setIfInBounds_toArray, List.set]
  refine PhaseIn.done (by kernel_rfl) ?_ _
  clear hHeld
  have x0 := X.out.cell 0 _ rfl
  go_wp2_with fail
  refine (markTabTab ts 1 _ _ _ _ MX.out (by have := SP.out; omega) (by omega) (by omega)).mono ?_
  rintro e u11 ⟨rfl, -, hk⟩
  rw [EX.out]
  have l0 := ZZ.out
  have l3 := L3.out
  have l4 := L4.out
  have l5 := L5.out
  clear x0 MX
  replace MW := hide (MW.out.keep hk (fun b h1 h2 h3 => by omega))
  replace MV := hide (MV.out.keep hk (fun b h1 h2 h3 => by omega))
  replace MU := hide (MU.out.keep hk (fun b h1 h2 h3 => by omega))
  replace MG := hide (MG.out.keep hk (fun b h1 h2 h3 => by omega))
  replace TA := hide (TA.out.keep hk (by omega))
  replace TB := hide (TB.out.keep hk (by omega))
  replace Y := hide (Y.out.keep hk (by omega))
  replace V := hide (V.out.keep hk (by omega))
  replace G := hide (G.out.keep hk (by omega))
  replace BW := hide (BW.out.trans (hk.below BW.out.size (fun k h1 h2 => by omega)))
  clear hk l0 l3 l4 l5 X
  have bxx : tx ≤ 10000000000 := by rw [← EX.out, offT_full]; have := SP.out; omega
  have szU4 : Hid (u4.heap.size ≤ u11.heap.size) := by have := G.out.lt; have := L5.out; show _ ≤ _; omega
  have v0 := V.out.cell 0 _ rfl
  have v1 := V.out.cell 1 _ rfl
  have v2 := V.out.cell 2 _ rfl
  have v3 := V.out.cell 3 _ rfl
  go_wp2_with fail
  refine (markTabAtom a tx _ _ _ _ _ _ _ _ MV.out MU.out (by have := L4.out; omega) (by have := L4.out; omega) szU4.out (by have := SQ.out; omega) (by omega) (by omega)).mono ?_
  rintro e u12 ⟨rfl, -, -, hk⟩
  rw [EY.out]
  have l0 := ZZ.out
  have l3 := L3.out
  have l4 := L4.out
  have l5 := L5.out
  clear v0 v1 v2 v3 MV MU
  replace MW := hide (MW.out.keep hk (fun b h1 h2 h3 => by omega))
  replace MG := hide (MG.out.keep hk (fun b h1 h2 h3 => by omega))
  replace TA := hide (TA.out.keep hk (by omega))
  replace TB := hide (TB.out.keep hk (by omega))
  replace Y := hide (Y.out.keep hk (by omega))
  replace G := hide (G.out.keep hk (by omega))
  replace BW := hide (BW.out.trans (hk.below BW.out.size (fun k h1 h2 => by omega)))
  clear hk l0 l3 l4 l5 V
  obtain ⟨BG, RBG⟩ := MG.out.read
  replace RBG := hide RBG
  obtain ⟨BY, RBY⟩ := MW.out.read
  replace RBY := hide RBY
  have x0 := G.out.cell 0 _ rfl
  have y0 := Y.out.cell 0 _ rfl
  go_wp2_with fail
  refine (eqTabTab R BG BY _ _ _ RBG.out RBY.out).mono ?_
  rintro e u13 ⟨rfl, hb⟩
  clear x0 y0 RBG RBY
  replace TA := hide (TA.out.below hb)
  replace TB := hide (TB.out.below hb)
  replace MW := hide (MW.out.below hb)
  replace Y := hide (Y.out.below hb)
  replace MG := hide (MG.out.below hb)
  replace G := hide (G.out.below hb)
  replace BW := hide (BW.out.trans (hb.mono BW.out.size))
  clear hb
  have x0 := G.out.cell 0 _ rfl
  go_wp2_with fail
  refine (markTabTab R 1 _ _ _ _ MG.out SR.out (by omega) (by omega)).mono ?_
  rintro e u14 ⟨rfl, MM, hk⟩
  rw [ET.out]
  replace MM := hide MM
  have l0 := ZZ.out
  have l3 := L3.out
  have l4 := L4.out
  have l5 := L5.out
  clear x0 MG
  replace MW := hide (MW.out.keep hk (fun b h1 h2 h3 => by omega))
  replace TA := hide (TA.out.keep hk (by omega))
  replace TB := hide (TB.out.keep hk (by omega))
  replace Y := hide (Y.out.keep hk (by omega))
  replace G := hide (G.out.keep hk (by omega))
  replace BW := hide (BW.out.trans (hk.below BW.out.size (fun k h1 h2 => by omega)))
  clear hk l0 l3 l4 l5 
  obtain ⟨BM, RBM⟩ := MM.out.read
  replace RBM := hide RBM
  have x0 := G.out.cell 0 _ rfl
  go_wp2_with fail
  refine (heldTabTab R 1 BM _ _ RBM.out SR.out (by omega) (by omega)).mono ?_
  rintro e u15 ⟨rfl, hb⟩
  rw [ET.out]
  clear x0 RBM BM
  replace TA := hide (TA.out.below hb)
  replace TB := hide (TB.out.below hb)
  replace MW := hide (MW.out.below hb)
  replace Y := hide (Y.out.below hb)
  replace MM := hide (MM.out.below hb)
  replace G := hide (G.out.below hb)
  replace BW := hide (BW.out.trans (hb.mono BW.out.size))
  clear hb
  have yl := Y.out.lt
  have gl_ := G.out.lt
  have tl := TB.out.lt
  have l0 := ZZ.out
  have l3 := L3.out
  have l4 := L4.out
  have l5 := L5.out
  have hW : W.heap.size ≤ u15.heap.size := by omega
  replace lw := hide tl
  go_wp2_with fail
  refine (wpIn_wide (n := 0)).1 ?_
  refine PhaseIn.region (S := fun w' => Rec w.heap.size [.slice qa ts.length ca] w' ∧ Rec (w.heap.size + 1) [.int .i64 a.kd, .int .i64 a.k, .slice qx a.x.length cx, .slice qy a.y.length cy] w') 11 (by kernel_rfl) ?_
  have hb : Below u15.heap.size u15 u15.drew := (Below.refl _ _).drew
  have hzd15 := hb.size
  replace TA := hide (TA.out.below hb)
  replace TB := hide (TB.out.below hb)
  replace MW := hide (MW.out.below hb)
  replace Y := hide (Y.out.below hb)
  replace MM := hide (MM.out.below hb)
  replace G := hide (G.out.below hb)
  replace BW := hide (BW.out.trans (hb.mono BW.out.size))
  clear hb
  generalize u15.drew = d15 at BW hzd15 TA TB MW Y MM G ⊢
  have hHeld := And.intro TA.out TB.out
  refine PhaseIn.takeD (i := 0) (v := ?_) [0, 1, 3, 4, 5, 6, 7, 9, 10] 95 rfl (by rfl) (by kernel_rfl) (by kernel_rfl) (by kernel_rfl) (by kernel_rfl) (by kernel_rfl) (fun _ _ _ h => h) (Or.inl ⟨by kernel_rfl, ?_⟩) hHeld ?_
  rotate_left
  · intro w' hSw
    (try dsimp only at hSw)
    have z0 := hSw.1.cell 0 _ rfl
    go_simp
    first | done | with_reducible rfl
  try simp only [Act.put, List.setIfInBounds_toArray, List.set]
  refine PhaseIn.takeD (i := 2) (v := ?_) [2, 3, 4, 5, 6, 7, 9, 10] 97 rfl (by rfl) (by kernel_rfl) (by kernel_rfl) (by kernel_rfl) (by kernel_rfl) (by kernel_rfl) (fun _ _ _ h => h) (Or.inl ⟨by kernel_rfl, ?_⟩) hHeld ?_
  rotate_left
  · intro w' hSw
    (try dsimp only at hSw)
    have z0 := hSw.2.cell 0 _ rfl; have z1 := hSw.2.cell 1 _ rfl; have z2 := hSw.2.cell 2 _ rfl; have z3 := hSw.2.cell 3 _ rfl
    go_simp
    first | done | with_reducible rfl
  try simp only [Act.put, List.setIfInBounds_toArray, List.set]
  refine PhaseIn.two (i := 1) (j := 8) (by kernel_rfl) rfl rfl (by kernel_rfl) (by kernel_rfl) (fun K hK => ?_) (fun K hK => ?_)
  · -- 1
    unfold Oper.wpIn
    refine ⟨fun _ _ => trivial, ?_⟩
    go_simp
    refine ⟨rfl, (callsIn_wide.2 (toTabTab ts B _ _ (RM.out.below BW.out) HS.out)).mono ?_⟩
    rintro e z1 ⟨g1, rfl, M1, hb⟩
    obtain ⟨B1, R1⟩ := M1.read
    replace R1 := hide R1
    clear M1
    refine hK _ _ (fun _ => And.intro (hHeld.1.below hb) (hHeld.2.below hb)) ?_
    replace hHeld := And.intro (hHeld.1.below hb) (hHeld.2.below hb)
    have hzz1 := hb.size
    replace TA := hide (TA.out.below hb)
    replace TB := hide (TB.out.below hb)
    replace MW := hide (MW.out.below hb)
    replace Y := hide (Y.out.below hb)
    replace MM := hide (MM.out.below hb)
    replace G := hide (G.out.below hb)
    replace BW := hide (BW.out.trans (hb.mono BW.out.size))
    clear hb
    clear hK K
    try simp only [Act.put, List.setIfInBounds_toArray, List.set]
    refine PhaseIn.two (i := 3) (j := 8) (by kernel_rfl) rfl rfl (by kernel_rfl) (by kernel_rfl) (fun K hK => ?_) (fun K hK => ?_)
    · -- 3
      unfold Oper.wpIn
      refine ⟨fun _ _ => trivial, ?_⟩
      go_simp
      refine ⟨rfl, (callsIn_wide.2 (toTabAtom a qx cx qy cy bx b _ (RX.out.below BW.out) (RY.out.below BW.out) SQ.out)).mono ?_⟩
      rintro e z2 ⟨g3, g4, mid3, rfl, M3, M4, -, -, hb⟩
      obtain ⟨B3, R3⟩ := M3.read
      obtain ⟨B4, R4⟩ := M4.read
      replace R3 := hide R3
      replace R4 := hide R4
      clear M3 M4
      refine hK _ _ (fun _ => And.intro (hHeld.1.below hb) (hHeld.2.below hb)) ?_
      replace hHeld := And.intro (hHeld.1.below hb) (hHeld.2.below hb)
      have hzz2 := hb.size
      replace TA := hide (TA.out.below hb)
      replace TB := hide (TB.out.below hb)
      replace MW := hide (MW.out.below hb)
      replace Y := hide (Y.out.below hb)
      replace MM := hide (MM.out.below hb)
      replace G := hide (G.out.below hb)
      replace R1 := hide (R1.out.below hb)
      replace BW := hide (BW.out.trans (hb.mono BW.out.size))
      clear hb
      clear hK K
      try simp only [Act.put, List.setIfInBounds_toArray, List.set]
      refine PhaseIn.two (i := 4) (j := 8) (by kernel_rfl) rfl rfl (by kernel_rfl) (by kernel_rfl) (fun K hK => ?_) (fun K hK => ?_)
      · -- 4
        unfold Oper.wpIn
        refine ⟨fun _ _ => trivial, ?_⟩
        go_simp
        refine ⟨rfl, (callsIn_wide.2 (implPut ts a B1 _ _ _ _ _ B3 B4 _ R1.out R3.out R4.out)).mono ?_⟩
        rintro e z3 ⟨ha, hc, _, _, _, _, rfl, OW, hb⟩
        have MW0 := OW.whole
        rw [ER.out] at MW0 ⊢
        rw [EB.out]
        have MH := hide MW0
        clear MW0 R1 R3 R4 OW
        refine hK _ _ (fun _ => And.intro (hHeld.1.below hb) (hHeld.2.below hb)) ?_
        replace hHeld := And.intro (hHeld.1.below hb) (hHeld.2.below hb)
        have hzz3 := hb.size
        replace TA := hide (TA.out.below hb)
        replace TB := hide (TB.out.below hb)
        replace MW := hide (MW.out.below hb)
        replace Y := hide (Y.out.below hb)
        replace MM := hide (MM.out.below hb)
        replace G := hide (G.out.below hb)
        replace BW := hide (BW.out.trans (hb.mono BW.out.size))
        clear hb
        clear hK K
        try simp only [Act.put, List.setIfInBounds_toArray, List.set]
        refine PhaseIn.takeD (i := 5) (v := ?_) [5, 6, 7, 9, 10] 94 rfl (by rfl) (by kernel_rfl) (by kernel_rfl) (by kernel_rfl) (by kernel_rfl) (by kernel_rfl) (fun _ _ _ h => h) (Or.inl ⟨by kernel_rfl, ?_⟩) hHeld ?_
        rotate_left
        · intro w' hSw
          (try dsimp only at hSw)
          skip
          go_simp
          first | done | with_reducible rfl
        try simp only [Act.put, List.setIfInBounds_toArray, List.set]
        refine PhaseIn.takeD (i := 6) (v := ?_) [6, 9, 10] 100 rfl (by rfl) (by kernel_rfl) (by kernel_rfl) (by kernel_rfl) (by kernel_rfl) (by kernel_rfl) (fun _ _ _ h => h) (Or.inl ⟨by kernel_rfl, ?_⟩) hHeld ?_
        rotate_left
        · intro w' hSw
          (try dsimp only at hSw)
          skip
          go_simp
          first | done | with_reducible rfl
        try simp only [Act.put, List.setIfInBounds_toArray, List.set]
        refine PhaseIn.takeD (i := 7) (v := ?_) [7, 10] 101 rfl (by rfl) (by kernel_rfl) (by kernel_rfl) (by kernel_rfl) (by kernel_rfl) (by kernel_rfl) (fun _ _ _ h => h) (Or.inl ⟨by kernel_rfl, ?_⟩) hHeld ?_
        rotate_left
        · intro w' hSw
          (try dsimp only at hSw)
          skip
          go_simp
          first | done | with_reducible rfl
        try simp only [Act.put, List.setIfInBounds_toArray, List.set]
        refine PhaseIn.one (i := 8) (by kernel_rfl) rfl (by kernel_rfl) (fun K hK => ?_)
        unfold Oper.wpIn
        refine ⟨fun _ _ => trivial, ?_⟩
        go_simp
        have hb := (Below.refl _ z3).alloc (Nat.le_refl _) (.cells #[.slice none 0 0] 34)
        refine hK _ _ (fun _ => And.intro (hHeld.1.below hb) (hHeld.2.below hb)) ?_
        have Y0 := hide (Rec.new z3 [.slice none 0 0] 34)
        have hzz4 : z3.heap.size < (z3.alloc (.cells #[.slice none 0 0] 34)).heap.size := by simp
        replace hHeld := And.intro (hHeld.1.below hb) (hHeld.2.below hb)
        replace TA := hide (TA.out.below hb)
        replace TB := hide (TB.out.below hb)
        replace MW := hide (MW.out.below hb)
        replace Y := hide (Y.out.below hb)
        replace MM := hide (MM.out.below hb)
        replace G := hide (G.out.below hb)
        replace MH := hide (MH.out.below hb)
        replace BW := hide (BW.out.trans (hb.mono BW.out.size))
        clear hb
        generalize (z3.alloc (.cells #[.slice none 0 0] 34)) = z4 at hHeld BW Y0 hzz4 TA TB MW Y MM G MH ⊢
        clear hK K
        try simp only [Act.put, List.setIfInBounds_toArray, List.set]
        have zl : w.heap.size + 1 < z3.heap.size := by have := lw.out; omega
        have y0 := Y0.out.cell 0 _ rfl
        have ys := Y0.out.soft 0
        refine PhaseIn.one (i := 9) (by kernel_rfl) rfl (by kernel_rfl) (fun K hK => ?_)
        unfold Oper.wpIn
        refine ⟨fun _ _ => trivial, ?_⟩
        go_simp
        have tn : Turn z3.heap.size z4 (z4.setCell ⟨z3.heap.size, 0, none⟩ (.slice ha R.length hc)) := (Turn.refl _ z4).setCell (p := ⟨z3.heap.size, 0, none⟩) rfl _
        have H := hide (Y0.out.set 0 (.slice ha R.length hc) (by simp) rfl)
        replace TA := hide (TA.out.turn tn (by omega))
        replace TB := hide (TB.out.turn tn (by omega))
        replace MW := hide (MW.out.keep (Keep.of_turn tn) (fun b' h1 h2 (h3 : b' = _) => by omega))
        replace Y := hide (Y.out.turn tn (by omega))
        replace MM := hide (MM.out.keep (Keep.of_turn tn) (fun b' h1 h2 (h3 : b' = _) => by omega))
        replace G := hide (G.out.turn tn (by omega))
        replace MH := hide (MH.out.keep (Keep.of_turn tn) (fun b' h1 h2 (h3 : b' = _) => by omega))
        replace BW := hide (BW.out.trans (tn.below (by omega) BW.out.size))
        have hHeld9 : (Rec w.heap.size [.slice qa ts.length ca] (z4.setCell ⟨z3.heap.size, 0, none⟩ (.slice ha R.length hc)) ∧ Rec (w.heap.size + 1) [.int .i64 a.kd, .int .i64 a.k, .slice qx a.x.length cx, .slice qy a.y.length cy] (z4.setCell ⟨z3.heap.size, 0, none⟩ (.slice ha R.length hc))) := ⟨TA.out, TB.out⟩
        refine hK _ _ (fun _ => hHeld9) ?_
        clear hK K y0 ys hHeld Y0
        have hzz : z4.heap.size ≤ (z4.setCell ⟨z3.heap.size, 0, none⟩ (.slice ha R.length hc)).heap.size := tn.size
        clear tn
        generalize (z4.setCell ⟨z3.heap.size, 0, none⟩ (.slice ha R.length hc)) = y31 at hHeld9 BW H hzz TA TB MW Y MM G MH ⊢
        try simp only [Act.put, List.setIfInBounds_toArray, List.set]
        refine PhaseIn.takeD (i := 10) (v := ?_) [10] 16 rfl (by rfl) (by kernel_rfl) (by kernel_rfl) (by kernel_rfl) (by kernel_rfl) (by kernel_rfl) (fun _ _ _ h => h) (Or.inl ⟨by kernel_rfl, ?_⟩) hHeld9 ?_
        rotate_left
        · intro w' hSw
          (try dsimp only at hSw)
          skip
          go_simp
          first | done | with_reducible rfl
        try simp only [Act.put, List.setIfInBounds_toArray, List.set]
        refine PhaseIn.done (by kernel_rfl) ?_ _
        clear hHeld9
        clear TA TB
        obtain ⟨BG, RBG⟩ := MH.out.read
        replace RBG := hide RBG
        obtain ⟨BY, RBY⟩ := MW.out.read
        replace RBY := hide RBY
        have x0 := H.out.cell 0 _ rfl
        have y0 := Y.out.cell 0 _ rfl
        go_wp2_with fail
        refine (eqTabTab R BG BY _ _ _ RBG.out RBY.out).mono ?_
        rintro e e1 ⟨rfl, hb⟩
        clear x0 y0 RBG RBY
        replace MM := hide (MM.out.below hb)
        replace G := hide (G.out.below hb)
        replace BW := hide (BW.out.trans (hb.mono BW.out.size))
        clear hb
        clear MH H MW Y
        obtain ⟨BM, RBM⟩ := MM.out.read
        replace RBM := hide RBM
        have x0 := G.out.cell 0 _ rfl
        go_wp2_with fail
        refine (heldTabTab R 1 BM _ _ RBM.out SR.out (by omega) (by omega)).mono ?_
        rintro e e2 ⟨rfl, hb⟩
        rw [ET.out]
        clear x0 RBM BM
        replace BW := hide (BW.out.trans (hb.mono BW.out.size))
        clear hb
        clear MM G
        go_wp2
        go_ret
        exact ⟨rfl, BW.out⟩
      · -- the box
        unfold Oper.wpIn
        refine ⟨fun _ _ => trivial, ?_⟩
        go_simp
        have hb := (Below.refl _ z2).alloc (Nat.le_refl _) (.cells #[.slice none 0 0] 34)
        refine hK _ _ (fun _ => And.intro (hHeld.1.below hb) (hHeld.2.below hb)) ?_
        have Y0 := hide (Rec.new z2 [.slice none 0 0] 34)
        have hzz5 : z2.heap.size < (z2.alloc (.cells #[.slice none 0 0] 34)).heap.size := by simp
        replace hHeld := And.intro (hHeld.1.below hb) (hHeld.2.below hb)
        replace TA := hide (TA.out.below hb)
        replace TB := hide (TB.out.below hb)
        replace MW := hide (MW.out.below hb)
        replace Y := hide (Y.out.below hb)
        replace MM := hide (MM.out.below hb)
        replace G := hide (G.out.below hb)
        replace R1 := hide (R1.out.below hb)
        replace R3 := hide (R3.out.below hb)
        replace R4 := hide (R4.out.below hb)
        replace BW := hide (BW.out.trans (hb.mono BW.out.size))
        clear hb
        generalize (z2.alloc (.cells #[.slice none 0 0] 34)) = z5 at hHeld BW Y0 hzz5 TA TB MW Y MM G R1 R3 R4 ⊢
        clear hK K
        try simp only [Act.put, List.setIfInBounds_toArray, List.set]
        refine PhaseIn.one (i := 4) (by kernel_rfl) rfl (by kernel_rfl) (fun K hK => ?_)
        unfold Oper.wpIn
        refine ⟨fun _ _ => trivial, ?_⟩
        go_simp
        refine ⟨rfl, (callsIn_wide.2 (implPut ts a B1 _ _ _ _ _ B3 B4 _ R1.out R3.out R4.out)).mono ?_⟩
        rintro e z6 ⟨ha, hc, _, _, _, _, rfl, OW, hb⟩
        have MW0 := OW.whole
        rw [ER.out] at MW0 ⊢
        rw [EB.out]
        have MH := hide MW0
        clear MW0 R1 R3 R4 OW
        refine hK _ _ (fun _ => And.intro (hHeld.1.below hb) (hHeld.2.below hb)) ?_
        replace hHeld := And.intro (hHeld.1.below hb) (hHeld.2.below hb)
        have hzz6 := hb.size
        replace TA := hide (TA.out.below hb)
        replace TB := hide (TB.out.below hb)
        replace MW := hide (MW.out.below hb)
        replace Y := hide (Y.out.below hb)
        replace MM := hide (MM.out.below hb)
        replace G := hide (G.out.below hb)
        replace Y0 := hide (Y0.out.below hb)
        replace BW := hide (BW.out.trans (hb.mono BW.out.size))
        clear hb
        clear hK K
        try simp only [Act.put, List.setIfInBounds_toArray, List.set]
        refine PhaseIn.takeD (i := 5) (v := ?_) [5, 6, 7, 9, 10] 94 rfl (by rfl) (by kernel_rfl) (by kernel_rfl) (by kernel_rfl) (by kernel_rfl) (by kernel_rfl) (fun _ _ _ h => h) (Or.inl ⟨by kernel_rfl, ?_⟩) hHeld ?_
        rotate_left
        · intro w' hSw
          (try dsimp only at hSw)
          skip
          go_simp
          first | done | with_reducible rfl
        try simp only [Act.put, List.setIfInBounds_toArray, List.set]
        refine PhaseIn.takeD (i := 6) (v := ?_) [6, 9, 10] 100 rfl (by rfl) (by kernel_rfl) (by kernel_rfl) (by kernel_rfl) (by kernel_rfl) (by kernel_rfl) (fun _ _ _ h => h) (Or.inl ⟨by kernel_rfl, ?_⟩) hHeld ?_
        rotate_left
        · intro w' hSw
          (try dsimp only at hSw)
          skip
          go_simp
          first | done | with_reducible rfl
        try simp only [Act.put, List.setIfInBounds_toArray, List.set]
        refine PhaseIn.takeD (i := 7) (v := ?_) [7, 10] 101 rfl (by rfl) (by kernel_rfl) (by kernel_rfl) (by kernel_rfl) (by kernel_rfl) (by kernel_rfl) (fun _ _ _ h => h) (Or.inl ⟨by kernel_rfl, ?_⟩) hHeld ?_
        rotate_left
        · intro w' hSw
          (try dsimp only at hSw)
          skip
          go_simp
          first | done | with_reducible rfl
        try simp only [Act.put, List.setIfInBounds_toArray, List.set]
        have zl : w.heap.size + 1 < z2.heap.size := by have := lw.out; omega
        have y0 := Y0.out.cell 0 _ rfl
        have ys := Y0.out.soft 0
        refine PhaseIn.one (i := 9) (by kernel_rfl) rfl (by kernel_rfl) (fun K hK => ?_)
        unfold Oper.wpIn
        refine ⟨fun _ _ => trivial, ?_⟩
        go_simp
        have tn : Turn z2.heap.size z6 (z6.setCell ⟨z2.heap.size, 0, none⟩ (.slice ha R.length hc)) := (Turn.refl _ z6).setCell (p := ⟨z2.heap.size, 0, none⟩) rfl _
        have H := hide (Y0.out.set 0 (.slice ha R.length hc) (by simp) rfl)
        replace TA := hide (TA.out.turn tn (by omega))
        replace TB := hide (TB.out.turn tn (by omega))
        replace MW := hide (MW.out.keep (Keep.of_turn tn) (fun b' h1 h2 (h3 : b' = _) => by omega))
        replace Y := hide (Y.out.turn tn (by omega))
        replace MM := hide (MM.out.keep (Keep.of_turn tn) (fun b' h1 h2 (h3 : b' = _) => by omega))
        replace G := hide (G.out.turn tn (by omega))
        replace MH := hide (MH.out.keep (Keep.of_turn tn) (fun b' h1 h2 (h3 : b' = _) => by omega))
        replace BW := hide (BW.out.trans (tn.below (by omega) BW.out.size))
        have hHeld9 : (Rec w.heap.size [.slice qa ts.length ca] (z6.setCell ⟨z2.heap.size, 0, none⟩ (.slice ha R.length hc)) ∧ Rec (w.heap.size + 1) [.int .i64 a.kd, .int .i64 a.k, .slice qx a.x.length cx, .slice qy a.y.length cy] (z6.setCell ⟨z2.heap.size, 0, none⟩ (.slice ha R.length hc))) := ⟨TA.out, TB.out⟩
        refine hK _ _ (fun _ => hHeld9) ?_
        clear hK K y0 ys hHeld Y0
        have hzz : z6.heap.size ≤ (z6.setCell ⟨z2.heap.size, 0, none⟩ (.slice ha R.length hc)).heap.size := tn.size
        clear tn
        generalize (z6.setCell ⟨z2.heap.size, 0, none⟩ (.slice ha R.length hc)) = y31 at hHeld9 BW H hzz TA TB MW Y MM G MH ⊢
        try simp only [Act.put, List.setIfInBounds_toArray, List.set]
        refine PhaseIn.takeD (i := 10) (v := ?_) [10] 16 rfl (by rfl) (by kernel_rfl) (by kernel_rfl) (by kernel_rfl) (by kernel_rfl) (by kernel_rfl) (fun _ _ _ h => h) (Or.inl ⟨by kernel_rfl, ?_⟩) hHeld9 ?_
        rotate_left
        · intro w' hSw
          (try dsimp only at hSw)
          skip
          go_simp
          first | done | with_reducible rfl
        try simp only [Act.put, List.setIfInBounds_toArray, List.set]
        refine PhaseIn.done (by kernel_rfl) ?_ _
        clear hHeld9
        clear TA TB
        obtain ⟨BG, RBG⟩ := MH.out.read
        replace RBG := hide RBG
        obtain ⟨BY, RBY⟩ := MW.out.read
        replace RBY := hide RBY
        have x0 := H.out.cell 0 _ rfl
        have y0 := Y.out.cell 0 _ rfl
        go_wp2_with fail
        refine (eqTabTab R BG BY _ _ _ RBG.out RBY.out).mono ?_
        rintro e e1 ⟨rfl, hb⟩
        clear x0 y0 RBG RBY
        replace MM := hide (MM.out.below hb)
        replace G := hide (G.out.below hb)
        replace BW := hide (BW.out.trans (hb.mono BW.out.size))
        clear hb
        clear MH H MW Y
        obtain ⟨BM, RBM⟩ := MM.out.read
        replace RBM := hide RBM
        have x0 := G.out.cell 0 _ rfl
        go_wp2_with fail
        refine (heldTabTab R 1 BM _ _ RBM.out SR.out (by omega) (by omega)).mono ?_
        rintro e e2 ⟨rfl, hb⟩
        rw [ET.out]
        clear x0 RBM BM
        replace BW := hide (BW.out.trans (hb.mono BW.out.size))
        clear hb
        clear MM G
        go_wp2
        go_ret
        exact ⟨rfl, BW.out⟩
    · -- the box
      unfold Oper.wpIn
      refine ⟨fun _ _ => trivial, ?_⟩
      go_simp
      have hb := (Below.refl _ z1).alloc (Nat.le_refl _) (.cells #[.slice none 0 0] 34)
      refine hK _ _ (fun _ => And.intro (hHeld.1.below hb) (hHeld.2.below hb)) ?_
      have Y0 := hide (Rec.new z1 [.slice none 0 0] 34)
      have hzz7 : z1.heap.size < (z1.alloc (.cells #[.slice none 0 0] 34)).heap.size := by simp
      replace hHeld := And.intro (hHeld.1.below hb) (hHeld.2.below hb)
      replace TA := hide (TA.out.below hb)
      replace TB := hide (TB.out.below hb)
      replace MW := hide (MW.out.below hb)
      replace Y := hide (Y.out.below hb)
      replace MM := hide (MM.out.below hb)
      replace G := hide (G.out.below hb)
      replace R1 := hide (R1.out.below hb)
      replace BW := hide (BW.out.trans (hb.mono BW.out.size))
      clear hb
      generalize (z1.alloc (.cells #[.slice none 0 0] 34)) = z7 at hHeld BW Y0 hzz7 TA TB MW Y MM G R1 ⊢
      clear hK K
      try simp only [Act.put, List.setIfInBounds_toArray, List.set]
      refine PhaseIn.one (i := 3) (by kernel_rfl) rfl (by kernel_rfl) (fun K hK => ?_)
      unfold Oper.wpIn
      refine ⟨fun _ _ => trivial, ?_⟩
      go_simp
      refine ⟨rfl, (callsIn_wide.2 (toTabAtom a qx cx qy cy bx b _ (RX.out.below BW.out) (RY.out.below BW.out) SQ.out)).mono ?_⟩
      rintro e z8 ⟨g3, g4, mid3, rfl, M3, M4, -, -, hb⟩
      obtain ⟨B3, R3⟩ := M3.read
      obtain ⟨B4, R4⟩ := M4.read
      replace R3 := hide R3
      replace R4 := hide R4
      clear M3 M4
      refine hK _ _ (fun _ => And.intro (hHeld.1.below hb) (hHeld.2.below hb)) ?_
      replace hHeld := And.intro (hHeld.1.below hb) (hHeld.2.below hb)
      have hzz8 := hb.size
      replace TA := hide (TA.out.below hb)
      replace TB := hide (TB.out.below hb)
      replace MW := hide (MW.out.below hb)
      replace Y := hide (Y.out.below hb)
      replace MM := hide (MM.out.below hb)
      replace G := hide (G.out.below hb)
      replace R1 := hide (R1.out.below hb)
      replace Y0 := hide (Y0.out.below hb)
      replace BW := hide (BW.out.trans (hb.mono BW.out.size))
      clear hb
      clear hK K
      try simp only [Act.put, List.setIfInBounds_toArray, List.set]
      refine PhaseIn.one (i := 4) (by kernel_rfl) rfl (by kernel_rfl) (fun K hK => ?_)
      unfold Oper.wpIn
      refine ⟨fun _ _ => trivial, ?_⟩
      go_simp
      refine ⟨rfl, (callsIn_wide.2 (implPut ts a B1 _ _ _ _ _ B3 B4 _ R1.out R3.out R4.out)).mono ?_⟩
      rintro e z9 ⟨ha, hc, _, _, _, _, rfl, OW, hb⟩
      have MW0 := OW.whole
      rw [ER.out] at MW0 ⊢
      rw [EB.out]
      have MH := hide MW0
      clear MW0 R1 R3 R4 OW
      refine hK _ _ (fun _ => And.intro (hHeld.1.below hb) (hHeld.2.below hb)) ?_
      replace hHeld := And.intro (hHeld.1.below hb) (hHeld.2.below hb)
      have hzz9 := hb.size
      replace TA := hide (TA.out.below hb)
      replace TB := hide (TB.out.below hb)
      replace MW := hide (MW.out.below hb)
      replace Y := hide (Y.out.below hb)
      replace MM := hide (MM.out.below hb)
      replace G := hide (G.out.below hb)
      replace Y0 := hide (Y0.out.below hb)
      replace BW := hide (BW.out.trans (hb.mono BW.out.size))
      clear hb
      clear hK K
      try simp only [Act.put, List.setIfInBounds_toArray, List.set]
      refine PhaseIn.takeD (i := 5) (v := ?_) [5, 6, 7, 9, 10] 94 rfl (by rfl) (by kernel_rfl) (by kernel_rfl) (by kernel_rfl) (by kernel_rfl) (by kernel_rfl) (fun _ _ _ h => h) (Or.inl ⟨by kernel_rfl, ?_⟩) hHeld ?_
      rotate_left
      · intro w' hSw
        (try dsimp only at hSw)
        skip
        go_simp
        first | done | with_reducible rfl
      try simp only [Act.put, List.setIfInBounds_toArray, List.set]
      refine PhaseIn.takeD (i := 6) (v := ?_) [6, 9, 10] 100 rfl (by rfl) (by kernel_rfl) (by kernel_rfl) (by kernel_rfl) (by kernel_rfl) (by kernel_rfl) (fun _ _ _ h => h) (Or.inl ⟨by kernel_rfl, ?_⟩) hHeld ?_
      rotate_left
      · intro w' hSw
        (try dsimp only at hSw)
        skip
        go_simp
        first | done | with_reducible rfl
      try simp only [Act.put, List.setIfInBounds_toArray, List.set]
      refine PhaseIn.takeD (i := 7) (v := ?_) [7, 10] 101 rfl (by rfl) (by kernel_rfl) (by kernel_rfl) (by kernel_rfl) (by kernel_rfl) (by kernel_rfl) (fun _ _ _ h => h) (Or.inl ⟨by kernel_rfl, ?_⟩) hHeld ?_
      rotate_left
      · intro w' hSw
        (try dsimp only at hSw)
        skip
        go_simp
        first | done | with_reducible rfl
      try simp only [Act.put, List.setIfInBounds_toArray, List.set]
      have zl : w.heap.size + 1 < z1.heap.size := by have := lw.out; omega
      have y0 := Y0.out.cell 0 _ rfl
      have ys := Y0.out.soft 0
      refine PhaseIn.one (i := 9) (by kernel_rfl) rfl (by kernel_rfl) (fun K hK => ?_)
      unfold Oper.wpIn
      refine ⟨fun _ _ => trivial, ?_⟩
      go_simp
      have tn : Turn z1.heap.size z9 (z9.setCell ⟨z1.heap.size, 0, none⟩ (.slice ha R.length hc)) := (Turn.refl _ z9).setCell (p := ⟨z1.heap.size, 0, none⟩) rfl _
      have H := hide (Y0.out.set 0 (.slice ha R.length hc) (by simp) rfl)
      replace TA := hide (TA.out.turn tn (by omega))
      replace TB := hide (TB.out.turn tn (by omega))
      replace MW := hide (MW.out.keep (Keep.of_turn tn) (fun b' h1 h2 (h3 : b' = _) => by omega))
      replace Y := hide (Y.out.turn tn (by omega))
      replace MM := hide (MM.out.keep (Keep.of_turn tn) (fun b' h1 h2 (h3 : b' = _) => by omega))
      replace G := hide (G.out.turn tn (by omega))
      replace MH := hide (MH.out.keep (Keep.of_turn tn) (fun b' h1 h2 (h3 : b' = _) => by omega))
      replace BW := hide (BW.out.trans (tn.below (by omega) BW.out.size))
      have hHeld9 : (Rec w.heap.size [.slice qa ts.length ca] (z9.setCell ⟨z1.heap.size, 0, none⟩ (.slice ha R.length hc)) ∧ Rec (w.heap.size + 1) [.int .i64 a.kd, .int .i64 a.k, .slice qx a.x.length cx, .slice qy a.y.length cy] (z9.setCell ⟨z1.heap.size, 0, none⟩ (.slice ha R.length hc))) := ⟨TA.out, TB.out⟩
      refine hK _ _ (fun _ => hHeld9) ?_
      clear hK K y0 ys hHeld Y0
      have hzz : z9.heap.size ≤ (z9.setCell ⟨z1.heap.size, 0, none⟩ (.slice ha R.length hc)).heap.size := tn.size
      clear tn
      generalize (z9.setCell ⟨z1.heap.size, 0, none⟩ (.slice ha R.length hc)) = y31 at hHeld9 BW H hzz TA TB MW Y MM G MH ⊢
      try simp only [Act.put, List.setIfInBounds_toArray, List.set]
      refine PhaseIn.takeD (i := 10) (v := ?_) [10] 16 rfl (by rfl) (by kernel_rfl) (by kernel_rfl) (by kernel_rfl) (by kernel_rfl) (by kernel_rfl) (fun _ _ _ h => h) (Or.inl ⟨by kernel_rfl, ?_⟩) hHeld9 ?_
      rotate_left
      · intro w' hSw
        (try dsimp only at hSw)
        skip
        go_simp
        first | done | with_reducible rfl
      try simp only [Act.put, List.setIfInBounds_toArray, List.set]
      refine PhaseIn.done (by kernel_rfl) ?_ _
      clear hHeld9
      clear TA TB
      obtain ⟨BG, RBG⟩ := MH.out.read
      replace RBG := hide RBG
      obtain ⟨BY, RBY⟩ := MW.out.read
      replace RBY := hide RBY
      have x0 := H.out.cell 0 _ rfl
      have y0 := Y.out.cell 0 _ rfl
      go_wp2_with fail
      refine (eqTabTab R BG BY _ _ _ RBG.out RBY.out).mono ?_
      rintro e e1 ⟨rfl, hb⟩
      clear x0 y0 RBG RBY
      replace MM := hide (MM.out.below hb)
      replace G := hide (G.out.below hb)
      replace BW := hide (BW.out.trans (hb.mono BW.out.size))
      clear hb
      clear MH H MW Y
      obtain ⟨BM, RBM⟩ := MM.out.read
      replace RBM := hide RBM
      have x0 := G.out.cell 0 _ rfl
      go_wp2_with fail
      refine (heldTabTab R 1 BM _ _ RBM.out SR.out (by omega) (by omega)).mono ?_
      rintro e e2 ⟨rfl, hb⟩
      rw [ET.out]
      clear x0 RBM BM
      replace BW := hide (BW.out.trans (hb.mono BW.out.size))
      clear hb
      clear MM G
      go_wp2
      go_ret
      exact ⟨rfl, BW.out⟩
  · -- the box
    unfold Oper.wpIn
    refine ⟨fun _ _ => trivial, ?_⟩
    go_simp
    have hb := (Below.refl _ d15).alloc (Nat.le_refl _) (.cells #[.slice none 0 0] 34)
    refine hK _ _ (fun _ => And.intro (hHeld.1.below hb) (hHeld.2.below hb)) ?_
    have Y0 := hide (Rec.new d15 [.slice none 0 0] 34)
    have hzz10 : d15.heap.size < (d15.alloc (.cells #[.slice none 0 0] 34)).heap.size := by simp
    replace hHeld := And.intro (hHeld.1.below hb) (hHeld.2.below hb)
    replace TA := hide (TA.out.below hb)
    replace TB := hide (TB.out.below hb)
    replace MW := hide (MW.out.below hb)
    replace Y := hide (Y.out.below hb)
    replace MM := hide (MM.out.below hb)
    replace G := hide (G.out.below hb)
    replace BW := hide (BW.out.trans (hb.mono BW.out.size))
    clear hb
    generalize (d15.alloc (.cells #[.slice none 0 0] 34)) = z10 at hHeld BW Y0 hzz10 TA TB MW Y MM G ⊢
    clear hK K
    try simp only [Act.put, List.setIfInBounds_toArray, List.set]
    refine PhaseIn.one (i := 1) (by kernel_rfl) rfl (by kernel_rfl) (fun K hK => ?_)
    unfold Oper.wpIn
    refine ⟨fun _ _ => trivial, ?_⟩
    go_simp
    refine ⟨rfl, (callsIn_wide.2 (toTabTab ts B _ _ (RM.out.below BW.out) HS.out)).mono ?_⟩
    rintro e z11 ⟨g1, rfl, M1, hb⟩
    obtain ⟨B1, R1⟩ := M1.read
    replace R1 := hide R1
    clear M1
    refine hK _ _ (fun _ => And.intro (hHeld.1.below hb) (hHeld.2.below hb)) ?_
    replace hHeld := And.intro (hHeld.1.below hb) (hHeld.2.below hb)
    have hzz11 := hb.size
    replace TA := hide (TA.out.below hb)
    replace TB := hide (TB.out.below hb)
    replace MW := hide (MW.out.below hb)
    replace Y := hide (Y.out.below hb)
    replace MM := hide (MM.out.below hb)
    replace G := hide (G.out.below hb)
    replace Y0 := hide (Y0.out.below hb)
    replace BW := hide (BW.out.trans (hb.mono BW.out.size))
    clear hb
    clear hK K
    try simp only [Act.put, List.setIfInBounds_toArray, List.set]
    refine PhaseIn.one (i := 3) (by kernel_rfl) rfl (by kernel_rfl) (fun K hK => ?_)
    unfold Oper.wpIn
    refine ⟨fun _ _ => trivial, ?_⟩
    go_simp
    refine ⟨rfl, (callsIn_wide.2 (toTabAtom a qx cx qy cy bx b _ (RX.out.below BW.out) (RY.out.below BW.out) SQ.out)).mono ?_⟩
    rintro e z12 ⟨g3, g4, mid3, rfl, M3, M4, -, -, hb⟩
    obtain ⟨B3, R3⟩ := M3.read
    obtain ⟨B4, R4⟩ := M4.read
    replace R3 := hide R3
    replace R4 := hide R4
    clear M3 M4
    refine hK _ _ (fun _ => And.intro (hHeld.1.below hb) (hHeld.2.below hb)) ?_
    replace hHeld := And.intro (hHeld.1.below hb) (hHeld.2.below hb)
    have hzz12 := hb.size
    replace TA := hide (TA.out.below hb)
    replace TB := hide (TB.out.below hb)
    replace MW := hide (MW.out.below hb)
    replace Y := hide (Y.out.below hb)
    replace MM := hide (MM.out.below hb)
    replace G := hide (G.out.below hb)
    replace Y0 := hide (Y0.out.below hb)
    replace R1 := hide (R1.out.below hb)
    replace BW := hide (BW.out.trans (hb.mono BW.out.size))
    clear hb
    clear hK K
    try simp only [Act.put, List.setIfInBounds_toArray, List.set]
    refine PhaseIn.one (i := 4) (by kernel_rfl) rfl (by kernel_rfl) (fun K hK => ?_)
    unfold Oper.wpIn
    refine ⟨fun _ _ => trivial, ?_⟩
    go_simp
    refine ⟨rfl, (callsIn_wide.2 (implPut ts a B1 _ _ _ _ _ B3 B4 _ R1.out R3.out R4.out)).mono ?_⟩
    rintro e z13 ⟨ha, hc, _, _, _, _, rfl, OW, hb⟩
    have MW0 := OW.whole
    rw [ER.out] at MW0 ⊢
    rw [EB.out]
    have MH := hide MW0
    clear MW0 R1 R3 R4 OW
    refine hK _ _ (fun _ => And.intro (hHeld.1.below hb) (hHeld.2.below hb)) ?_
    replace hHeld := And.intro (hHeld.1.below hb) (hHeld.2.below hb)
    have hzz13 := hb.size
    replace TA := hide (TA.out.below hb)
    replace TB := hide (TB.out.below hb)
    replace MW := hide (MW.out.below hb)
    replace Y := hide (Y.out.below hb)
    replace MM := hide (MM.out.below hb)
    replace G := hide (G.out.below hb)
    replace Y0 := hide (Y0.out.below hb)
    replace BW := hide (BW.out.trans (hb.mono BW.out.size))
    clear hb
    clear hK K
    try simp only [Act.put, List.setIfInBounds_toArray, List.set]
    refine PhaseIn.takeD (i := 5) (v := ?_) [5, 6, 7, 9, 10] 94 rfl (by rfl) (by kernel_rfl) (by kernel_rfl) (by kernel_rfl) (by kernel_rfl) (by kernel_rfl) (fun _ _ _ h => h) (Or.inl ⟨by kernel_rfl, ?_⟩) hHeld ?_
    rotate_left
    · intro w' hSw
      (try dsimp only at hSw)
      skip
      go_simp
      first | done | with_reducible rfl
    try simp only [Act.put, List.setIfInBounds_toArray, List.set]
    refine PhaseIn.takeD (i := 6) (v := ?_) [6, 9, 10] 100 rfl (by rfl) (by kernel_rfl) (by kernel_rfl) (by kernel_rfl) (by kernel_rfl) (by kernel_rfl) (fun _ _ _ h => h) (Or.inl ⟨by kernel_rfl, ?_⟩) hHeld ?_
    rotate_left
    · intro w' hSw
      (try dsimp only at hSw)
      skip
      go_simp
      first | done | with_reducible rfl
    try simp only [Act.put, List.setIfInBounds_toArray, List.set]
    refine PhaseIn.takeD (i := 7) (v := ?_) [7, 10] 101 rfl (by rfl) (by kernel_rfl) (by kernel_rfl) (by kernel_rfl) (by kernel_rfl) (by kernel_rfl) (fun _ _ _ h => h) (Or.inl ⟨by kernel_rfl, ?_⟩) hHeld ?_
    rotate_left
    · intro w' hSw
      (try dsimp only at hSw)
      skip
      go_simp
      first | done | with_reducible rfl
    try simp only [Act.put, List.setIfInBounds_toArray, List.set]
    have zl : w.heap.size + 1 < d15.heap.size := by have := lw.out; omega
    have y0 := Y0.out.cell 0 _ rfl
    have ys := Y0.out.soft 0
    refine PhaseIn.one (i := 9) (by kernel_rfl) rfl (by kernel_rfl) (fun K hK => ?_)
    unfold Oper.wpIn
    refine ⟨fun _ _ => trivial, ?_⟩
    go_simp
    have tn : Turn d15.heap.size z13 (z13.setCell ⟨d15.heap.size, 0, none⟩ (.slice ha R.length hc)) := (Turn.refl _ z13).setCell (p := ⟨d15.heap.size, 0, none⟩) rfl _
    have H := hide (Y0.out.set 0 (.slice ha R.length hc) (by simp) rfl)
    replace TA := hide (TA.out.turn tn (by omega))
    replace TB := hide (TB.out.turn tn (by omega))
    replace MW := hide (MW.out.keep (Keep.of_turn tn) (fun b' h1 h2 (h3 : b' = _) => by omega))
    replace Y := hide (Y.out.turn tn (by omega))
    replace MM := hide (MM.out.keep (Keep.of_turn tn) (fun b' h1 h2 (h3 : b' = _) => by omega))
    replace G := hide (G.out.turn tn (by omega))
    replace MH := hide (MH.out.keep (Keep.of_turn tn) (fun b' h1 h2 (h3 : b' = _) => by omega))
    replace BW := hide (BW.out.trans (tn.below (by omega) BW.out.size))
    have hHeld9 : (Rec w.heap.size [.slice qa ts.length ca] (z13.setCell ⟨d15.heap.size, 0, none⟩ (.slice ha R.length hc)) ∧ Rec (w.heap.size + 1) [.int .i64 a.kd, .int .i64 a.k, .slice qx a.x.length cx, .slice qy a.y.length cy] (z13.setCell ⟨d15.heap.size, 0, none⟩ (.slice ha R.length hc))) := ⟨TA.out, TB.out⟩
    refine hK _ _ (fun _ => hHeld9) ?_
    clear hK K y0 ys hHeld Y0
    have hzz : z13.heap.size ≤ (z13.setCell ⟨d15.heap.size, 0, none⟩ (.slice ha R.length hc)).heap.size := tn.size
    clear tn
    generalize (z13.setCell ⟨d15.heap.size, 0, none⟩ (.slice ha R.length hc)) = y31 at hHeld9 BW H hzz TA TB MW Y MM G MH ⊢
    try simp only [Act.put, List.setIfInBounds_toArray, List.set]
    refine PhaseIn.takeD (i := 10) (v := ?_) [10] 16 rfl (by rfl) (by kernel_rfl) (by kernel_rfl) (by kernel_rfl) (by kernel_rfl) (by kernel_rfl) (fun _ _ _ h => h) (Or.inl ⟨by kernel_rfl, ?_⟩) hHeld9 ?_
    rotate_left
    · intro w' hSw
      (try dsimp only at hSw)
      skip
      go_simp
      first | done | with_reducible rfl
    try simp only [Act.put, List.setIfInBounds_toArray, List.set]
    refine PhaseIn.done (by kernel_rfl) ?_ _
    clear hHeld9
    clear TA TB
    obtain ⟨BG, RBG⟩ := MH.out.read
    replace RBG := hide RBG
    obtain ⟨BY, RBY⟩ := MW.out.read
    replace RBY := hide RBY
    have x0 := H.out.cell 0 _ rfl
    have y0 := Y.out.cell 0 _ rfl
    go_wp2_with fail
    refine (eqTabTab R BG BY _ _ _ RBG.out RBY.out).mono ?_
    rintro e e1 ⟨rfl, hb⟩
    clear x0 y0 RBG RBY
    replace MM := hide (MM.out.below hb)
    replace G := hide (G.out.below hb)
    replace BW := hide (BW.out.trans (hb.mono BW.out.size))
    clear hb
    clear MH H MW Y
    obtain ⟨BM, RBM⟩ := MM.out.read
    replace RBM := hide RBM
    have x0 := G.out.cell 0 _ rfl
    go_wp2_with fail
    refine (heldTabTab R 1 BM _ _ RBM.out SR.out (by omega) (by omega)).mono ?_
    rintro e e2 ⟨rfl, hb⟩
    rw [ET.out]
    clear x0 RBM BM
    replace BW := hide (BW.out.trans (hb.mono BW.out.size))
    clear hb
    clear MM G
    go_wp2
    go_ret
    exact ⟨rfl, BW.out⟩

set_option maxRecDepth 100000 in
theorem lifted (os : Os) (started : os.Started) (H : Type) (enc : TypeId × Value → H) :
    ReturnsInHanded {} Try.checked os 3 .any (Rows.fnExactTabPutSpec.pre6 enc Try.prog Try.f3 Rows.fnExactTabPutRow.domain false) (Rows.fnExactTabPutSpec.post enc Try.prog Try.f3 false true false false) := by
  refine returnsInHanded_of_change (C := Try.checked) own started (by kernel_rfl) Try.func3
    (ChangeSpec.witness6 (enc := enc) (C := Try.checked) false ⟨#[], #[.agg #[.slice none 0 0], .agg #[.int .i64 0, .int .i64 0, .slice none 0 0, .slice none 0 0]], []⟩ 8 (by kernel_rfl) (by kernel_rfl) (by kernel_rfl) (by kernel_rfl)) ?_
  intro W base args ds gs before hval0 hW hcnd hsz0
  have hval : ∀ (j : Nat) t v, Try.f3.params[j]? = some t → args[j]? = some v → Value.okWide Try.prog W .any base t v := hval0
  have hW' := hW
  obtain ⟨p, q, hA0, hV, rfl, hfz, hnd⟩ := hW
  have hA : DataW.TrodAll enc Try.prog W 0 (fun _ => true) true Try.f3.params.toList args.toList ds p := hA0
  rw [Try.params3] at hA hval
  obtain ⟨v0, vs0, d0, ds0, p0, q0, hargs, rfl, rfl, h0, r0⟩ := trodAll_cons hA
  obtain ⟨v1, vs1, d1, ds1, p1, q1, rfl, rfl, rfl, h1, r1⟩ := trodAll_cons r0
  obtain ⟨rfl, rfl, rfl⟩ := trodAll_nil r1
  obtain rfl : args = #[v0, v1] := by cases args; simp_all
  obtain ⟨rfl, rfl⟩ := trodVars_none hV
  have k0 := h0
  have lt0 : ∀ x ∈ p0, x.block < W.heap.size := by obtain ⟨m, hm⟩ := k0; exact DataW.trod_lt m _ _ _ hm
  obtain ⟨a0, rfl, _⟩ := okWide_struct Try.underlying24 (hval 0 24 v0 rfl rfl)
  have w0 : Shape.Holds Try.prog W 9 24 a0.toList := Shape.opened 9 h0
  have k1 := h1
  have lt1 : ∀ x ∈ p1, x.block < W.heap.size := by obtain ⟨m, hm⟩ := k1; exact DataW.trod_lt m _ _ _ hm
  obtain ⟨a1, rfl, _⟩ := okWide_struct Try.underlying29 (hval 1 29 v1 rfl rfl)
  have w1 : Shape.Holds Try.prog W 9 29 a1.toList := Shape.opened 9 h1
  clear hA0 hval0
  refine (walk a0 a1 W w0 w1).mono fun e W' ⟨he, hnx⟩ => ?_
  subst he
  exact ⟨_, rfl, _, _, _, [], _, [], hW', trodAll_cons_mk (shut_bool Try.underlying4 _) trodAll_mk0, (trodAll_cons_mk (Below.trod laidOut (by kernel_rfl) (of_decide_eq_true (by kernel_rfl)) k0 hnx lt0) (trodAll_cons_mk (Below.trod laidOut (by kernel_rfl) (of_decide_eq_true (by kernel_rfl)) k1 hnx lt1) trodAll_mk0)), rfl, hnx.frame _, fun h => by cases h⟩

theorem over : Rows.fnExactTabPutRow.holds Try.pinned (OpenSpec.ofChange Rows.fnExactTabPutSpec) :=
  OpenClaim.holds_of_wide 3 Try.f3 rfl rfl rfl rfl rfl rfl rfl ⟨rfl, rfl, rfl, rfl, rfl⟩ rfl rfl rfl rfl rfl (by kernel_rfl) Try.func3 (by kernel_rfl)
    (of_decide_eq_true (by kernel_rfl)) (by unfold Func.isWrapper; first | (rw [if_pos (by decide +kernel)]; kernel_rfl) | (rw [if_neg (by decide +kernel)]; exact ⟨rfl, rfl⟩))
    (fun os started H enc _ => lifted os started H enc)

theorem proved : Rows.FnExactTabPutSaid := over
#print axioms proved
end Go.Proofs.Ytagfgbkclopoeaa.fnExactTabPut
