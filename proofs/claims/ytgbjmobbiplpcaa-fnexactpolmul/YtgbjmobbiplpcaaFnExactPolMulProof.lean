/-
  At every two sums the program's PolMul answers as the specification's PolMul does, both answers, every field; it writes into no argument, and its answer owns its memory (the law FnExactPolMul returns true); no condition.
  The frame (lifted, over, proved) is written by my own program after the guide's worked texts; the walk and the lemmas ahead of it are mine.
-/
import Derived.Test.YtgbjmobbiplpcaaRows
import Derived.Test.YtgbjmobbiplpcaaShape
import Derived.Test.YtgbjmobbiplpcaaPolP
import Derived.Test.YtgbjmobbiplpcaaPhaseTw
import Derived.Test.YtgbjmobbiplpcaaPolMl
import Derived.WalkKit
import Derived.ProofKit
import Derived.OpenShut
import Derived.ShutString
import Derived.ChangeOld
import Derived.Below
import Derived.SizedLaws
namespace Go.Proofs.Ytgbjmobbiplpcaa.fnExactPolMul
open Go.ChangeShapes Go.WideShapes Go.ChangeAt Go.RowKit
open Go.ChangeMaps (open_string shut_string)
set_option linter.unusedVariables false

theorem own : ownKnob Try.prog.godebug = none := by kernel_rfl
theorem laidOut : laidOutB Try.prog = true := by kernel_rfl

open IntS Pol
theorem same_neb (b : Bool) : (b != b) = false := by cases b <;> rfl
theorem tot_le {n : Nat} : ∀ {L : List Mono}, (∀ x ∈ L, x.2.length ≤ n) → tot L ≤ L.length * n
  | [], _ => by simp [tot]
  | x :: r, h => by
    have h1 := h x (List.mem_cons_self ..)
    have h2 := tot_le (L := r) (fun y hy => h y (List.mem_cons_of_mem _ hy))
    simp only [tot, List.length_cons, Nat.succ_mul]
    omega
theorem small_fit (L : List Mono) : (fitP L).length + tot (fitP L) ≤ 1000000000 := by
  unfold fitP
  by_cases h : fitB L = true
  · rw [if_pos h]
    unfold fitB at h
    simp only [Bool.and_eq_true, decide_eq_true_eq, List.all_eq_true] at h
    have := tot_le (n := 4) (L := L) h.2
    omega
  · rw [if_neg h]
    simp [tot]
theorem tx_le {ps : List Mono} {tx : Int} (h : 1 + offs ps ps.length = tx) (hs : ps.length + tot ps ≤ 1048576) : tx ≤ 100000000000 := by
  rw [← h]
  unfold offs
  rw [List.take_length]
  omega
theorem small_r (ps qs : List Mono) : (mulP ps qs).length + tot (mulP ps qs) ≤ 1000000000 := by
  by_cases h : okP ps = true ∧ okP qs = true
  · rw [(mul_yes h.1 h.2).2]
    exact small_fit _
  · rw [(mul_no h).2]
    simp [tot]

set_option maxRecDepth 8000 in
set_option maxHeartbeats 16000000 in
theorem walk (a0 : Array Value) (a1 : Array Value) (w : World) (w0 : Shape.Holds Try.prog w 9 24 a0.toList) (w1 : Shape.Holds Try.prog w 9 24 a1.toList)  :
    Calls Try.prog 5 #[.agg a0, .agg a1] w fun e w' => e = .returned (.bool true) ∧ Below w.heap.size w w' := by
  obtain ⟨v, ps, B, rfl, hP⟩ := Pol.of_holds w0
  obtain ⟨v', qs, C, rfl, hQ⟩ := Pol.of_holds w1
  have RM := hide hP
  have RN := hide hQ
  obtain ⟨qa, ca, _, rfl, _⟩ := hP
  obtain ⟨qb, cb, _, rfl, _⟩ := hQ
  clear w0 w1
  obtain ⟨R, eR⟩ : ∃ R, mulP ps qs = R := ⟨_, rfl⟩
  have ER := hide eR
  obtain ⟨T, eT⟩ : ∃ T, mulB ps qs = T := ⟨_, rfl⟩
  have EB := hide eT
  have SR : Hid (R.length + tot R ≤ 1000000000) := by rw [← eR]; exact small_r ps qs
  clear eR eT
  obtain ⟨tt, et⟩ : ∃ tt, 1 + offs R R.length = tt := ⟨_, rfl⟩
  have tp : 0 ≤ tt := by rw [← et]; unfold offs; omega
  have ET := hide et
  clear et
  obtain ⟨tx, ex⟩ : ∃ tx, 1 + offs ps ps.length = tx := ⟨_, rfl⟩
  have tq : 0 ≤ tx := by rw [← ex]; unfold offs; omega
  have EX := hide ex
  clear ex
  obtain ⟨ty, ey⟩ : ∃ ty, tx + offs qs qs.length = ty := ⟨_, rfl⟩
  have tr : 0 ≤ ty := by rw [← ey]; unfold offs; omega
  have EY := hide ey
  clear ey
  have pt : ¬ tt < 0 := by omega
  have py : ¬ ty < 0 := by omega
  have pn : (tt != tt) = false := by simp
  have nb := same_neb T
  have TA := hide ((Rec.new w [.slice qa ps.length ca] 24).alloc (.cells #[.slice qb qs.length cb] 24))
  have TB := Rec.new (w.alloc (.cells #[.slice qa ps.length ca] 24)) [.slice qb qs.length cb] 24
  rw [show (w.alloc (.cells #[.slice qa ps.length ca] 24)).heap.size = w.heap.size + 1 by simp] at TB
  replace TB := hide TB
  have BW := hide (((Below.refl w.heap.size w).alloc (Nat.le_refl _) (.cells #[.slice qa ps.length ca] 24)).alloc (by simp) (.cells #[.slice qb qs.length cb] 24))
  go_enter Try.func5, Try.ntmps5
  go_wp2_with fail
  generalize ((w.alloc (.cells #[.slice qa ps.length ca] 24)).alloc (.cells #[.slice qb qs.length cb] 24)) = v0 at TA TB BW ⊢
  have ta0 := TA.out.cell 0 _ rfl
  go_wp2_with fail
  refine (szTrmPoly ps B _ 1048576 _ (RM.out.below BW.out) (by omega) (by omega)).mono ?_
  rintro e u0 ⟨n, rfl, n0, hs, hb⟩
  clear ta0
  replace TA := hide (TA.out.below hb)
  replace TB := hide (TB.out.below hb)
  replace BW := hide (BW.out.trans (hb.mono BW.out.size))
  clear hb
  by_cases hn : n < 0
  · clear TA TB
    go_wp2
    go_ret
    exact ⟨rfl, BW.out⟩
  have HS : Hid (SmallP ps) := show SmallP ps by have := hs (by omega); unfold SmallP; omega
  have SP : Hid (ps.length + tot ps ≤ 1048576) := show _ ≤ _ by have := hs (by omega); omega
  have n9 : n ≤ 1048576 := by have := hs (by omega); omega
  clear hs
  have tb0 := TB.out.cell 0 _ rfl
  go_wp2_with fail
  refine (szTrmPoly qs C _ n _ (RN.out.below BW.out) (by omega) (by omega)).mono ?_
  rintro e u1 ⟨n', rfl, n0', hs, hb⟩
  clear tb0
  replace TA := hide (TA.out.below hb)
  replace TB := hide (TB.out.below hb)
  replace BW := hide (BW.out.trans (hb.mono BW.out.size))
  clear hb
  by_cases hn' : n' < 0
  · clear TA TB
    go_wp2
    go_ret
    exact ⟨rfl, BW.out⟩
  have HS' : Hid (SmallP qs) := show SmallP qs by have := hs (by omega); unfold SmallP; omega
  have SQ : Hid (qs.length + tot qs ≤ 1048576) := show _ ≤ _ by have := hs (by omega); omega
  clear hs
  have lw : Hid (w.heap.size + 1 < u1.heap.size) := TB.out.lt
  have ta0 := TA.out.cell 0 _ rfl
  have tb0 := TB.out.cell 0 _ rfl
  go_wp2_with fail
  refine PhaseIn.cut (fun a W => ∃ (Z : Nat) (pa : Option Addr) (pl pc lo hi g1 g3 : Nat), a = { tmps := #[.agg #[.slice qa ps.length ca], .agg #[.slice qb qs.length cb], .pointer (some ⟨w.heap.size, 0, none⟩), .pointer (some ⟨w.heap.size + 1, 0, none⟩), .bool false, .int .i64 n', .pointer (some ⟨Z, 0, none⟩), .bool T, undef, undef, undef, undef, undef, undef, undef, undef, undef, .agg #[.slice qa ps.length ca], .int .i64 1048576, .int .i64 n, .int .i64 n, .bool (decide (n < 0)), .agg #[.slice qb qs.length cb], .int .i64 n, .int .i64 n', .int .i64 n', .bool (decide (n' < 0)), .tuple #[.agg #[.slice pa pl pc], .bool T], .agg #[.slice qa ps.length ca], .agg #[.slice (some ⟨g1, 0, none⟩) ps.length ps.length], .agg #[.slice qb qs.length cb], .agg #[.slice (some ⟨g3, 0, none⟩) qs.length qs.length], .tuple #[.agg #[.slice pa pl pc], .bool T], .agg #[.slice pa pl pc], .bool T, undef, undef, undef, undef, undef, undef, undef, undef, undef, undef, undef, undef, undef, undef, undef, undef, undef, undef, undef, undef, undef, undef, undef, undef, undef, undef, undef, undef, undef, undef, undef, undef, undef, undef, undef, undef, undef, undef, undef, undef, undef, undef, undef, undef, undef, undef, undef, undef, undef, undef, undef, undef, undef, undef, undef, undef, undef, undef, undef, undef, undef, undef, undef, undef, undef, undef, undef, undef, undef, undef, undef, undef, undef, undef, undef, undef, undef, undef, undef, undef, undef, undef, undef, undef], defers := [] } ∧ Hid (Rec w.heap.size [.slice qa ps.length ca] W) ∧ Hid (Rec (w.heap.size + 1) [.slice qb qs.length cb] W) ∧ Hid (Rec Z [.slice pa pl pc] W) ∧ Hid (WPoly W lo hi (.slice pa pl pc) R) ∧ Hid (Below w.heap.size w W) ∧ Hid (w.heap.size + 1 < Z ∧ Z < W.heap.size ∧ w.heap.size + 1 < lo ∧ hi ≤ W.heap.size ∧ (Z < lo ∨ hi ≤ Z))) ?_ ?_
  · -- the specification's
    refine PhaseIn.region (S := fun w' => w'.cell? ⟨w.heap.size, 0, none⟩ = some (.slice qa ps.length ca) ∧ w'.cell? ⟨w.heap.size + 1, 0, none⟩ = some (.slice qb qs.length cb)) 11 (by kernel_rfl) ?_
    have hHeld : u1.drew.cell? ⟨w.heap.size, 0, none⟩ = some (.slice qa ps.length ca) ∧ u1.drew.cell? ⟨w.heap.size + 1, 0, none⟩ = some (.slice qb qs.length cb) := ⟨ta0, tb0⟩
    have hb : Below u1.heap.size u1 u1.drew := (Below.refl _ _).drew
    have hzd1 := hb.size
    clear ta0 tb0
    replace TA := hide (TA.out.below hb)
    replace TB := hide (TB.out.below hb)
    replace BW := hide (BW.out.trans (hb.mono BW.out.size))
    clear hb
    generalize u1.drew = d1 at hHeld BW hzd1 TA TB ⊢
    refine PhaseIn.takeD (i := 0) (v := ?_) [0, 1, 3, 4, 5, 6, 7, 9, 10] 28 rfl (by rfl) (by kernel_rfl) (by kernel_rfl) (by kernel_rfl) (by kernel_rfl) (by kernel_rfl) (fun _ _ _ h => h) (Or.inl ⟨by kernel_rfl, ?_⟩) hHeld ?_
    rotate_left
    · intro w' hSw
      (try dsimp only at hSw)
      go_simp
      first | done | with_reducible rfl
    try simp only [Act.put, List.setIfInBounds_toArray, List.set]
    refine PhaseIn.takeD (i := 2) (v := ?_) [2, 3, 4, 5, 6, 7, 9, 10] 30 rfl (by rfl) (by kernel_rfl) (by kernel_rfl) (by kernel_rfl) (by kernel_rfl) (by kernel_rfl) (fun _ _ _ h => h) (Or.inl ⟨by kernel_rfl, ?_⟩) hHeld ?_
    rotate_left
    · intro w' hSw
      (try dsimp only at hSw)
      go_simp
      first | done | with_reducible rfl
    try simp only [Act.put, List.setIfInBounds_toArray, List.set]
    refine PhaseIn.two (i := 1) (j := 8) (by kernel_rfl) rfl rfl (by kernel_rfl) (by kernel_rfl) (fun K hK => ?_) (fun K hK => ?_)
    · -- 1
      unfold Oper.wpIn
      refine ⟨fun _ _ => trivial, ?_⟩
      go_simp
      refine ⟨rfl, (callsIn_wide.2 (toTrmPoly ps B _ _ (RM.out.below BW.out) HS.out)).mono ?_⟩
      rintro e x1 ⟨g1, rfl, M1, hb⟩
      obtain ⟨B1, R1⟩ := M1.read
      replace R1 := hide R1
      clear M1
      refine hK _ _ (fun _ => ⟨cell_below hb hHeld.1, cell_below hb hHeld.2⟩) ?_
      replace hHeld := And.intro (cell_below hb hHeld.1) (cell_below hb hHeld.2)
      have hzx1 := hb.size
      replace TA := hide (TA.out.below hb)
      replace TB := hide (TB.out.below hb)
      replace BW := hide (BW.out.trans (hb.mono BW.out.size))
      clear hb
      clear hK K
      try simp only [Act.put, List.setIfInBounds_toArray, List.set]
      refine PhaseIn.two (i := 3) (j := 8) (by kernel_rfl) rfl rfl (by kernel_rfl) (by kernel_rfl) (fun K hK => ?_) (fun K hK => ?_)
      · -- 3
        unfold Oper.wpIn
        refine ⟨fun _ _ => trivial, ?_⟩
        go_simp
        refine ⟨rfl, (callsIn_wide.2 (toTrmPoly qs C _ _ (RN.out.below BW.out) HS'.out)).mono ?_⟩
        rintro e x2 ⟨g3, rfl, M3, hb⟩
        obtain ⟨B3, R3⟩ := M3.read
        replace R3 := hide R3
        clear M3
        refine hK _ _ (fun _ => ⟨cell_below hb hHeld.1, cell_below hb hHeld.2⟩) ?_
        replace hHeld := And.intro (cell_below hb hHeld.1) (cell_below hb hHeld.2)
        have hzx2 := hb.size
        replace TA := hide (TA.out.below hb)
        replace TB := hide (TB.out.below hb)
        replace R1 := hide (R1.out.below hb)
        replace BW := hide (BW.out.trans (hb.mono BW.out.size))
        clear hb
        clear hK K
        try simp only [Act.put, List.setIfInBounds_toArray, List.set]
        refine PhaseIn.two (i := 4) (j := 8) (by kernel_rfl) rfl rfl (by kernel_rfl) (by kernel_rfl) (fun K hK => ?_) (fun K hK => ?_)
        · -- 4
          unfold Oper.wpIn
          refine ⟨fun _ _ => trivial, ?_⟩
          go_simp
          refine ⟨rfl, (callsIn_wide.2 (specMul ps qs B1 B3 _ _ _ R1.out R3.out)).mono ?_⟩
          rintro e x3 ⟨pa, pl, pc, rfl, MW0, hb⟩
          rw [ER.out] at MW0
          rw [EB.out]
          have MW := hide MW0
          clear MW0 R1 R3
          refine hK _ _ (fun _ => ⟨cell_below hb hHeld.1, cell_below hb hHeld.2⟩) ?_
          replace hHeld := And.intro (cell_below hb hHeld.1) (cell_below hb hHeld.2)
          have hzx3 := hb.size
          replace TA := hide (TA.out.below hb)
          replace TB := hide (TB.out.below hb)
          replace BW := hide (BW.out.trans (hb.mono BW.out.size))
          clear hb
          clear hK K
          try simp only [Act.put, List.setIfInBounds_toArray, List.set]
          refine PhaseIn.takeD (i := 5) (v := ?_) [5, 6, 7, 9, 10] 27 rfl (by rfl) (by kernel_rfl) (by kernel_rfl) (by kernel_rfl) (by kernel_rfl) (by kernel_rfl) (fun _ _ _ h => h) (Or.inl ⟨by kernel_rfl, ?_⟩) hHeld ?_
          rotate_left
          · intro w' hSw
            (try dsimp only at hSw)
            go_simp
            first | done | with_reducible rfl
          try simp only [Act.put, List.setIfInBounds_toArray, List.set]
          refine PhaseIn.takeD (i := 6) (v := ?_) [6, 9, 10] 33 rfl (by rfl) (by kernel_rfl) (by kernel_rfl) (by kernel_rfl) (by kernel_rfl) (by kernel_rfl) (fun _ _ _ h => h) (Or.inl ⟨by kernel_rfl, ?_⟩) hHeld ?_
          rotate_left
          · intro w' hSw
            (try dsimp only at hSw)
            go_simp
            first | done | with_reducible rfl
          try simp only [Act.put, List.setIfInBounds_toArray, List.set]
          refine PhaseIn.takeD (i := 7) (v := ?_) [7, 10] 34 rfl (by rfl) (by kernel_rfl) (by kernel_rfl) (by kernel_rfl) (by kernel_rfl) (by kernel_rfl) (fun _ _ _ h => h) (Or.inl ⟨by kernel_rfl, ?_⟩) hHeld ?_
          rotate_left
          · intro w' hSw
            (try dsimp only at hSw)
            go_simp
            first | done | with_reducible rfl
          try simp only [Act.put, List.setIfInBounds_toArray, List.set]
          refine PhaseIn.one (i := 8) (by kernel_rfl) rfl (by kernel_rfl) (fun K hK => ?_)
          unfold Oper.wpIn
          refine ⟨fun _ _ => trivial, ?_⟩
          go_simp
          refine hK _ _ (fun _ => ⟨cell_below ((Below.refl _ x3).alloc (Nat.le_refl _) (.cells #[.slice none 0 0] 28)) hHeld.1, cell_below ((Below.refl _ x3).alloc (Nat.le_refl _) (.cells #[.slice none 0 0] 28)) hHeld.2⟩) ?_
          have hb := (Below.refl _ x3).alloc (Nat.le_refl _) (.cells #[.slice none 0 0] 28)
          have Y0 := hide (Rec.new x3 [.slice none 0 0] 28)
          have hzx4 : x3.heap.size < (x3.alloc (.cells #[.slice none 0 0] 28)).heap.size := by simp
          replace hHeld := And.intro (cell_below hb hHeld.1) (cell_below hb hHeld.2)
          replace TA := hide (TA.out.below hb)
          replace TB := hide (TB.out.below hb)
          replace MW := hide (MW.out.below hb)
          replace BW := hide (BW.out.trans (hb.mono BW.out.size))
          clear hb
          generalize (x3.alloc (.cells #[.slice none 0 0] 28)) = x4 at hHeld BW Y0 hzx4 TA TB MW ⊢
          clear hK K
          try simp only [Act.put, List.setIfInBounds_toArray, List.set]
          have zl : w.heap.size + 1 < x3.heap.size := by have := lw.out; omega
          have y0 := Y0.out.cell 0 _ rfl
          have ys := Y0.out.soft 0
          refine PhaseIn.one (i := 9) (by kernel_rfl) rfl (by kernel_rfl) (fun K hK => ?_)
          unfold Oper.wpIn
          refine ⟨fun _ _ => trivial, ?_⟩
          go_simp
          have tn : Turn x3.heap.size x4 (x4.setCell ⟨x3.heap.size, 0, none⟩ (.slice pa pl pc)) := (Turn.refl _ x4).setCell (p := ⟨x3.heap.size, 0, none⟩) rfl _
          have Y := hide (Y0.out.set 0 (.slice pa pl pc) (by simp) rfl)
          replace TA := hide (TA.out.turn tn (by omega))
          replace TB := hide (TB.out.turn tn (by omega))
          replace MW := hide (MW.out.keep (Keep.of_turn tn) (fun b' h1 h2 (h3 : b' = _) => by omega))
          replace BW := hide (BW.out.trans (tn.below (by omega) BW.out.size))
          have hHeld9 : ((x4.setCell ⟨x3.heap.size, 0, none⟩ (.slice pa pl pc)).cell? ⟨w.heap.size, 0, none⟩ = some (.slice qa ps.length ca) ∧ (x4.setCell ⟨x3.heap.size, 0, none⟩ (.slice pa pl pc)).cell? ⟨w.heap.size + 1, 0, none⟩ = some (.slice qb qs.length cb)) := ⟨TA.out.cell 0 _ rfl, TB.out.cell 0 _ rfl⟩
          refine hK _ _ (fun _ => hHeld9) ?_
          clear hK K y0 ys hHeld Y0
          have hzz : x4.heap.size ≤ (x4.setCell ⟨x3.heap.size, 0, none⟩ (.slice pa pl pc)).heap.size := tn.size
          clear tn
          generalize (x4.setCell ⟨x3.heap.size, 0, none⟩ (.slice pa pl pc)) = y9 at hHeld9 BW Y hzz TA TB MW ⊢
          try simp only [Act.put, List.setIfInBounds_toArray, List.set]
          refine PhaseIn.takeD (i := 10) (v := ?_) [10] 7 rfl (by rfl) (by kernel_rfl) (by kernel_rfl) (by kernel_rfl) (by kernel_rfl) (by kernel_rfl) (fun _ _ _ h => h) (Or.inl ⟨by kernel_rfl, ?_⟩) hHeld9 ?_
          rotate_left
          · intro w' hSw
            (try dsimp only at hSw)
            go_simp
            first | done | with_reducible rfl
          try simp only [Act.put, List.setIfInBounds_toArray, List.set]
          refine PhaseIn.done (by kernel_rfl) ?_ _
          clear hHeld9
          exact ⟨x3.heap.size, pa, pl, pc, x2.heap.size, x3.heap.size, g1, g3, rfl, TA, TB, Y, MW, BW, ⟨by have := lw.out; omega, Y.out.lt, by have := lw.out; omega, by omega, by omega⟩⟩
        · -- the box
          unfold Oper.wpIn
          refine ⟨fun _ _ => trivial, ?_⟩
          go_simp
          refine hK _ _ (fun _ => ⟨cell_below ((Below.refl _ x2).alloc (Nat.le_refl _) (.cells #[.slice none 0 0] 28)) hHeld.1, cell_below ((Below.refl _ x2).alloc (Nat.le_refl _) (.cells #[.slice none 0 0] 28)) hHeld.2⟩) ?_
          have hb := (Below.refl _ x2).alloc (Nat.le_refl _) (.cells #[.slice none 0 0] 28)
          have Y0 := hide (Rec.new x2 [.slice none 0 0] 28)
          have hzx5 : x2.heap.size < (x2.alloc (.cells #[.slice none 0 0] 28)).heap.size := by simp
          replace hHeld := And.intro (cell_below hb hHeld.1) (cell_below hb hHeld.2)
          replace TA := hide (TA.out.below hb)
          replace TB := hide (TB.out.below hb)
          replace R1 := hide (R1.out.below hb)
          replace R3 := hide (R3.out.below hb)
          replace BW := hide (BW.out.trans (hb.mono BW.out.size))
          clear hb
          generalize (x2.alloc (.cells #[.slice none 0 0] 28)) = x5 at hHeld BW Y0 hzx5 TA TB R1 R3 ⊢
          clear hK K
          try simp only [Act.put, List.setIfInBounds_toArray, List.set]
          refine PhaseIn.one (i := 4) (by kernel_rfl) rfl (by kernel_rfl) (fun K hK => ?_)
          unfold Oper.wpIn
          refine ⟨fun _ _ => trivial, ?_⟩
          go_simp
          refine ⟨rfl, (callsIn_wide.2 (specMul ps qs B1 B3 _ _ _ R1.out R3.out)).mono ?_⟩
          rintro e x6 ⟨pa, pl, pc, rfl, MW0, hb⟩
          rw [ER.out] at MW0
          rw [EB.out]
          have MW := hide MW0
          clear MW0 R1 R3
          refine hK _ _ (fun _ => ⟨cell_below hb hHeld.1, cell_below hb hHeld.2⟩) ?_
          replace hHeld := And.intro (cell_below hb hHeld.1) (cell_below hb hHeld.2)
          have hzx6 := hb.size
          replace TA := hide (TA.out.below hb)
          replace TB := hide (TB.out.below hb)
          replace Y0 := hide (Y0.out.below hb)
          replace BW := hide (BW.out.trans (hb.mono BW.out.size))
          clear hb
          clear hK K
          try simp only [Act.put, List.setIfInBounds_toArray, List.set]
          refine PhaseIn.takeD (i := 5) (v := ?_) [5, 6, 7, 9, 10] 27 rfl (by rfl) (by kernel_rfl) (by kernel_rfl) (by kernel_rfl) (by kernel_rfl) (by kernel_rfl) (fun _ _ _ h => h) (Or.inl ⟨by kernel_rfl, ?_⟩) hHeld ?_
          rotate_left
          · intro w' hSw
            (try dsimp only at hSw)
            go_simp
            first | done | with_reducible rfl
          try simp only [Act.put, List.setIfInBounds_toArray, List.set]
          refine PhaseIn.takeD (i := 6) (v := ?_) [6, 9, 10] 33 rfl (by rfl) (by kernel_rfl) (by kernel_rfl) (by kernel_rfl) (by kernel_rfl) (by kernel_rfl) (fun _ _ _ h => h) (Or.inl ⟨by kernel_rfl, ?_⟩) hHeld ?_
          rotate_left
          · intro w' hSw
            (try dsimp only at hSw)
            go_simp
            first | done | with_reducible rfl
          try simp only [Act.put, List.setIfInBounds_toArray, List.set]
          refine PhaseIn.takeD (i := 7) (v := ?_) [7, 10] 34 rfl (by rfl) (by kernel_rfl) (by kernel_rfl) (by kernel_rfl) (by kernel_rfl) (by kernel_rfl) (fun _ _ _ h => h) (Or.inl ⟨by kernel_rfl, ?_⟩) hHeld ?_
          rotate_left
          · intro w' hSw
            (try dsimp only at hSw)
            go_simp
            first | done | with_reducible rfl
          try simp only [Act.put, List.setIfInBounds_toArray, List.set]
          have zl : w.heap.size + 1 < x2.heap.size := by have := lw.out; omega
          have y0 := Y0.out.cell 0 _ rfl
          have ys := Y0.out.soft 0
          refine PhaseIn.one (i := 9) (by kernel_rfl) rfl (by kernel_rfl) (fun K hK => ?_)
          unfold Oper.wpIn
          refine ⟨fun _ _ => trivial, ?_⟩
          go_simp
          have tn : Turn x2.heap.size x6 (x6.setCell ⟨x2.heap.size, 0, none⟩ (.slice pa pl pc)) := (Turn.refl _ x6).setCell (p := ⟨x2.heap.size, 0, none⟩) rfl _
          have Y := hide (Y0.out.set 0 (.slice pa pl pc) (by simp) rfl)
          replace TA := hide (TA.out.turn tn (by omega))
          replace TB := hide (TB.out.turn tn (by omega))
          replace MW := hide (MW.out.keep (Keep.of_turn tn) (fun b' h1 h2 (h3 : b' = _) => by omega))
          replace BW := hide (BW.out.trans (tn.below (by omega) BW.out.size))
          have hHeld9 : ((x6.setCell ⟨x2.heap.size, 0, none⟩ (.slice pa pl pc)).cell? ⟨w.heap.size, 0, none⟩ = some (.slice qa ps.length ca) ∧ (x6.setCell ⟨x2.heap.size, 0, none⟩ (.slice pa pl pc)).cell? ⟨w.heap.size + 1, 0, none⟩ = some (.slice qb qs.length cb)) := ⟨TA.out.cell 0 _ rfl, TB.out.cell 0 _ rfl⟩
          refine hK _ _ (fun _ => hHeld9) ?_
          clear hK K y0 ys hHeld Y0
          have hzz : x6.heap.size ≤ (x6.setCell ⟨x2.heap.size, 0, none⟩ (.slice pa pl pc)).heap.size := tn.size
          clear tn
          generalize (x6.setCell ⟨x2.heap.size, 0, none⟩ (.slice pa pl pc)) = y9 at hHeld9 BW Y hzz TA TB MW ⊢
          try simp only [Act.put, List.setIfInBounds_toArray, List.set]
          refine PhaseIn.takeD (i := 10) (v := ?_) [10] 7 rfl (by rfl) (by kernel_rfl) (by kernel_rfl) (by kernel_rfl) (by kernel_rfl) (by kernel_rfl) (fun _ _ _ h => h) (Or.inl ⟨by kernel_rfl, ?_⟩) hHeld9 ?_
          rotate_left
          · intro w' hSw
            (try dsimp only at hSw)
            go_simp
            first | done | with_reducible rfl
          try simp only [Act.put, List.setIfInBounds_toArray, List.set]
          refine PhaseIn.done (by kernel_rfl) ?_ _
          clear hHeld9
          exact ⟨x2.heap.size, pa, pl, pc, x5.heap.size, x6.heap.size, g1, g3, rfl, TA, TB, Y, MW, BW, ⟨by have := lw.out; omega, Y.out.lt, by have := lw.out; omega, by omega, by omega⟩⟩
      · -- the box
        unfold Oper.wpIn
        refine ⟨fun _ _ => trivial, ?_⟩
        go_simp
        refine hK _ _ (fun _ => ⟨cell_below ((Below.refl _ x1).alloc (Nat.le_refl _) (.cells #[.slice none 0 0] 28)) hHeld.1, cell_below ((Below.refl _ x1).alloc (Nat.le_refl _) (.cells #[.slice none 0 0] 28)) hHeld.2⟩) ?_
        have hb := (Below.refl _ x1).alloc (Nat.le_refl _) (.cells #[.slice none 0 0] 28)
        have Y0 := hide (Rec.new x1 [.slice none 0 0] 28)
        have hzx7 : x1.heap.size < (x1.alloc (.cells #[.slice none 0 0] 28)).heap.size := by simp
        replace hHeld := And.intro (cell_below hb hHeld.1) (cell_below hb hHeld.2)
        replace TA := hide (TA.out.below hb)
        replace TB := hide (TB.out.below hb)
        replace R1 := hide (R1.out.below hb)
        replace BW := hide (BW.out.trans (hb.mono BW.out.size))
        clear hb
        generalize (x1.alloc (.cells #[.slice none 0 0] 28)) = x7 at hHeld BW Y0 hzx7 TA TB R1 ⊢
        clear hK K
        try simp only [Act.put, List.setIfInBounds_toArray, List.set]
        refine PhaseIn.one (i := 3) (by kernel_rfl) rfl (by kernel_rfl) (fun K hK => ?_)
        unfold Oper.wpIn
        refine ⟨fun _ _ => trivial, ?_⟩
        go_simp
        refine ⟨rfl, (callsIn_wide.2 (toTrmPoly qs C _ _ (RN.out.below BW.out) HS'.out)).mono ?_⟩
        rintro e x8 ⟨g3, rfl, M3, hb⟩
        obtain ⟨B3, R3⟩ := M3.read
        replace R3 := hide R3
        clear M3
        refine hK _ _ (fun _ => ⟨cell_below hb hHeld.1, cell_below hb hHeld.2⟩) ?_
        replace hHeld := And.intro (cell_below hb hHeld.1) (cell_below hb hHeld.2)
        have hzx8 := hb.size
        replace TA := hide (TA.out.below hb)
        replace TB := hide (TB.out.below hb)
        replace R1 := hide (R1.out.below hb)
        replace Y0 := hide (Y0.out.below hb)
        replace BW := hide (BW.out.trans (hb.mono BW.out.size))
        clear hb
        clear hK K
        try simp only [Act.put, List.setIfInBounds_toArray, List.set]
        refine PhaseIn.one (i := 4) (by kernel_rfl) rfl (by kernel_rfl) (fun K hK => ?_)
        unfold Oper.wpIn
        refine ⟨fun _ _ => trivial, ?_⟩
        go_simp
        refine ⟨rfl, (callsIn_wide.2 (specMul ps qs B1 B3 _ _ _ R1.out R3.out)).mono ?_⟩
        rintro e x9 ⟨pa, pl, pc, rfl, MW0, hb⟩
        rw [ER.out] at MW0
        rw [EB.out]
        have MW := hide MW0
        clear MW0 R1 R3
        refine hK _ _ (fun _ => ⟨cell_below hb hHeld.1, cell_below hb hHeld.2⟩) ?_
        replace hHeld := And.intro (cell_below hb hHeld.1) (cell_below hb hHeld.2)
        have hzx9 := hb.size
        replace TA := hide (TA.out.below hb)
        replace TB := hide (TB.out.below hb)
        replace Y0 := hide (Y0.out.below hb)
        replace BW := hide (BW.out.trans (hb.mono BW.out.size))
        clear hb
        clear hK K
        try simp only [Act.put, List.setIfInBounds_toArray, List.set]
        refine PhaseIn.takeD (i := 5) (v := ?_) [5, 6, 7, 9, 10] 27 rfl (by rfl) (by kernel_rfl) (by kernel_rfl) (by kernel_rfl) (by kernel_rfl) (by kernel_rfl) (fun _ _ _ h => h) (Or.inl ⟨by kernel_rfl, ?_⟩) hHeld ?_
        rotate_left
        · intro w' hSw
          (try dsimp only at hSw)
          go_simp
          first | done | with_reducible rfl
        try simp only [Act.put, List.setIfInBounds_toArray, List.set]
        refine PhaseIn.takeD (i := 6) (v := ?_) [6, 9, 10] 33 rfl (by rfl) (by kernel_rfl) (by kernel_rfl) (by kernel_rfl) (by kernel_rfl) (by kernel_rfl) (fun _ _ _ h => h) (Or.inl ⟨by kernel_rfl, ?_⟩) hHeld ?_
        rotate_left
        · intro w' hSw
          (try dsimp only at hSw)
          go_simp
          first | done | with_reducible rfl
        try simp only [Act.put, List.setIfInBounds_toArray, List.set]
        refine PhaseIn.takeD (i := 7) (v := ?_) [7, 10] 34 rfl (by rfl) (by kernel_rfl) (by kernel_rfl) (by kernel_rfl) (by kernel_rfl) (by kernel_rfl) (fun _ _ _ h => h) (Or.inl ⟨by kernel_rfl, ?_⟩) hHeld ?_
        rotate_left
        · intro w' hSw
          (try dsimp only at hSw)
          go_simp
          first | done | with_reducible rfl
        try simp only [Act.put, List.setIfInBounds_toArray, List.set]
        have zl : w.heap.size + 1 < x1.heap.size := by have := lw.out; omega
        have y0 := Y0.out.cell 0 _ rfl
        have ys := Y0.out.soft 0
        refine PhaseIn.one (i := 9) (by kernel_rfl) rfl (by kernel_rfl) (fun K hK => ?_)
        unfold Oper.wpIn
        refine ⟨fun _ _ => trivial, ?_⟩
        go_simp
        have tn : Turn x1.heap.size x9 (x9.setCell ⟨x1.heap.size, 0, none⟩ (.slice pa pl pc)) := (Turn.refl _ x9).setCell (p := ⟨x1.heap.size, 0, none⟩) rfl _
        have Y := hide (Y0.out.set 0 (.slice pa pl pc) (by simp) rfl)
        replace TA := hide (TA.out.turn tn (by omega))
        replace TB := hide (TB.out.turn tn (by omega))
        replace MW := hide (MW.out.keep (Keep.of_turn tn) (fun b' h1 h2 (h3 : b' = _) => by omega))
        replace BW := hide (BW.out.trans (tn.below (by omega) BW.out.size))
        have hHeld9 : ((x9.setCell ⟨x1.heap.size, 0, none⟩ (.slice pa pl pc)).cell? ⟨w.heap.size, 0, none⟩ = some (.slice qa ps.length ca) ∧ (x9.setCell ⟨x1.heap.size, 0, none⟩ (.slice pa pl pc)).cell? ⟨w.heap.size + 1, 0, none⟩ = some (.slice qb qs.length cb)) := ⟨TA.out.cell 0 _ rfl, TB.out.cell 0 _ rfl⟩
        refine hK _ _ (fun _ => hHeld9) ?_
        clear hK K y0 ys hHeld Y0
        have hzz : x9.heap.size ≤ (x9.setCell ⟨x1.heap.size, 0, none⟩ (.slice pa pl pc)).heap.size := tn.size
        clear tn
        generalize (x9.setCell ⟨x1.heap.size, 0, none⟩ (.slice pa pl pc)) = y9 at hHeld9 BW Y hzz TA TB MW ⊢
        try simp only [Act.put, List.setIfInBounds_toArray, List.set]
        refine PhaseIn.takeD (i := 10) (v := ?_) [10] 7 rfl (by rfl) (by kernel_rfl) (by kernel_rfl) (by kernel_rfl) (by kernel_rfl) (by kernel_rfl) (fun _ _ _ h => h) (Or.inl ⟨by kernel_rfl, ?_⟩) hHeld9 ?_
        rotate_left
        · intro w' hSw
          (try dsimp only at hSw)
          go_simp
          first | done | with_reducible rfl
        try simp only [Act.put, List.setIfInBounds_toArray, List.set]
        refine PhaseIn.done (by kernel_rfl) ?_ _
        clear hHeld9
        exact ⟨x1.heap.size, pa, pl, pc, x8.heap.size, x9.heap.size, g1, g3, rfl, TA, TB, Y, MW, BW, ⟨by have := lw.out; omega, Y.out.lt, by have := lw.out; omega, by omega, by omega⟩⟩
    · -- the box
      unfold Oper.wpIn
      refine ⟨fun _ _ => trivial, ?_⟩
      go_simp
      refine hK _ _ (fun _ => ⟨cell_below ((Below.refl _ d1).alloc (Nat.le_refl _) (.cells #[.slice none 0 0] 28)) hHeld.1, cell_below ((Below.refl _ d1).alloc (Nat.le_refl _) (.cells #[.slice none 0 0] 28)) hHeld.2⟩) ?_
      have hb := (Below.refl _ d1).alloc (Nat.le_refl _) (.cells #[.slice none 0 0] 28)
      have Y0 := hide (Rec.new d1 [.slice none 0 0] 28)
      have hzx10 : d1.heap.size < (d1.alloc (.cells #[.slice none 0 0] 28)).heap.size := by simp
      replace hHeld := And.intro (cell_below hb hHeld.1) (cell_below hb hHeld.2)
      replace TA := hide (TA.out.below hb)
      replace TB := hide (TB.out.below hb)
      replace BW := hide (BW.out.trans (hb.mono BW.out.size))
      clear hb
      generalize (d1.alloc (.cells #[.slice none 0 0] 28)) = x10 at hHeld BW Y0 hzx10 TA TB ⊢
      clear hK K
      try simp only [Act.put, List.setIfInBounds_toArray, List.set]
      refine PhaseIn.one (i := 1) (by kernel_rfl) rfl (by kernel_rfl) (fun K hK => ?_)
      unfold Oper.wpIn
      refine ⟨fun _ _ => trivial, ?_⟩
      go_simp
      refine ⟨rfl, (callsIn_wide.2 (toTrmPoly ps B _ _ (RM.out.below BW.out) HS.out)).mono ?_⟩
      rintro e x11 ⟨g1, rfl, M1, hb⟩
      obtain ⟨B1, R1⟩ := M1.read
      replace R1 := hide R1
      clear M1
      refine hK _ _ (fun _ => ⟨cell_below hb hHeld.1, cell_below hb hHeld.2⟩) ?_
      replace hHeld := And.intro (cell_below hb hHeld.1) (cell_below hb hHeld.2)
      have hzx11 := hb.size
      replace TA := hide (TA.out.below hb)
      replace TB := hide (TB.out.below hb)
      replace Y0 := hide (Y0.out.below hb)
      replace BW := hide (BW.out.trans (hb.mono BW.out.size))
      clear hb
      clear hK K
      try simp only [Act.put, List.setIfInBounds_toArray, List.set]
      refine PhaseIn.one (i := 3) (by kernel_rfl) rfl (by kernel_rfl) (fun K hK => ?_)
      unfold Oper.wpIn
      refine ⟨fun _ _ => trivial, ?_⟩
      go_simp
      refine ⟨rfl, (callsIn_wide.2 (toTrmPoly qs C _ _ (RN.out.below BW.out) HS'.out)).mono ?_⟩
      rintro e x12 ⟨g3, rfl, M3, hb⟩
      obtain ⟨B3, R3⟩ := M3.read
      replace R3 := hide R3
      clear M3
      refine hK _ _ (fun _ => ⟨cell_below hb hHeld.1, cell_below hb hHeld.2⟩) ?_
      replace hHeld := And.intro (cell_below hb hHeld.1) (cell_below hb hHeld.2)
      have hzx12 := hb.size
      replace TA := hide (TA.out.below hb)
      replace TB := hide (TB.out.below hb)
      replace Y0 := hide (Y0.out.below hb)
      replace R1 := hide (R1.out.below hb)
      replace BW := hide (BW.out.trans (hb.mono BW.out.size))
      clear hb
      clear hK K
      try simp only [Act.put, List.setIfInBounds_toArray, List.set]
      refine PhaseIn.one (i := 4) (by kernel_rfl) rfl (by kernel_rfl) (fun K hK => ?_)
      unfold Oper.wpIn
      refine ⟨fun _ _ => trivial, ?_⟩
      go_simp
      refine ⟨rfl, (callsIn_wide.2 (specMul ps qs B1 B3 _ _ _ R1.out R3.out)).mono ?_⟩
      rintro e x13 ⟨pa, pl, pc, rfl, MW0, hb⟩
      rw [ER.out] at MW0
      rw [EB.out]
      have MW := hide MW0
      clear MW0 R1 R3
      refine hK _ _ (fun _ => ⟨cell_below hb hHeld.1, cell_below hb hHeld.2⟩) ?_
      replace hHeld := And.intro (cell_below hb hHeld.1) (cell_below hb hHeld.2)
      have hzx13 := hb.size
      replace TA := hide (TA.out.below hb)
      replace TB := hide (TB.out.below hb)
      replace Y0 := hide (Y0.out.below hb)
      replace BW := hide (BW.out.trans (hb.mono BW.out.size))
      clear hb
      clear hK K
      try simp only [Act.put, List.setIfInBounds_toArray, List.set]
      refine PhaseIn.takeD (i := 5) (v := ?_) [5, 6, 7, 9, 10] 27 rfl (by rfl) (by kernel_rfl) (by kernel_rfl) (by kernel_rfl) (by kernel_rfl) (by kernel_rfl) (fun _ _ _ h => h) (Or.inl ⟨by kernel_rfl, ?_⟩) hHeld ?_
      rotate_left
      · intro w' hSw
        (try dsimp only at hSw)
        go_simp
        first | done | with_reducible rfl
      try simp only [Act.put, List.setIfInBounds_toArray, List.set]
      refine PhaseIn.takeD (i := 6) (v := ?_) [6, 9, 10] 33 rfl (by rfl) (by kernel_rfl) (by kernel_rfl) (by kernel_rfl) (by kernel_rfl) (by kernel_rfl) (fun _ _ _ h => h) (Or.inl ⟨by kernel_rfl, ?_⟩) hHeld ?_
      rotate_left
      · intro w' hSw
        (try dsimp only at hSw)
        go_simp
        first | done | with_reducible rfl
      try simp only [Act.put, List.setIfInBounds_toArray, List.set]
      refine PhaseIn.takeD (i := 7) (v := ?_) [7, 10] 34 rfl (by rfl) (by kernel_rfl) (by kernel_rfl) (by kernel_rfl) (by kernel_rfl) (by kernel_rfl) (fun _ _ _ h => h) (Or.inl ⟨by kernel_rfl, ?_⟩) hHeld ?_
      rotate_left
      · intro w' hSw
        (try dsimp only at hSw)
        go_simp
        first | done | with_reducible rfl
      try simp only [Act.put, List.setIfInBounds_toArray, List.set]
      have zl : w.heap.size + 1 < d1.heap.size := by have := lw.out; omega
      have y0 := Y0.out.cell 0 _ rfl
      have ys := Y0.out.soft 0
      refine PhaseIn.one (i := 9) (by kernel_rfl) rfl (by kernel_rfl) (fun K hK => ?_)
      unfold Oper.wpIn
      refine ⟨fun _ _ => trivial, ?_⟩
      go_simp
      have tn : Turn d1.heap.size x13 (x13.setCell ⟨d1.heap.size, 0, none⟩ (.slice pa pl pc)) := (Turn.refl _ x13).setCell (p := ⟨d1.heap.size, 0, none⟩) rfl _
      have Y := hide (Y0.out.set 0 (.slice pa pl pc) (by simp) rfl)
      replace TA := hide (TA.out.turn tn (by omega))
      replace TB := hide (TB.out.turn tn (by omega))
      replace MW := hide (MW.out.keep (Keep.of_turn tn) (fun b' h1 h2 (h3 : b' = _) => by omega))
      replace BW := hide (BW.out.trans (tn.below (by omega) BW.out.size))
      have hHeld9 : ((x13.setCell ⟨d1.heap.size, 0, none⟩ (.slice pa pl pc)).cell? ⟨w.heap.size, 0, none⟩ = some (.slice qa ps.length ca) ∧ (x13.setCell ⟨d1.heap.size, 0, none⟩ (.slice pa pl pc)).cell? ⟨w.heap.size + 1, 0, none⟩ = some (.slice qb qs.length cb)) := ⟨TA.out.cell 0 _ rfl, TB.out.cell 0 _ rfl⟩
      refine hK _ _ (fun _ => hHeld9) ?_
      clear hK K y0 ys hHeld Y0
      have hzz : x13.heap.size ≤ (x13.setCell ⟨d1.heap.size, 0, none⟩ (.slice pa pl pc)).heap.size := tn.size
      clear tn
      generalize (x13.setCell ⟨d1.heap.size, 0, none⟩ (.slice pa pl pc)) = y9 at hHeld9 BW Y hzz TA TB MW ⊢
      try simp only [Act.put, List.setIfInBounds_toArray, List.set]
      refine PhaseIn.takeD (i := 10) (v := ?_) [10] 7 rfl (by rfl) (by kernel_rfl) (by kernel_rfl) (by kernel_rfl) (by kernel_rfl) (by kernel_rfl) (fun _ _ _ h => h) (Or.inl ⟨by kernel_rfl, ?_⟩) hHeld9 ?_
      rotate_left
      · intro w' hSw
        (try dsimp only at hSw)
        go_simp
        first | done | with_reducible rfl
      try simp only [Act.put, List.setIfInBounds_toArray, List.set]
      refine PhaseIn.done (by kernel_rfl) ?_ _
      clear hHeld9
      exact ⟨d1.heap.size, pa, pl, pc, x12.heap.size, x13.heap.size, g1, g3, rfl, TA, TB, Y, MW, BW, ⟨by have := lw.out; omega, Y.out.lt, by have := lw.out; omega, by omega, by omega⟩⟩
  clear TA TB BW ta0 tb0
  rintro a W ⟨Z, pa, pl, pc, lo, hi, g1, g3, rfl, TA, TB, Y, MW, BW, ZZ⟩
  have ta0 := TA.out.cell 0 _ rfl
  go_wp2_with fail
  refine (toTrmPoly ps B _ _ (RM.out.below BW.out) HS.out).mono ?_
  rintro e u3 ⟨gx, rfl, MX, hb⟩
  replace MX := hide MX
  have L3 : Hid (W.heap.size ≤ u3.heap.size) := hb.size
  clear ta0
  replace TA := hide (TA.out.below hb)
  replace TB := hide (TB.out.below hb)
  replace MW := hide (MW.out.below hb)
  replace Y := hide (Y.out.below hb)
  replace BW := hide (BW.out.trans (hb.mono BW.out.size))
  clear hb
  have bX : Below u3.heap.size u3 (u3.alloc (.cells #[.slice (some ⟨gx, 0, none⟩) ps.length ps.length] 28)) := (Below.refl _ _).alloc (Nat.le_refl _) _
  have X := hide (Rec.new u3 [.slice (some ⟨gx, 0, none⟩) ps.length ps.length] 28)
  have szX : Hid ((u3.alloc (.cells #[.slice (some ⟨gx, 0, none⟩) ps.length ps.length] 28)).heap.size = u3.heap.size + 1) := show _ = _ by simp
  replace BW := hide (BW.out.trans (bX.mono BW.out.size))
  replace TA := hide (TA.out.below bX)
  replace TB := hide (TB.out.below bX)
  replace MW := hide (MW.out.below bX)
  replace Y := hide (Y.out.below bX)
  replace MX := hide (MX.out.below bX)
  clear bX
  have tb0 := TB.out.cell 0 _ rfl
  go_wp2_with fail
  refine (toTrmPoly qs C _ _ (RN.out.below BW.out) HS'.out).mono ?_
  rintro e u4 ⟨gv, rfl, MV, hb⟩
  rw [szX.out] at MV
  replace MV := hide MV
  have L4 : Hid (u3.heap.size + 1 ≤ u4.heap.size) := show _ ≤ _ by have := hb.size; rw [szX.out] at this; exact this
  clear tb0
  replace TA := hide (TA.out.below hb)
  replace TB := hide (TB.out.below hb)
  replace MW := hide (MW.out.below hb)
  replace Y := hide (Y.out.below hb)
  replace MX := hide (MX.out.below hb)
  replace X := hide (X.out.below hb)
  replace BW := hide (BW.out.trans (hb.mono BW.out.size))
  clear hb
  have bX : Below u4.heap.size u4 (u4.alloc (.cells #[.slice (some ⟨gv, 0, none⟩) qs.length qs.length] 28)) := (Below.refl _ _).alloc (Nat.le_refl _) _
  have V := hide (Rec.new u4 [.slice (some ⟨gv, 0, none⟩) qs.length qs.length] 28)
  have szV : Hid ((u4.alloc (.cells #[.slice (some ⟨gv, 0, none⟩) qs.length qs.length] 28)).heap.size = u4.heap.size + 1) := show _ = _ by simp
  replace BW := hide (BW.out.trans (bX.mono BW.out.size))
  replace TA := hide (TA.out.below bX)
  replace TB := hide (TB.out.below bX)
  replace MW := hide (MW.out.below bX)
  replace Y := hide (Y.out.below bX)
  replace MX := hide (MX.out.below bX)
  replace X := hide (X.out.below bX)
  replace MV := hide (MV.out.below bX)
  clear bX
  obtain ⟨BX, RBX⟩ := MX.out.read
  replace RBX := hide RBX
  obtain ⟨BV, RBV⟩ := MV.out.read
  replace RBV := hide RBV
  have x0 := X.out.cell 0 _ rfl
  have v0 := V.out.cell 0 _ rfl
  go_wp2_with fail
  refine (implMul ps qs BX BV _ _ _ RBX.out RBV.out).mono ?_
  rintro e u5 ⟨ga, gl, gc, rfl, MG, hb⟩
  rw [ER.out, szV.out] at MG
  rw [EB.out]
  replace MG := hide MG
  have L5 : Hid (u4.heap.size + 1 ≤ u5.heap.size) := show _ ≤ _ by have := hb.size; rw [szV.out] at this; exact this
  clear x0 v0 RBX RBV
  replace TA := hide (TA.out.below hb)
  replace TB := hide (TB.out.below hb)
  replace MW := hide (MW.out.below hb)
  replace Y := hide (Y.out.below hb)
  replace MX := hide (MX.out.below hb)
  replace X := hide (X.out.below hb)
  replace MV := hide (MV.out.below hb)
  replace V := hide (V.out.below hb)
  replace BW := hide (BW.out.trans (hb.mono BW.out.size))
  clear hb
  have bX : Below u5.heap.size u5 (u5.alloc (.cells #[.slice ga gl gc] 28)) := (Below.refl _ _).alloc (Nat.le_refl _) _
  have G := hide (Rec.new u5 [.slice ga gl gc] 28)
  have szG : Hid ((u5.alloc (.cells #[.slice ga gl gc] 28)).heap.size = u5.heap.size + 1) := show _ = _ by simp
  replace BW := hide (BW.out.trans (bX.mono BW.out.size))
  replace TA := hide (TA.out.below bX)
  replace TB := hide (TB.out.below bX)
  replace MW := hide (MW.out.below bX)
  replace Y := hide (Y.out.below bX)
  replace MX := hide (MX.out.below bX)
  replace X := hide (X.out.below bX)
  replace MV := hide (MV.out.below bX)
  replace V := hide (V.out.below bX)
  replace MG := hide (MG.out.below bX)
  clear bX
  obtain ⟨BG, RBG⟩ := MG.out.read
  replace RBG := hide RBG
  obtain ⟨BY, RBY⟩ := MW.out.read
  replace RBY := hide RBY
  have x0 := G.out.cell 0 _ rfl
  have y0 := Y.out.cell 0 _ rfl
  go_wp2_with fail
  refine (eqTrmPoly R BG BY _ _ _ RBG.out RBY.out).mono ?_
  rintro e u6 ⟨rfl, hb⟩
  clear x0 y0 RBG RBY
  replace TA := hide (TA.out.below hb)
  replace TB := hide (TB.out.below hb)
  replace MW := hide (MW.out.below hb)
  replace Y := hide (Y.out.below hb)
  replace MX := hide (MX.out.below hb)
  replace X := hide (X.out.below hb)
  replace MV := hide (MV.out.below hb)
  replace V := hide (V.out.below hb)
  replace MG := hide (MG.out.below hb)
  replace G := hide (G.out.below hb)
  replace BW := hide (BW.out.trans (hb.mono BW.out.size))
  clear hb
  have x0 := X.out.cell 0 _ rfl
  have ta0 := TA.out.cell 0 _ rfl
  go_wp2_with fail
  refine (wpIn_wide (n := 0)).1 ?_
  refine PhaseIn.region (S := fun w' => w'.cell? ⟨u3.heap.size, 0, none⟩ = some (.slice (some ⟨gx, 0, none⟩) ps.length ps.length) ∧ w'.cell? ⟨w.heap.size, 0, none⟩ = some (.slice qa ps.length ca)) 5 (by kernel_rfl) ?_
  have hHeld : u6.drew.cell? ⟨u3.heap.size, 0, none⟩ = some (.slice (some ⟨gx, 0, none⟩) ps.length ps.length) ∧ u6.drew.cell? ⟨w.heap.size, 0, none⟩ = some (.slice qa ps.length ca) := ⟨x0, ta0⟩
  have hb : Below u6.heap.size u6 u6.drew := (Below.refl _ _).drew
  clear x0 ta0
  replace TA := hide (TA.out.below hb)
  replace TB := hide (TB.out.below hb)
  replace MW := hide (MW.out.below hb)
  replace Y := hide (Y.out.below hb)
  replace MX := hide (MX.out.below hb)
  replace X := hide (X.out.below hb)
  replace MV := hide (MV.out.below hb)
  replace V := hide (V.out.below hb)
  replace MG := hide (MG.out.below hb)
  replace G := hide (G.out.below hb)
  replace BW := hide (BW.out.trans (hb.mono BW.out.size))
  clear hb
  generalize u6.drew = d6 at hHeld BW TA TB MW Y MX X MV V MG G ⊢
  refine PhaseIn.takeD (i := 0) (v := ?_) [0, 3, 4] 54 rfl (by rfl) (by kernel_rfl) (by kernel_rfl) (by kernel_rfl) (by kernel_rfl) (by kernel_rfl) (fun _ _ _ h => h) (Or.inl ⟨by kernel_rfl, ?_⟩) hHeld ?_
  rotate_left
  · intro w' hSw
    (try dsimp only at hSw)
    go_simp
    first | done | with_reducible rfl
  try simp only [Act.put, List.setIfInBounds_toArray, List.set]
  refine PhaseIn.takeD (i := 1) (v := ?_) [1, 2, 3, 4] 55 rfl (by rfl) (by kernel_rfl) (by kernel_rfl) (by kernel_rfl) (by kernel_rfl) (by kernel_rfl) (fun _ _ _ h => h) (Or.inl ⟨by kernel_rfl, ?_⟩) hHeld ?_
  rotate_left
  · intro w' hSw
    (try dsimp only at hSw)
    go_simp
    first | done | with_reducible rfl
  try simp only [Act.put, List.setIfInBounds_toArray, List.set]
  refine PhaseIn.one (i := 2) (by kernel_rfl) rfl (by kernel_rfl) (fun K hK => ?_)
  unfold Oper.wpIn
  refine ⟨fun _ _ => trivial, ?_⟩
  go_simp
  refine ⟨rfl, (callsIn_wide.2 (toTrmPoly ps B _ _ (RM.out.below BW.out) HS.out)).mono ?_⟩
  rintro e u7 ⟨g6, rfl, M6, hb⟩
  have hHeld2 := And.intro (cell_below hb hHeld.1) (cell_below hb hHeld.2)
  refine hK _ _ (fun _ => hHeld2) ?_
  obtain ⟨B6, R6⟩ := M6.read
  replace R6 := hide R6
  clear hK K M6 hHeld
  replace TA := hide (TA.out.below hb)
  replace TB := hide (TB.out.below hb)
  replace MW := hide (MW.out.below hb)
  replace Y := hide (Y.out.below hb)
  replace MX := hide (MX.out.below hb)
  replace X := hide (X.out.below hb)
  replace MV := hide (MV.out.below hb)
  replace V := hide (V.out.below hb)
  replace MG := hide (MG.out.below hb)
  replace G := hide (G.out.below hb)
  replace BW := hide (BW.out.trans (hb.mono BW.out.size))
  clear hb
  obtain ⟨BX, RBX⟩ := MX.out.read
  replace RBX := hide RBX
  try simp only [Act.put, List.setIfInBounds_toArray, List.set]
  refine PhaseIn.one (i := 3) (by kernel_rfl) rfl (by kernel_rfl) (fun K hK => ?_)
  unfold Oper.wpIn
  refine ⟨fun _ _ => trivial, ?_⟩
  go_simp
  refine ⟨rfl, (callsIn_wide.2 (eqTrmPoly ps BX B6 _ _ _ RBX.out R6.out)).mono ?_⟩
  rintro e u8 ⟨rfl, hb⟩
  have hHeld := And.intro (cell_below hb hHeld2.1) (cell_below hb hHeld2.2)
  refine hK _ _ (fun _ => hHeld) ?_
  clear hK K R6 RBX hHeld2
  replace TA := hide (TA.out.below hb)
  replace TB := hide (TB.out.below hb)
  replace MW := hide (MW.out.below hb)
  replace Y := hide (Y.out.below hb)
  replace MX := hide (MX.out.below hb)
  replace X := hide (X.out.below hb)
  replace MV := hide (MV.out.below hb)
  replace V := hide (V.out.below hb)
  replace MG := hide (MG.out.below hb)
  replace G := hide (G.out.below hb)
  replace BW := hide (BW.out.trans (hb.mono BW.out.size))
  clear hb
  try simp only [Act.put, List.setIfInBounds_toArray, List.set]
  refine PhaseIn.takeD (i := 4) (v := ?_) [4] 58 rfl (by rfl) (by kernel_rfl) (by kernel_rfl) (by kernel_rfl) (by kernel_rfl) (by kernel_rfl) (fun _ _ _ h => h) (Or.inl ⟨by kernel_rfl, ?_⟩) hHeld ?_
  rotate_left
  · intro w' hSw
    (try dsimp only at hSw)
    go_simp
    first | done | with_reducible rfl
  try simp only [Act.put, List.setIfInBounds_toArray, List.set]
  refine PhaseIn.done (by kernel_rfl) ?_ _
  clear hHeld
  have x0 := V.out.cell 0 _ rfl
  have ta0 := TB.out.cell 0 _ rfl
  go_wp2_with fail
  refine (wpIn_wide (n := 0)).1 ?_
  refine PhaseIn.region (S := fun w' => w'.cell? ⟨u4.heap.size, 0, none⟩ = some (.slice (some ⟨gv, 0, none⟩) qs.length qs.length) ∧ w'.cell? ⟨w.heap.size + 1, 0, none⟩ = some (.slice qb qs.length cb)) 5 (by kernel_rfl) ?_
  have hHeld : u8.drew.cell? ⟨u4.heap.size, 0, none⟩ = some (.slice (some ⟨gv, 0, none⟩) qs.length qs.length) ∧ u8.drew.cell? ⟨w.heap.size + 1, 0, none⟩ = some (.slice qb qs.length cb) := ⟨x0, ta0⟩
  have hb : Below u8.heap.size u8 u8.drew := (Below.refl _ _).drew
  clear x0 ta0
  replace TA := hide (TA.out.below hb)
  replace TB := hide (TB.out.below hb)
  replace MW := hide (MW.out.below hb)
  replace Y := hide (Y.out.below hb)
  replace MX := hide (MX.out.below hb)
  replace X := hide (X.out.below hb)
  replace MV := hide (MV.out.below hb)
  replace V := hide (V.out.below hb)
  replace MG := hide (MG.out.below hb)
  replace G := hide (G.out.below hb)
  replace BW := hide (BW.out.trans (hb.mono BW.out.size))
  clear hb
  generalize u8.drew = d8 at hHeld BW TA TB MW Y MX X MV V MG G ⊢
  refine PhaseIn.takeD (i := 0) (v := ?_) [0, 3, 4] 59 rfl (by rfl) (by kernel_rfl) (by kernel_rfl) (by kernel_rfl) (by kernel_rfl) (by kernel_rfl) (fun _ _ _ h => h) (Or.inl ⟨by kernel_rfl, ?_⟩) hHeld ?_
  rotate_left
  · intro w' hSw
    (try dsimp only at hSw)
    go_simp
    first | done | with_reducible rfl
  try simp only [Act.put, List.setIfInBounds_toArray, List.set]
  refine PhaseIn.takeD (i := 1) (v := ?_) [1, 2, 3, 4] 60 rfl (by rfl) (by kernel_rfl) (by kernel_rfl) (by kernel_rfl) (by kernel_rfl) (by kernel_rfl) (fun _ _ _ h => h) (Or.inl ⟨by kernel_rfl, ?_⟩) hHeld ?_
  rotate_left
  · intro w' hSw
    (try dsimp only at hSw)
    go_simp
    first | done | with_reducible rfl
  try simp only [Act.put, List.setIfInBounds_toArray, List.set]
  refine PhaseIn.one (i := 2) (by kernel_rfl) rfl (by kernel_rfl) (fun K hK => ?_)
  unfold Oper.wpIn
  refine ⟨fun _ _ => trivial, ?_⟩
  go_simp
  refine ⟨rfl, (callsIn_wide.2 (toTrmPoly qs C _ _ (RN.out.below BW.out) HS'.out)).mono ?_⟩
  rintro e u9 ⟨g6, rfl, M6, hb⟩
  have hHeld2 := And.intro (cell_below hb hHeld.1) (cell_below hb hHeld.2)
  refine hK _ _ (fun _ => hHeld2) ?_
  obtain ⟨B6, R6⟩ := M6.read
  replace R6 := hide R6
  clear hK K M6 hHeld
  replace TA := hide (TA.out.below hb)
  replace TB := hide (TB.out.below hb)
  replace MW := hide (MW.out.below hb)
  replace Y := hide (Y.out.below hb)
  replace MX := hide (MX.out.below hb)
  replace X := hide (X.out.below hb)
  replace MV := hide (MV.out.below hb)
  replace V := hide (V.out.below hb)
  replace MG := hide (MG.out.below hb)
  replace G := hide (G.out.below hb)
  replace BW := hide (BW.out.trans (hb.mono BW.out.size))
  clear hb
  obtain ⟨BX, RBX⟩ := MV.out.read
  replace RBX := hide RBX
  try simp only [Act.put, List.setIfInBounds_toArray, List.set]
  refine PhaseIn.one (i := 3) (by kernel_rfl) rfl (by kernel_rfl) (fun K hK => ?_)
  unfold Oper.wpIn
  refine ⟨fun _ _ => trivial, ?_⟩
  go_simp
  refine ⟨rfl, (callsIn_wide.2 (eqTrmPoly qs BX B6 _ _ _ RBX.out R6.out)).mono ?_⟩
  rintro e u10 ⟨rfl, hb⟩
  have hHeld := And.intro (cell_below hb hHeld2.1) (cell_below hb hHeld2.2)
  refine hK _ _ (fun _ => hHeld) ?_
  clear hK K R6 RBX hHeld2
  replace TA := hide (TA.out.below hb)
  replace TB := hide (TB.out.below hb)
  replace MW := hide (MW.out.below hb)
  replace Y := hide (Y.out.below hb)
  replace MX := hide (MX.out.below hb)
  replace X := hide (X.out.below hb)
  replace MV := hide (MV.out.below hb)
  replace V := hide (V.out.below hb)
  replace MG := hide (MG.out.below hb)
  replace G := hide (G.out.below hb)
  replace BW := hide (BW.out.trans (hb.mono BW.out.size))
  clear hb
  try simp only [Act.put, List.setIfInBounds_toArray, List.set]
  refine PhaseIn.takeD (i := 4) (v := ?_) [4] 63 rfl (by rfl) (by kernel_rfl) (by kernel_rfl) (by kernel_rfl) (by kernel_rfl) (by kernel_rfl) (fun _ _ _ h => h) (Or.inl ⟨by kernel_rfl, ?_⟩) hHeld ?_
  rotate_left
  · intro w' hSw
    (try dsimp only at hSw)
    go_simp
    first | done | with_reducible rfl
  try simp only [Act.put, List.setIfInBounds_toArray, List.set]
  refine PhaseIn.done (by kernel_rfl) ?_ _
  clear hHeld
  have x0 := X.out.cell 0 _ rfl
  go_wp2_with fail
  refine (markTrmPoly ps 1 _ _ _ _ MX.out (by have := SP.out; omega) (by omega) (by omega)).mono ?_
  rintro e u11 ⟨rfl, MM, hk⟩
  rw [EX.out]
  have l0 := ZZ.out
  have l3 := L3.out
  have l4 := L4.out
  have l5 := L5.out
  clear x0 MX
  replace MW := hide (MW.out.keep hk (fun b h1 h2 h3 => by omega))
  replace MV := hide (MV.out.keep hk (fun b h1 h2 h3 => by omega))
  replace MG := hide (MG.out.keep hk (fun b h1 h2 h3 => by omega))
  replace TA := hide (TA.out.keep hk (by omega))
  replace TB := hide (TB.out.keep hk (by omega))
  replace Y := hide (Y.out.keep hk (by omega))
  replace X := hide (X.out.keep hk (by omega))
  replace V := hide (V.out.keep hk (by omega))
  replace G := hide (G.out.keep hk (by omega))
  replace BW := hide (BW.out.trans (hk.below BW.out.size (fun k h1 h2 => by omega)))
  clear MM X
  clear hk l0 l3 l4 l5
  have bx : tx ≤ 100000000000 := tx_le EX.out SP.out
  have x0 := V.out.cell 0 _ rfl
  go_wp2_with fail
  refine (markTrmPoly qs tx _ _ _ _ MV.out (by have := SQ.out; omega) (by omega) (by omega)).mono ?_
  rintro e u12 ⟨rfl, MM, hk⟩
  rw [EY.out]
  have l0 := ZZ.out
  have l3 := L3.out
  have l4 := L4.out
  have l5 := L5.out
  clear x0 MV
  replace MW := hide (MW.out.keep hk (fun b h1 h2 h3 => by omega))
  replace MG := hide (MG.out.keep hk (fun b h1 h2 h3 => by omega))
  replace TA := hide (TA.out.keep hk (by omega))
  replace TB := hide (TB.out.keep hk (by omega))
  replace Y := hide (Y.out.keep hk (by omega))
  replace V := hide (V.out.keep hk (by omega))
  replace G := hide (G.out.keep hk (by omega))
  replace BW := hide (BW.out.trans (hk.below BW.out.size (fun k h1 h2 => by omega)))
  clear MM V
  clear hk l0 l3 l4 l5
  obtain ⟨BG, RBG⟩ := MG.out.read
  replace RBG := hide RBG
  obtain ⟨BY, RBY⟩ := MW.out.read
  replace RBY := hide RBY
  have x0 := G.out.cell 0 _ rfl
  have y0 := Y.out.cell 0 _ rfl
  go_wp2_with fail
  refine (eqTrmPoly R BG BY _ _ _ RBG.out RBY.out).mono ?_
  rintro e u13 ⟨rfl, hb⟩
  clear x0 y0 RBG RBY
  replace TA := hide (TA.out.below hb)
  replace TB := hide (TB.out.below hb)
  replace MW := hide (MW.out.below hb)
  replace Y := hide (Y.out.below hb)
  replace MG := hide (MG.out.below hb)
  replace G := hide (G.out.below hb)
  replace BW := hide (BW.out.trans (hb.mono BW.out.size))
  clear hb
  have x0 := G.out.cell 0 _ rfl
  go_wp2_with fail
  refine (markTrmPoly R 1 _ _ _ _ MG.out SR.out (by omega) (by omega)).mono ?_
  rintro e u14 ⟨rfl, MM, hk⟩
  rw [ET.out]
  have l0 := ZZ.out
  have l3 := L3.out
  have l4 := L4.out
  have l5 := L5.out
  clear x0 MG
  replace MW := hide (MW.out.keep hk (fun b h1 h2 h3 => by omega))
  replace TA := hide (TA.out.keep hk (by omega))
  replace TB := hide (TB.out.keep hk (by omega))
  replace Y := hide (Y.out.keep hk (by omega))
  replace G := hide (G.out.keep hk (by omega))
  replace BW := hide (BW.out.trans (hk.below BW.out.size (fun k h1 h2 => by omega)))
  replace MM := hide MM
  clear hk l0 l3 l4 l5
  obtain ⟨BM, RBM⟩ := MM.out.read
  replace RBM := hide RBM
  have x0 := G.out.cell 0 _ rfl
  go_wp2_with fail
  refine (heldTrmPoly R 1 BM _ _ RBM.out SR.out (by omega) (by omega)).mono ?_
  rintro e u15 ⟨rfl, hb⟩
  rw [ET.out]
  clear x0 RBM BM
  replace TA := hide (TA.out.below hb)
  replace TB := hide (TB.out.below hb)
  replace MW := hide (MW.out.below hb)
  replace Y := hide (Y.out.below hb)
  replace MM := hide (MM.out.below hb)
  replace G := hide (G.out.below hb)
  replace BW := hide (BW.out.trans (hb.mono BW.out.size))
  clear hb
  have ta0 := TA.out.cell 0 _ rfl
  have tb0 := TB.out.cell 0 _ rfl
  have yl := Y.out.lt
  have gl_ := G.out.lt
  have tl := TB.out.lt
  have l0 := ZZ.out
  have l3 := L3.out
  have l4 := L4.out
  have l5 := L5.out
  have hW : W.heap.size ≤ u15.heap.size := by omega
  replace lw := hide tl
  go_wp2_with fail
  refine (wpIn_wide (n := 0)).1 ?_
  refine PhaseIn.region (S := fun w' => w'.cell? ⟨w.heap.size, 0, none⟩ = some (.slice qa ps.length ca) ∧ w'.cell? ⟨w.heap.size + 1, 0, none⟩ = some (.slice qb qs.length cb)) 11 (by kernel_rfl) ?_
  have hHeld : u15.drew.cell? ⟨w.heap.size, 0, none⟩ = some (.slice qa ps.length ca) ∧ u15.drew.cell? ⟨w.heap.size + 1, 0, none⟩ = some (.slice qb qs.length cb) := ⟨ta0, tb0⟩
  have hb : Below u15.heap.size u15 u15.drew := (Below.refl _ _).drew
  have hzd15 := hb.size
  clear ta0 tb0
  replace TA := hide (TA.out.below hb)
  replace TB := hide (TB.out.below hb)
  replace MW := hide (MW.out.below hb)
  replace Y := hide (Y.out.below hb)
  replace MM := hide (MM.out.below hb)
  replace G := hide (G.out.below hb)
  replace BW := hide (BW.out.trans (hb.mono BW.out.size))
  clear hb
  generalize u15.drew = d15 at hHeld BW hzd15 TA TB MW Y MM G ⊢
  refine PhaseIn.takeD (i := 0) (v := ?_) [0, 1, 3, 4, 5, 6, 7, 9, 10] 95 rfl (by rfl) (by kernel_rfl) (by kernel_rfl) (by kernel_rfl) (by kernel_rfl) (by kernel_rfl) (fun _ _ _ h => h) (Or.inl ⟨by kernel_rfl, ?_⟩) hHeld ?_
  rotate_left
  · intro w' hSw
    (try dsimp only at hSw)
    go_simp
    first | done | with_reducible rfl
  try simp only [Act.put, List.setIfInBounds_toArray, List.set]
  refine PhaseIn.takeD (i := 2) (v := ?_) [2, 3, 4, 5, 6, 7, 9, 10] 97 rfl (by rfl) (by kernel_rfl) (by kernel_rfl) (by kernel_rfl) (by kernel_rfl) (by kernel_rfl) (fun _ _ _ h => h) (Or.inl ⟨by kernel_rfl, ?_⟩) hHeld ?_
  rotate_left
  · intro w' hSw
    (try dsimp only at hSw)
    go_simp
    first | done | with_reducible rfl
  try simp only [Act.put, List.setIfInBounds_toArray, List.set]
  refine PhaseIn.two (i := 1) (j := 8) (by kernel_rfl) rfl rfl (by kernel_rfl) (by kernel_rfl) (fun K hK => ?_) (fun K hK => ?_)
  · -- 1
    unfold Oper.wpIn
    refine ⟨fun _ _ => trivial, ?_⟩
    go_simp
    refine ⟨rfl, (callsIn_wide.2 (toTrmPoly ps B _ _ (RM.out.below BW.out) HS.out)).mono ?_⟩
    rintro e z1 ⟨g1, rfl, M1, hb⟩
    obtain ⟨B1, R1⟩ := M1.read
    replace R1 := hide R1
    clear M1
    refine hK _ _ (fun _ => ⟨cell_below hb hHeld.1, cell_below hb hHeld.2⟩) ?_
    replace hHeld := And.intro (cell_below hb hHeld.1) (cell_below hb hHeld.2)
    have hzz1 := hb.size
    replace TA := hide (TA.out.below hb)
    replace TB := hide (TB.out.below hb)
    replace MW := hide (MW.out.below hb)
    replace Y := hide (Y.out.below hb)
    replace MM := hide (MM.out.below hb)
    replace G := hide (G.out.below hb)
    replace BW := hide (BW.out.trans (hb.mono BW.out.size))
    clear hb
    clear hK K
    try simp only [Act.put, List.setIfInBounds_toArray, List.set]
    refine PhaseIn.two (i := 3) (j := 8) (by kernel_rfl) rfl rfl (by kernel_rfl) (by kernel_rfl) (fun K hK => ?_) (fun K hK => ?_)
    · -- 3
      unfold Oper.wpIn
      refine ⟨fun _ _ => trivial, ?_⟩
      go_simp
      refine ⟨rfl, (callsIn_wide.2 (toTrmPoly qs C _ _ (RN.out.below BW.out) HS'.out)).mono ?_⟩
      rintro e z2 ⟨g3, rfl, M3, hb⟩
      obtain ⟨B3, R3⟩ := M3.read
      replace R3 := hide R3
      clear M3
      refine hK _ _ (fun _ => ⟨cell_below hb hHeld.1, cell_below hb hHeld.2⟩) ?_
      replace hHeld := And.intro (cell_below hb hHeld.1) (cell_below hb hHeld.2)
      have hzz2 := hb.size
      replace TA := hide (TA.out.below hb)
      replace TB := hide (TB.out.below hb)
      replace MW := hide (MW.out.below hb)
      replace Y := hide (Y.out.below hb)
      replace MM := hide (MM.out.below hb)
      replace G := hide (G.out.below hb)
      replace R1 := hide (R1.out.below hb)
      replace BW := hide (BW.out.trans (hb.mono BW.out.size))
      clear hb
      clear hK K
      try simp only [Act.put, List.setIfInBounds_toArray, List.set]
      refine PhaseIn.two (i := 4) (j := 8) (by kernel_rfl) rfl rfl (by kernel_rfl) (by kernel_rfl) (fun K hK => ?_) (fun K hK => ?_)
      · -- 4
        unfold Oper.wpIn
        refine ⟨fun _ _ => trivial, ?_⟩
        go_simp
        refine ⟨rfl, (callsIn_wide.2 (implMul ps qs B1 B3 _ _ _ R1.out R3.out)).mono ?_⟩
        rintro e z3 ⟨ha, hl, hc, rfl, MW0, hb⟩
        rw [ER.out] at MW0
        rw [EB.out]
        have MH := hide MW0
        clear MW0 R1 R3
        refine hK _ _ (fun _ => ⟨cell_below hb hHeld.1, cell_below hb hHeld.2⟩) ?_
        replace hHeld := And.intro (cell_below hb hHeld.1) (cell_below hb hHeld.2)
        have hzz3 := hb.size
        replace TA := hide (TA.out.below hb)
        replace TB := hide (TB.out.below hb)
        replace MW := hide (MW.out.below hb)
        replace Y := hide (Y.out.below hb)
        replace MM := hide (MM.out.below hb)
        replace G := hide (G.out.below hb)
        replace BW := hide (BW.out.trans (hb.mono BW.out.size))
        clear hb
        clear hK K
        try simp only [Act.put, List.setIfInBounds_toArray, List.set]
        refine PhaseIn.takeD (i := 5) (v := ?_) [5, 6, 7, 9, 10] 94 rfl (by rfl) (by kernel_rfl) (by kernel_rfl) (by kernel_rfl) (by kernel_rfl) (by kernel_rfl) (fun _ _ _ h => h) (Or.inl ⟨by kernel_rfl, ?_⟩) hHeld ?_
        rotate_left
        · intro w' hSw
          (try dsimp only at hSw)
          go_simp
          first | done | with_reducible rfl
        try simp only [Act.put, List.setIfInBounds_toArray, List.set]
        refine PhaseIn.takeD (i := 6) (v := ?_) [6, 9, 10] 100 rfl (by rfl) (by kernel_rfl) (by kernel_rfl) (by kernel_rfl) (by kernel_rfl) (by kernel_rfl) (fun _ _ _ h => h) (Or.inl ⟨by kernel_rfl, ?_⟩) hHeld ?_
        rotate_left
        · intro w' hSw
          (try dsimp only at hSw)
          go_simp
          first | done | with_reducible rfl
        try simp only [Act.put, List.setIfInBounds_toArray, List.set]
        refine PhaseIn.takeD (i := 7) (v := ?_) [7, 10] 101 rfl (by rfl) (by kernel_rfl) (by kernel_rfl) (by kernel_rfl) (by kernel_rfl) (by kernel_rfl) (fun _ _ _ h => h) (Or.inl ⟨by kernel_rfl, ?_⟩) hHeld ?_
        rotate_left
        · intro w' hSw
          (try dsimp only at hSw)
          go_simp
          first | done | with_reducible rfl
        try simp only [Act.put, List.setIfInBounds_toArray, List.set]
        refine PhaseIn.one (i := 8) (by kernel_rfl) rfl (by kernel_rfl) (fun K hK => ?_)
        unfold Oper.wpIn
        refine ⟨fun _ _ => trivial, ?_⟩
        go_simp
        refine hK _ _ (fun _ => ⟨cell_below ((Below.refl _ z3).alloc (Nat.le_refl _) (.cells #[.slice none 0 0] 28)) hHeld.1, cell_below ((Below.refl _ z3).alloc (Nat.le_refl _) (.cells #[.slice none 0 0] 28)) hHeld.2⟩) ?_
        have hb := (Below.refl _ z3).alloc (Nat.le_refl _) (.cells #[.slice none 0 0] 28)
        have Y0 := hide (Rec.new z3 [.slice none 0 0] 28)
        have hzz4 : z3.heap.size < (z3.alloc (.cells #[.slice none 0 0] 28)).heap.size := by simp
        replace hHeld := And.intro (cell_below hb hHeld.1) (cell_below hb hHeld.2)
        replace TA := hide (TA.out.below hb)
        replace TB := hide (TB.out.below hb)
        replace MW := hide (MW.out.below hb)
        replace Y := hide (Y.out.below hb)
        replace MM := hide (MM.out.below hb)
        replace G := hide (G.out.below hb)
        replace MH := hide (MH.out.below hb)
        replace BW := hide (BW.out.trans (hb.mono BW.out.size))
        clear hb
        generalize (z3.alloc (.cells #[.slice none 0 0] 28)) = z4 at hHeld BW Y0 hzz4 TA TB MW Y MM G MH ⊢
        clear hK K
        try simp only [Act.put, List.setIfInBounds_toArray, List.set]
        have zl : w.heap.size + 1 < z3.heap.size := by have := lw.out; omega
        have y0 := Y0.out.cell 0 _ rfl
        have ys := Y0.out.soft 0
        refine PhaseIn.one (i := 9) (by kernel_rfl) rfl (by kernel_rfl) (fun K hK => ?_)
        unfold Oper.wpIn
        refine ⟨fun _ _ => trivial, ?_⟩
        go_simp
        have tn : Turn z3.heap.size z4 (z4.setCell ⟨z3.heap.size, 0, none⟩ (.slice ha hl hc)) := (Turn.refl _ z4).setCell (p := ⟨z3.heap.size, 0, none⟩) rfl _
        have H := hide (Y0.out.set 0 (.slice ha hl hc) (by simp) rfl)
        replace TA := hide (TA.out.turn tn (by omega))
        replace TB := hide (TB.out.turn tn (by omega))
        replace MW := hide (MW.out.keep (Keep.of_turn tn) (fun b' h1 h2 (h3 : b' = _) => by omega))
        replace Y := hide (Y.out.turn tn (by omega))
        replace MM := hide (MM.out.keep (Keep.of_turn tn) (fun b' h1 h2 (h3 : b' = _) => by omega))
        replace G := hide (G.out.turn tn (by omega))
        replace MH := hide (MH.out.keep (Keep.of_turn tn) (fun b' h1 h2 (h3 : b' = _) => by omega))
        replace BW := hide (BW.out.trans (tn.below (by omega) BW.out.size))
        have hHeld9 : ((z4.setCell ⟨z3.heap.size, 0, none⟩ (.slice ha hl hc)).cell? ⟨w.heap.size, 0, none⟩ = some (.slice qa ps.length ca) ∧ (z4.setCell ⟨z3.heap.size, 0, none⟩ (.slice ha hl hc)).cell? ⟨w.heap.size + 1, 0, none⟩ = some (.slice qb qs.length cb)) := ⟨TA.out.cell 0 _ rfl, TB.out.cell 0 _ rfl⟩
        refine hK _ _ (fun _ => hHeld9) ?_
        clear hK K y0 ys hHeld Y0
        have hzz : z4.heap.size ≤ (z4.setCell ⟨z3.heap.size, 0, none⟩ (.slice ha hl hc)).heap.size := tn.size
        clear tn
        generalize (z4.setCell ⟨z3.heap.size, 0, none⟩ (.slice ha hl hc)) = y31 at hHeld9 BW H hzz TA TB MW Y MM G MH ⊢
        try simp only [Act.put, List.setIfInBounds_toArray, List.set]
        refine PhaseIn.takeD (i := 10) (v := ?_) [10] 16 rfl (by rfl) (by kernel_rfl) (by kernel_rfl) (by kernel_rfl) (by kernel_rfl) (by kernel_rfl) (fun _ _ _ h => h) (Or.inl ⟨by kernel_rfl, ?_⟩) hHeld9 ?_
        rotate_left
        · intro w' hSw
          (try dsimp only at hSw)
          go_simp
          first | done | with_reducible rfl
        try simp only [Act.put, List.setIfInBounds_toArray, List.set]
        refine PhaseIn.done (by kernel_rfl) ?_ _
        clear hHeld9
        clear TA TB
        obtain ⟨BG, RBG⟩ := MH.out.read
        replace RBG := hide RBG
        obtain ⟨BY, RBY⟩ := MW.out.read
        replace RBY := hide RBY
        have x0 := H.out.cell 0 _ rfl
        have y0 := Y.out.cell 0 _ rfl
        go_wp2_with fail
        refine (eqTrmPoly R BG BY _ _ _ RBG.out RBY.out).mono ?_
        rintro e e1 ⟨rfl, hb⟩
        clear x0 y0 RBG RBY
        replace MM := hide (MM.out.below hb)
        replace G := hide (G.out.below hb)
        replace BW := hide (BW.out.trans (hb.mono BW.out.size))
        clear hb
        clear MH H MW Y
        obtain ⟨BM, RBM⟩ := MM.out.read
        replace RBM := hide RBM
        have x0 := G.out.cell 0 _ rfl
        go_wp2_with fail
        refine (heldTrmPoly R 1 BM _ _ RBM.out SR.out (by omega) (by omega)).mono ?_
        rintro e e2 ⟨rfl, hb⟩
        rw [ET.out]
        clear x0 RBM BM
        replace BW := hide (BW.out.trans (hb.mono BW.out.size))
        clear hb
        clear MM G
        go_wp2
        go_ret
        exact ⟨rfl, BW.out⟩
      · -- the box
        unfold Oper.wpIn
        refine ⟨fun _ _ => trivial, ?_⟩
        go_simp
        refine hK _ _ (fun _ => ⟨cell_below ((Below.refl _ z2).alloc (Nat.le_refl _) (.cells #[.slice none 0 0] 28)) hHeld.1, cell_below ((Below.refl _ z2).alloc (Nat.le_refl _) (.cells #[.slice none 0 0] 28)) hHeld.2⟩) ?_
        have hb := (Below.refl _ z2).alloc (Nat.le_refl _) (.cells #[.slice none 0 0] 28)
        have Y0 := hide (Rec.new z2 [.slice none 0 0] 28)
        have hzz5 : z2.heap.size < (z2.alloc (.cells #[.slice none 0 0] 28)).heap.size := by simp
        replace hHeld := And.intro (cell_below hb hHeld.1) (cell_below hb hHeld.2)
        replace TA := hide (TA.out.below hb)
        replace TB := hide (TB.out.below hb)
        replace MW := hide (MW.out.below hb)
        replace Y := hide (Y.out.below hb)
        replace MM := hide (MM.out.below hb)
        replace G := hide (G.out.below hb)
        replace R1 := hide (R1.out.below hb)
        replace R3 := hide (R3.out.below hb)
        replace BW := hide (BW.out.trans (hb.mono BW.out.size))
        clear hb
        generalize (z2.alloc (.cells #[.slice none 0 0] 28)) = z5 at hHeld BW Y0 hzz5 TA TB MW Y MM G R1 R3 ⊢
        clear hK K
        try simp only [Act.put, List.setIfInBounds_toArray, List.set]
        refine PhaseIn.one (i := 4) (by kernel_rfl) rfl (by kernel_rfl) (fun K hK => ?_)
        unfold Oper.wpIn
        refine ⟨fun _ _ => trivial, ?_⟩
        go_simp
        refine ⟨rfl, (callsIn_wide.2 (implMul ps qs B1 B3 _ _ _ R1.out R3.out)).mono ?_⟩
        rintro e z6 ⟨ha, hl, hc, rfl, MW0, hb⟩
        rw [ER.out] at MW0
        rw [EB.out]
        have MH := hide MW0
        clear MW0 R1 R3
        refine hK _ _ (fun _ => ⟨cell_below hb hHeld.1, cell_below hb hHeld.2⟩) ?_
        replace hHeld := And.intro (cell_below hb hHeld.1) (cell_below hb hHeld.2)
        have hzz6 := hb.size
        replace TA := hide (TA.out.below hb)
        replace TB := hide (TB.out.below hb)
        replace MW := hide (MW.out.below hb)
        replace Y := hide (Y.out.below hb)
        replace MM := hide (MM.out.below hb)
        replace G := hide (G.out.below hb)
        replace Y0 := hide (Y0.out.below hb)
        replace BW := hide (BW.out.trans (hb.mono BW.out.size))
        clear hb
        clear hK K
        try simp only [Act.put, List.setIfInBounds_toArray, List.set]
        refine PhaseIn.takeD (i := 5) (v := ?_) [5, 6, 7, 9, 10] 94 rfl (by rfl) (by kernel_rfl) (by kernel_rfl) (by kernel_rfl) (by kernel_rfl) (by kernel_rfl) (fun _ _ _ h => h) (Or.inl ⟨by kernel_rfl, ?_⟩) hHeld ?_
        rotate_left
        · intro w' hSw
          (try dsimp only at hSw)
          go_simp
          first | done | with_reducible rfl
        try simp only [Act.put, List.setIfInBounds_toArray, List.set]
        refine PhaseIn.takeD (i := 6) (v := ?_) [6, 9, 10] 100 rfl (by rfl) (by kernel_rfl) (by kernel_rfl) (by kernel_rfl) (by kernel_rfl) (by kernel_rfl) (fun _ _ _ h => h) (Or.inl ⟨by kernel_rfl, ?_⟩) hHeld ?_
        rotate_left
        · intro w' hSw
          (try dsimp only at hSw)
          go_simp
          first | done | with_reducible rfl
        try simp only [Act.put, List.setIfInBounds_toArray, List.set]
        refine PhaseIn.takeD (i := 7) (v := ?_) [7, 10] 101 rfl (by rfl) (by kernel_rfl) (by kernel_rfl) (by kernel_rfl) (by kernel_rfl) (by kernel_rfl) (fun _ _ _ h => h) (Or.inl ⟨by kernel_rfl, ?_⟩) hHeld ?_
        rotate_left
        · intro w' hSw
          (try dsimp only at hSw)
          go_simp
          first | done | with_reducible rfl
        try simp only [Act.put, List.setIfInBounds_toArray, List.set]
        have zl : w.heap.size + 1 < z2.heap.size := by have := lw.out; omega
        have y0 := Y0.out.cell 0 _ rfl
        have ys := Y0.out.soft 0
        refine PhaseIn.one (i := 9) (by kernel_rfl) rfl (by kernel_rfl) (fun K hK => ?_)
        unfold Oper.wpIn
        refine ⟨fun _ _ => trivial, ?_⟩
        go_simp
        have tn : Turn z2.heap.size z6 (z6.setCell ⟨z2.heap.size, 0, none⟩ (.slice ha hl hc)) := (Turn.refl _ z6).setCell (p := ⟨z2.heap.size, 0, none⟩) rfl _
        have H := hide (Y0.out.set 0 (.slice ha hl hc) (by simp) rfl)
        replace TA := hide (TA.out.turn tn (by omega))
        replace TB := hide (TB.out.turn tn (by omega))
        replace MW := hide (MW.out.keep (Keep.of_turn tn) (fun b' h1 h2 (h3 : b' = _) => by omega))
        replace Y := hide (Y.out.turn tn (by omega))
        replace MM := hide (MM.out.keep (Keep.of_turn tn) (fun b' h1 h2 (h3 : b' = _) => by omega))
        replace G := hide (G.out.turn tn (by omega))
        replace MH := hide (MH.out.keep (Keep.of_turn tn) (fun b' h1 h2 (h3 : b' = _) => by omega))
        replace BW := hide (BW.out.trans (tn.below (by omega) BW.out.size))
        have hHeld9 : ((z6.setCell ⟨z2.heap.size, 0, none⟩ (.slice ha hl hc)).cell? ⟨w.heap.size, 0, none⟩ = some (.slice qa ps.length ca) ∧ (z6.setCell ⟨z2.heap.size, 0, none⟩ (.slice ha hl hc)).cell? ⟨w.heap.size + 1, 0, none⟩ = some (.slice qb qs.length cb)) := ⟨TA.out.cell 0 _ rfl, TB.out.cell 0 _ rfl⟩
        refine hK _ _ (fun _ => hHeld9) ?_
        clear hK K y0 ys hHeld Y0
        have hzz : z6.heap.size ≤ (z6.setCell ⟨z2.heap.size, 0, none⟩ (.slice ha hl hc)).heap.size := tn.size
        clear tn
        generalize (z6.setCell ⟨z2.heap.size, 0, none⟩ (.slice ha hl hc)) = y31 at hHeld9 BW H hzz TA TB MW Y MM G MH ⊢
        try simp only [Act.put, List.setIfInBounds_toArray, List.set]
        refine PhaseIn.takeD (i := 10) (v := ?_) [10] 16 rfl (by rfl) (by kernel_rfl) (by kernel_rfl) (by kernel_rfl) (by kernel_rfl) (by kernel_rfl) (fun _ _ _ h => h) (Or.inl ⟨by kernel_rfl, ?_⟩) hHeld9 ?_
        rotate_left
        · intro w' hSw
          (try dsimp only at hSw)
          go_simp
          first | done | with_reducible rfl
        try simp only [Act.put, List.setIfInBounds_toArray, List.set]
        refine PhaseIn.done (by kernel_rfl) ?_ _
        clear hHeld9
        clear TA TB
        obtain ⟨BG, RBG⟩ := MH.out.read
        replace RBG := hide RBG
        obtain ⟨BY, RBY⟩ := MW.out.read
        replace RBY := hide RBY
        have x0 := H.out.cell 0 _ rfl
        have y0 := Y.out.cell 0 _ rfl
        go_wp2_with fail
        refine (eqTrmPoly R BG BY _ _ _ RBG.out RBY.out).mono ?_
        rintro e e1 ⟨rfl, hb⟩
        clear x0 y0 RBG RBY
        replace MM := hide (MM.out.below hb)
        replace G := hide (G.out.below hb)
        replace BW := hide (BW.out.trans (hb.mono BW.out.size))
        clear hb
        clear MH H MW Y
        obtain ⟨BM, RBM⟩ := MM.out.read
        replace RBM := hide RBM
        have x0 := G.out.cell 0 _ rfl
        go_wp2_with fail
        refine (heldTrmPoly R 1 BM _ _ RBM.out SR.out (by omega) (by omega)).mono ?_
        rintro e e2 ⟨rfl, hb⟩
        rw [ET.out]
        clear x0 RBM BM
        replace BW := hide (BW.out.trans (hb.mono BW.out.size))
        clear hb
        clear MM G
        go_wp2
        go_ret
        exact ⟨rfl, BW.out⟩
    · -- the box
      unfold Oper.wpIn
      refine ⟨fun _ _ => trivial, ?_⟩
      go_simp
      refine hK _ _ (fun _ => ⟨cell_below ((Below.refl _ z1).alloc (Nat.le_refl _) (.cells #[.slice none 0 0] 28)) hHeld.1, cell_below ((Below.refl _ z1).alloc (Nat.le_refl _) (.cells #[.slice none 0 0] 28)) hHeld.2⟩) ?_
      have hb := (Below.refl _ z1).alloc (Nat.le_refl _) (.cells #[.slice none 0 0] 28)
      have Y0 := hide (Rec.new z1 [.slice none 0 0] 28)
      have hzz7 : z1.heap.size < (z1.alloc (.cells #[.slice none 0 0] 28)).heap.size := by simp
      replace hHeld := And.intro (cell_below hb hHeld.1) (cell_below hb hHeld.2)
      replace TA := hide (TA.out.below hb)
      replace TB := hide (TB.out.below hb)
      replace MW := hide (MW.out.below hb)
      replace Y := hide (Y.out.below hb)
      replace MM := hide (MM.out.below hb)
      replace G := hide (G.out.below hb)
      replace R1 := hide (R1.out.below hb)
      replace BW := hide (BW.out.trans (hb.mono BW.out.size))
      clear hb
      generalize (z1.alloc (.cells #[.slice none 0 0] 28)) = z7 at hHeld BW Y0 hzz7 TA TB MW Y MM G R1 ⊢
      clear hK K
      try simp only [Act.put, List.setIfInBounds_toArray, List.set]
      refine PhaseIn.one (i := 3) (by kernel_rfl) rfl (by kernel_rfl) (fun K hK => ?_)
      unfold Oper.wpIn
      refine ⟨fun _ _ => trivial, ?_⟩
      go_simp
      refine ⟨rfl, (callsIn_wide.2 (toTrmPoly qs C _ _ (RN.out.below BW.out) HS'.out)).mono ?_⟩
      rintro e z8 ⟨g3, rfl, M3, hb⟩
      obtain ⟨B3, R3⟩ := M3.read
      replace R3 := hide R3
      clear M3
      refine hK _ _ (fun _ => ⟨cell_below hb hHeld.1, cell_below hb hHeld.2⟩) ?_
      replace hHeld := And.intro (cell_below hb hHeld.1) (cell_below hb hHeld.2)
      have hzz8 := hb.size
      replace TA := hide (TA.out.below hb)
      replace TB := hide (TB.out.below hb)
      replace MW := hide (MW.out.below hb)
      replace Y := hide (Y.out.below hb)
      replace MM := hide (MM.out.below hb)
      replace G := hide (G.out.below hb)
      replace R1 := hide (R1.out.below hb)
      replace Y0 := hide (Y0.out.below hb)
      replace BW := hide (BW.out.trans (hb.mono BW.out.size))
      clear hb
      clear hK K
      try simp only [Act.put, List.setIfInBounds_toArray, List.set]
      refine PhaseIn.one (i := 4) (by kernel_rfl) rfl (by kernel_rfl) (fun K hK => ?_)
      unfold Oper.wpIn
      refine ⟨fun _ _ => trivial, ?_⟩
      go_simp
      refine ⟨rfl, (callsIn_wide.2 (implMul ps qs B1 B3 _ _ _ R1.out R3.out)).mono ?_⟩
      rintro e z9 ⟨ha, hl, hc, rfl, MW0, hb⟩
      rw [ER.out] at MW0
      rw [EB.out]
      have MH := hide MW0
      clear MW0 R1 R3
      refine hK _ _ (fun _ => ⟨cell_below hb hHeld.1, cell_below hb hHeld.2⟩) ?_
      replace hHeld := And.intro (cell_below hb hHeld.1) (cell_below hb hHeld.2)
      have hzz9 := hb.size
      replace TA := hide (TA.out.below hb)
      replace TB := hide (TB.out.below hb)
      replace MW := hide (MW.out.below hb)
      replace Y := hide (Y.out.below hb)
      replace MM := hide (MM.out.below hb)
      replace G := hide (G.out.below hb)
      replace Y0 := hide (Y0.out.below hb)
      replace BW := hide (BW.out.trans (hb.mono BW.out.size))
      clear hb
      clear hK K
      try simp only [Act.put, List.setIfInBounds_toArray, List.set]
      refine PhaseIn.takeD (i := 5) (v := ?_) [5, 6, 7, 9, 10] 94 rfl (by rfl) (by kernel_rfl) (by kernel_rfl) (by kernel_rfl) (by kernel_rfl) (by kernel_rfl) (fun _ _ _ h => h) (Or.inl ⟨by kernel_rfl, ?_⟩) hHeld ?_
      rotate_left
      · intro w' hSw
        (try dsimp only at hSw)
        go_simp
        first | done | with_reducible rfl
      try simp only [Act.put, List.setIfInBounds_toArray, List.set]
      refine PhaseIn.takeD (i := 6) (v := ?_) [6, 9, 10] 100 rfl (by rfl) (by kernel_rfl) (by kernel_rfl) (by kernel_rfl) (by kernel_rfl) (by kernel_rfl) (fun _ _ _ h => h) (Or.inl ⟨by kernel_rfl, ?_⟩) hHeld ?_
      rotate_left
      · intro w' hSw
        (try dsimp only at hSw)
        go_simp
        first | done | with_reducible rfl
      try simp only [Act.put, List.setIfInBounds_toArray, List.set]
      refine PhaseIn.takeD (i := 7) (v := ?_) [7, 10] 101 rfl (by rfl) (by kernel_rfl) (by kernel_rfl) (by kernel_rfl) (by kernel_rfl) (by kernel_rfl) (fun _ _ _ h => h) (Or.inl ⟨by kernel_rfl, ?_⟩) hHeld ?_
      rotate_left
      · intro w' hSw
        (try dsimp only at hSw)
        go_simp
        first | done | with_reducible rfl
      try simp only [Act.put, List.setIfInBounds_toArray, List.set]
      have zl : w.heap.size + 1 < z1.heap.size := by have := lw.out; omega
      have y0 := Y0.out.cell 0 _ rfl
      have ys := Y0.out.soft 0
      refine PhaseIn.one (i := 9) (by kernel_rfl) rfl (by kernel_rfl) (fun K hK => ?_)
      unfold Oper.wpIn
      refine ⟨fun _ _ => trivial, ?_⟩
      go_simp
      have tn : Turn z1.heap.size z9 (z9.setCell ⟨z1.heap.size, 0, none⟩ (.slice ha hl hc)) := (Turn.refl _ z9).setCell (p := ⟨z1.heap.size, 0, none⟩) rfl _
      have H := hide (Y0.out.set 0 (.slice ha hl hc) (by simp) rfl)
      replace TA := hide (TA.out.turn tn (by omega))
      replace TB := hide (TB.out.turn tn (by omega))
      replace MW := hide (MW.out.keep (Keep.of_turn tn) (fun b' h1 h2 (h3 : b' = _) => by omega))
      replace Y := hide (Y.out.turn tn (by omega))
      replace MM := hide (MM.out.keep (Keep.of_turn tn) (fun b' h1 h2 (h3 : b' = _) => by omega))
      replace G := hide (G.out.turn tn (by omega))
      replace MH := hide (MH.out.keep (Keep.of_turn tn) (fun b' h1 h2 (h3 : b' = _) => by omega))
      replace BW := hide (BW.out.trans (tn.below (by omega) BW.out.size))
      have hHeld9 : ((z9.setCell ⟨z1.heap.size, 0, none⟩ (.slice ha hl hc)).cell? ⟨w.heap.size, 0, none⟩ = some (.slice qa ps.length ca) ∧ (z9.setCell ⟨z1.heap.size, 0, none⟩ (.slice ha hl hc)).cell? ⟨w.heap.size + 1, 0, none⟩ = some (.slice qb qs.length cb)) := ⟨TA.out.cell 0 _ rfl, TB.out.cell 0 _ rfl⟩
      refine hK _ _ (fun _ => hHeld9) ?_
      clear hK K y0 ys hHeld Y0
      have hzz : z9.heap.size ≤ (z9.setCell ⟨z1.heap.size, 0, none⟩ (.slice ha hl hc)).heap.size := tn.size
      clear tn
      generalize (z9.setCell ⟨z1.heap.size, 0, none⟩ (.slice ha hl hc)) = y31 at hHeld9 BW H hzz TA TB MW Y MM G MH ⊢
      try simp only [Act.put, List.setIfInBounds_toArray, List.set]
      refine PhaseIn.takeD (i := 10) (v := ?_) [10] 16 rfl (by rfl) (by kernel_rfl) (by kernel_rfl) (by kernel_rfl) (by kernel_rfl) (by kernel_rfl) (fun _ _ _ h => h) (Or.inl ⟨by kernel_rfl, ?_⟩) hHeld9 ?_
      rotate_left
      · intro w' hSw
        (try dsimp only at hSw)
        go_simp
        first | done | with_reducible rfl
      try simp only [Act.put, List.setIfInBounds_toArray, List.set]
      refine PhaseIn.done (by kernel_rfl) ?_ _
      clear hHeld9
      clear TA TB
      obtain ⟨BG, RBG⟩ := MH.out.read
      replace RBG := hide RBG
      obtain ⟨BY, RBY⟩ := MW.out.read
      replace RBY := hide RBY
      have x0 := H.out.cell 0 _ rfl
      have y0 := Y.out.cell 0 _ rfl
      go_wp2_with fail
      refine (eqTrmPoly R BG BY _ _ _ RBG.out RBY.out).mono ?_
      rintro e e1 ⟨rfl, hb⟩
      clear x0 y0 RBG RBY
      replace MM := hide (MM.out.below hb)
      replace G := hide (G.out.below hb)
      replace BW := hide (BW.out.trans (hb.mono BW.out.size))
      clear hb
      clear MH H MW Y
      obtain ⟨BM, RBM⟩ := MM.out.read
      replace RBM := hide RBM
      have x0 := G.out.cell 0 _ rfl
      go_wp2_with fail
      refine (heldTrmPoly R 1 BM _ _ RBM.out SR.out (by omega) (by omega)).mono ?_
      rintro e e2 ⟨rfl, hb⟩
      rw [ET.out]
      clear x0 RBM BM
      replace BW := hide (BW.out.trans (hb.mono BW.out.size))
      clear hb
      clear MM G
      go_wp2
      go_ret
      exact ⟨rfl, BW.out⟩
  · -- the box
    unfold Oper.wpIn
    refine ⟨fun _ _ => trivial, ?_⟩
    go_simp
    refine hK _ _ (fun _ => ⟨cell_below ((Below.refl _ d15).alloc (Nat.le_refl _) (.cells #[.slice none 0 0] 28)) hHeld.1, cell_below ((Below.refl _ d15).alloc (Nat.le_refl _) (.cells #[.slice none 0 0] 28)) hHeld.2⟩) ?_
    have hb := (Below.refl _ d15).alloc (Nat.le_refl _) (.cells #[.slice none 0 0] 28)
    have Y0 := hide (Rec.new d15 [.slice none 0 0] 28)
    have hzz10 : d15.heap.size < (d15.alloc (.cells #[.slice none 0 0] 28)).heap.size := by simp
    replace hHeld := And.intro (cell_below hb hHeld.1) (cell_below hb hHeld.2)
    replace TA := hide (TA.out.below hb)
    replace TB := hide (TB.out.below hb)
    replace MW := hide (MW.out.below hb)
    replace Y := hide (Y.out.below hb)
    replace MM := hide (MM.out.below hb)
    replace G := hide (G.out.below hb)
    replace BW := hide (BW.out.trans (hb.mono BW.out.size))
    clear hb
    generalize (d15.alloc (.cells #[.slice none 0 0] 28)) = z10 at hHeld BW Y0 hzz10 TA TB MW Y MM G ⊢
    clear hK K
    try simp only [Act.put, List.setIfInBounds_toArray, List.set]
    refine PhaseIn.one (i := 1) (by kernel_rfl) rfl (by kernel_rfl) (fun K hK => ?_)
    unfold Oper.wpIn
    refine ⟨fun _ _ => trivial, ?_⟩
    go_simp
    refine ⟨rfl, (callsIn_wide.2 (toTrmPoly ps B _ _ (RM.out.below BW.out) HS.out)).mono ?_⟩
    rintro e z11 ⟨g1, rfl, M1, hb⟩
    obtain ⟨B1, R1⟩ := M1.read
    replace R1 := hide R1
    clear M1
    refine hK _ _ (fun _ => ⟨cell_below hb hHeld.1, cell_below hb hHeld.2⟩) ?_
    replace hHeld := And.intro (cell_below hb hHeld.1) (cell_below hb hHeld.2)
    have hzz11 := hb.size
    replace TA := hide (TA.out.below hb)
    replace TB := hide (TB.out.below hb)
    replace MW := hide (MW.out.below hb)
    replace Y := hide (Y.out.below hb)
    replace MM := hide (MM.out.below hb)
    replace G := hide (G.out.below hb)
    replace Y0 := hide (Y0.out.below hb)
    replace BW := hide (BW.out.trans (hb.mono BW.out.size))
    clear hb
    clear hK K
    try simp only [Act.put, List.setIfInBounds_toArray, List.set]
    refine PhaseIn.one (i := 3) (by kernel_rfl) rfl (by kernel_rfl) (fun K hK => ?_)
    unfold Oper.wpIn
    refine ⟨fun _ _ => trivial, ?_⟩
    go_simp
    refine ⟨rfl, (callsIn_wide.2 (toTrmPoly qs C _ _ (RN.out.below BW.out) HS'.out)).mono ?_⟩
    rintro e z12 ⟨g3, rfl, M3, hb⟩
    obtain ⟨B3, R3⟩ := M3.read
    replace R3 := hide R3
    clear M3
    refine hK _ _ (fun _ => ⟨cell_below hb hHeld.1, cell_below hb hHeld.2⟩) ?_
    replace hHeld := And.intro (cell_below hb hHeld.1) (cell_below hb hHeld.2)
    have hzz12 := hb.size
    replace TA := hide (TA.out.below hb)
    replace TB := hide (TB.out.below hb)
    replace MW := hide (MW.out.below hb)
    replace Y := hide (Y.out.below hb)
    replace MM := hide (MM.out.below hb)
    replace G := hide (G.out.below hb)
    replace Y0 := hide (Y0.out.below hb)
    replace R1 := hide (R1.out.below hb)
    replace BW := hide (BW.out.trans (hb.mono BW.out.size))
    clear hb
    clear hK K
    try simp only [Act.put, List.setIfInBounds_toArray, List.set]
    refine PhaseIn.one (i := 4) (by kernel_rfl) rfl (by kernel_rfl) (fun K hK => ?_)
    unfold Oper.wpIn
    refine ⟨fun _ _ => trivial, ?_⟩
    go_simp
    refine ⟨rfl, (callsIn_wide.2 (implMul ps qs B1 B3 _ _ _ R1.out R3.out)).mono ?_⟩
    rintro e z13 ⟨ha, hl, hc, rfl, MW0, hb⟩
    rw [ER.out] at MW0
    rw [EB.out]
    have MH := hide MW0
    clear MW0 R1 R3
    refine hK _ _ (fun _ => ⟨cell_below hb hHeld.1, cell_below hb hHeld.2⟩) ?_
    replace hHeld := And.intro (cell_below hb hHeld.1) (cell_below hb hHeld.2)
    have hzz13 := hb.size
    replace TA := hide (TA.out.below hb)
    replace TB := hide (TB.out.below hb)
    replace MW := hide (MW.out.below hb)
    replace Y := hide (Y.out.below hb)
    replace MM := hide (MM.out.below hb)
    replace G := hide (G.out.below hb)
    replace Y0 := hide (Y0.out.below hb)
    replace BW := hide (BW.out.trans (hb.mono BW.out.size))
    clear hb
    clear hK K
    try simp only [Act.put, List.setIfInBounds_toArray, List.set]
    refine PhaseIn.takeD (i := 5) (v := ?_) [5, 6, 7, 9, 10] 94 rfl (by rfl) (by kernel_rfl) (by kernel_rfl) (by kernel_rfl) (by kernel_rfl) (by kernel_rfl) (fun _ _ _ h => h) (Or.inl ⟨by kernel_rfl, ?_⟩) hHeld ?_
    rotate_left
    · intro w' hSw
      (try dsimp only at hSw)
      go_simp
      first | done | with_reducible rfl
    try simp only [Act.put, List.setIfInBounds_toArray, List.set]
    refine PhaseIn.takeD (i := 6) (v := ?_) [6, 9, 10] 100 rfl (by rfl) (by kernel_rfl) (by kernel_rfl) (by kernel_rfl) (by kernel_rfl) (by kernel_rfl) (fun _ _ _ h => h) (Or.inl ⟨by kernel_rfl, ?_⟩) hHeld ?_
    rotate_left
    · intro w' hSw
      (try dsimp only at hSw)
      go_simp
      first | done | with_reducible rfl
    try simp only [Act.put, List.setIfInBounds_toArray, List.set]
    refine PhaseIn.takeD (i := 7) (v := ?_) [7, 10] 101 rfl (by rfl) (by kernel_rfl) (by kernel_rfl) (by kernel_rfl) (by kernel_rfl) (by kernel_rfl) (fun _ _ _ h => h) (Or.inl ⟨by kernel_rfl, ?_⟩) hHeld ?_
    rotate_left
    · intro w' hSw
      (try dsimp only at hSw)
      go_simp
      first | done | with_reducible rfl
    try simp only [Act.put, List.setIfInBounds_toArray, List.set]
    have zl : w.heap.size + 1 < d15.heap.size := by have := lw.out; omega
    have y0 := Y0.out.cell 0 _ rfl
    have ys := Y0.out.soft 0
    refine PhaseIn.one (i := 9) (by kernel_rfl) rfl (by kernel_rfl) (fun K hK => ?_)
    unfold Oper.wpIn
    refine ⟨fun _ _ => trivial, ?_⟩
    go_simp
    have tn : Turn d15.heap.size z13 (z13.setCell ⟨d15.heap.size, 0, none⟩ (.slice ha hl hc)) := (Turn.refl _ z13).setCell (p := ⟨d15.heap.size, 0, none⟩) rfl _
    have H := hide (Y0.out.set 0 (.slice ha hl hc) (by simp) rfl)
    replace TA := hide (TA.out.turn tn (by omega))
    replace TB := hide (TB.out.turn tn (by omega))
    replace MW := hide (MW.out.keep (Keep.of_turn tn) (fun b' h1 h2 (h3 : b' = _) => by omega))
    replace Y := hide (Y.out.turn tn (by omega))
    replace MM := hide (MM.out.keep (Keep.of_turn tn) (fun b' h1 h2 (h3 : b' = _) => by omega))
    replace G := hide (G.out.turn tn (by omega))
    replace MH := hide (MH.out.keep (Keep.of_turn tn) (fun b' h1 h2 (h3 : b' = _) => by omega))
    replace BW := hide (BW.out.trans (tn.below (by omega) BW.out.size))
    have hHeld9 : ((z13.setCell ⟨d15.heap.size, 0, none⟩ (.slice ha hl hc)).cell? ⟨w.heap.size, 0, none⟩ = some (.slice qa ps.length ca) ∧ (z13.setCell ⟨d15.heap.size, 0, none⟩ (.slice ha hl hc)).cell? ⟨w.heap.size + 1, 0, none⟩ = some (.slice qb qs.length cb)) := ⟨TA.out.cell 0 _ rfl, TB.out.cell 0 _ rfl⟩
    refine hK _ _ (fun _ => hHeld9) ?_
    clear hK K y0 ys hHeld Y0
    have hzz : z13.heap.size ≤ (z13.setCell ⟨d15.heap.size, 0, none⟩ (.slice ha hl hc)).heap.size := tn.size
    clear tn
    generalize (z13.setCell ⟨d15.heap.size, 0, none⟩ (.slice ha hl hc)) = y31 at hHeld9 BW H hzz TA TB MW Y MM G MH ⊢
    try simp only [Act.put, List.setIfInBounds_toArray, List.set]
    refine PhaseIn.takeD (i := 10) (v := ?_) [10] 16 rfl (by rfl) (by kernel_rfl) (by kernel_rfl) (by kernel_rfl) (by kernel_rfl) (by kernel_rfl) (fun _ _ _ h => h) (Or.inl ⟨by kernel_rfl, ?_⟩) hHeld9 ?_
    rotate_left
    · intro w' hSw
      (try dsimp only at hSw)
      go_simp
      first | done | with_reducible rfl
    try simp only [Act.put, List.setIfInBounds_toArray, List.set]
    refine PhaseIn.done (by kernel_rfl) ?_ _
    clear hHeld9
    clear TA TB
    obtain ⟨BG, RBG⟩ := MH.out.read
    replace RBG := hide RBG
    obtain ⟨BY, RBY⟩ := MW.out.read
    replace RBY := hide RBY
    have x0 := H.out.cell 0 _ rfl
    have y0 := Y.out.cell 0 _ rfl
    go_wp2_with fail
    refine (eqTrmPoly R BG BY _ _ _ RBG.out RBY.out).mono ?_
    rintro e e1 ⟨rfl, hb⟩
    clear x0 y0 RBG RBY
    replace MM := hide (MM.out.below hb)
    replace G := hide (G.out.below hb)
    replace BW := hide (BW.out.trans (hb.mono BW.out.size))
    clear hb
    clear MH H MW Y
    obtain ⟨BM, RBM⟩ := MM.out.read
    replace RBM := hide RBM
    have x0 := G.out.cell 0 _ rfl
    go_wp2_with fail
    refine (heldTrmPoly R 1 BM _ _ RBM.out SR.out (by omega) (by omega)).mono ?_
    rintro e e2 ⟨rfl, hb⟩
    rw [ET.out]
    clear x0 RBM BM
    replace BW := hide (BW.out.trans (hb.mono BW.out.size))
    clear hb
    clear MM G
    go_wp2
    go_ret
    exact ⟨rfl, BW.out⟩

set_option maxRecDepth 100000 in
theorem lifted (os : Os) (started : os.Started) (H : Type) (enc : TypeId × Value → H) :
    ReturnsInHanded {} Try.checked os 5 .any (Rows.fnExactPolMulSpec.pre6 enc Try.prog Try.f5 Rows.fnExactPolMulRow.domain false) (Rows.fnExactPolMulSpec.post enc Try.prog Try.f5 false true false false) := by
  refine returnsInHanded_of_change (C := Try.checked) own started (by kernel_rfl) Try.func5
    (ChangeSpec.witness6 (enc := enc) (C := Try.checked) false ⟨#[], #[.agg #[.slice none 0 0], .agg #[.slice none 0 0]], []⟩ 8 (by kernel_rfl) (by kernel_rfl) (by kernel_rfl) (by kernel_rfl)) ?_
  intro W base args ds gs before hval0 hW hcnd hsz0
  have hval : ∀ (j : Nat) t v, Try.f5.params[j]? = some t → args[j]? = some v → Value.okWide Try.prog W .any base t v := hval0
  have hW' := hW
  obtain ⟨p, q, hA0, hV, rfl, hfz, hnd⟩ := hW
  have hA : DataW.TrodAll enc Try.prog W 0 (fun _ => true) true Try.f5.params.toList args.toList ds p := hA0
  rw [Try.params5] at hA hval
  obtain ⟨v0, vs0, d0, ds0, p0, q0, hargs, rfl, rfl, h0, r0⟩ := trodAll_cons hA
  obtain ⟨v1, vs1, d1, ds1, p1, q1, rfl, rfl, rfl, h1, r1⟩ := trodAll_cons r0
  obtain ⟨rfl, rfl, rfl⟩ := trodAll_nil r1
  obtain rfl : args = #[v0, v1] := by cases args; simp_all
  obtain ⟨rfl, rfl⟩ := trodVars_none hV
  have k0 := h0
  have lt0 : ∀ x ∈ p0, x.block < W.heap.size := by obtain ⟨m, hm⟩ := k0; exact DataW.trod_lt m _ _ _ hm
  obtain ⟨a0, rfl, _⟩ := okWide_struct Try.underlying24 (hval 0 24 v0 rfl rfl)
  have w0 : Shape.Holds Try.prog W 9 24 a0.toList := Shape.opened 9 h0
  have k1 := h1
  have lt1 : ∀ x ∈ p1, x.block < W.heap.size := by obtain ⟨m, hm⟩ := k1; exact DataW.trod_lt m _ _ _ hm
  obtain ⟨a1, rfl, _⟩ := okWide_struct Try.underlying24 (hval 1 24 v1 rfl rfl)
  have w1 : Shape.Holds Try.prog W 9 24 a1.toList := Shape.opened 9 h1
  clear hA0 hval0
  refine (walk a0 a1 W w0 w1).mono fun e W' ⟨he, hnx⟩ => ?_
  subst he
  exact ⟨_, rfl, _, _, _, [], _, [], hW', trodAll_cons_mk (shut_bool Try.underlying4 _) trodAll_mk0, (trodAll_cons_mk (Below.trod laidOut (by kernel_rfl) (of_decide_eq_true (by kernel_rfl)) k0 hnx lt0) (trodAll_cons_mk (Below.trod laidOut (by kernel_rfl) (of_decide_eq_true (by kernel_rfl)) k1 hnx lt1) trodAll_mk0)), rfl, hnx.frame _, fun h => by cases h⟩

theorem over : Rows.fnExactPolMulRow.holds Try.pinned (OpenSpec.ofChange Rows.fnExactPolMulSpec) :=
  OpenClaim.holds_of_wide 5 Try.f5 rfl rfl rfl rfl rfl rfl rfl ⟨rfl, rfl, rfl, rfl, rfl⟩ rfl rfl rfl rfl rfl (by kernel_rfl) Try.func5 (by kernel_rfl)
    (of_decide_eq_true (by kernel_rfl)) (by unfold Func.isWrapper; first | (rw [if_pos (by decide +kernel)]; kernel_rfl) | (rw [if_neg (by decide +kernel)]; exact ⟨rfl, rfl⟩))
    (fun os started H enc _ => lifted os started H enc)

theorem proved : Rows.FnExactPolMulSaid := over
#print axioms proved
end Go.Proofs.Ytgbjmobbiplpcaa.fnExactPolMul
