/-
  Whether what two pieces of code do is the same: the specification's SymSame.
-/
import Derived.Test.YtclccaigkcilcaaDtS
import Derived.Test.YtclccaigkcilcaaPolO
import Derived.Test.YtclccaigkcilcaaAllB
namespace Go.Proofs.Ytclccaigkcilcaa.Dt
set_option linter.unusedVariables false
set_option linter.unusedSimpArgs false
open Go.ChangeShapes Go.WideShapes Go.ChangeAt Go.RowKit IntS Pol
abbrev Ev := Int × Int × List Mono × List Mono × List (List Mono)
abbrev Sy := List Ev × List (List Mono) × Int × List Mono × List Mono × Int
def polyE (p q : List Mono) : Bool := ordP p q == 0
def sumsE (p q : List (List Mono)) : Bool := Ir.sameL polyE p q
def evE (e f : Ev) : Bool := (e.1 == f.1) && ((e.2.1 == f.2.1) && (polyE e.2.2.1 f.2.2.1 && (polyE e.2.2.2.1 f.2.2.2.1 && sumsE e.2.2.2.2 f.2.2.2.2)))
def evsE (p q : List Ev) : Bool := Ir.sameL evE p q
def symE (s t : Sy) : Bool := evsE s.1 t.1 && (sumsE s.2.1 t.2.1 && ((s.2.2.1 == t.2.2.1) && (polyE s.2.2.2.1 t.2.2.2.1 && (polyE s.2.2.2.2.1 t.2.2.2.2.1 && (s.2.2.2.2.2 == t.2.2.2.2.2)))))
theorem specPol (p q : List Mono) (v v' : Value) (w : World) (h : polyK.rd w v p) (h' : polyK.rd w v' q) :
    Calls Try.prog 18 #[.agg #[v], .agg #[v']] w fun e w' => e = .returned (.int .i64 (ordP p q)) ∧ Below w.heap.size w w' := by
  obtain ⟨B, hr⟩ := poly_to h
  obtain ⟨B', hr'⟩ := poly_to h'
  exact specOrder p q B B' v v' w hr hr'
set_option maxRecDepth 8000 in
set_option maxHeartbeats 4000000 in
theorem l9Polys (xs ys : List (List Mono)) (v v' : Value) (w : World) (h : sumsK.rd w v xs) (h' : sumsK.rd w v' ys) :
    Calls Try.prog 17 #[v, v'] w fun e w' => e = .returned (.bool (sumsE xs ys)) ∧ Below w.heap.size w w' := by
  obtain ⟨a, cap, B, off, rfl, h2, h3, hz, h4⟩ := h
  obtain ⟨a', cap', B', off', rfl, h2', h3', hz', h4'⟩ := h'
  unfold maxLen at h3 h3'
  clear hz hz'
  have NO : Hid (xs.length ≠ ys.length → sumsE xs ys = false) := fun q => by unfold sumsE Ir.sameL; rw [decide_eq_false q]; rfl
  have YES : Hid (xs.length = ys.length → sumsE xs ys = Ir.allB xs.length (Ir.pairB polyE xs ys)) := fun q => by unfold sumsE Ir.sameL; rw [decide_eq_true q, Bool.true_and]
  obtain ⟨R, eR⟩ : ∃ R, sumsE xs ys = R := ⟨_, rfl⟩
  obtain ⟨n, en⟩ : ∃ n, xs.length = n := ⟨_, rfl⟩
  obtain ⟨n', en'⟩ : ∃ n, ys.length = n := ⟨_, rfl⟩
  rw [eR] at NO YES ⊢
  have EN := hide en
  have EN' := hide en'
  rw [en] at h2 NO YES ⊢
  rw [en'] at h2' NO YES ⊢
  have H4 := hide h4
  have H4' := hide h4'
  clear en en' h4 h4' eR
  go_enter Try.func17, Try.ntmps17
  by_cases e1 : n = n'
  case neg =>
    have nn : ((n : Int) != (n' : Int)) = true := by simp; omega
    obtain rfl := NO.out e1
    clear NO YES
    go_wp2
    go_ret
    exact ⟨rfl, Below.refl _ _⟩
  subst e1
  have EQ := hide (YES.out rfl)
  clear NO YES
  have nn : ((n : Int) != (n : Int)) = false := by simp
  by_cases n0 : n = 0
  · subst n0
    obtain rfl : R = true := EQ.out.trans (Ir.allB_true (fun i hi => by omega))
    go_wp2
    refine wp_loop_rounds 1 ?_
    rw [rounds_succ]
    go_wp2
    go_ret
    exact ⟨rfl, Below.refl _ _⟩
  · obtain ⟨rfl, hc⟩ := H4.out.resolve_left (fun e => n0 (by rw [← EN.out, e]; rfl))
    obtain ⟨rfl, hc'⟩ := H4'.out.resolve_left (fun e => n0 (by rw [← EN'.out, e]; rfl))
    have HC := hide hc
    have HC' := hide hc'
    clear hc hc' H4 H4'
    go_wp2
    go_loopw [5] (fun i wr => ∃ k : Nat, k ≤ n ∧ i = .int .i64 k ∧ Hid (Below w.heap.size w wr) ∧ Hid (∀ i, i < k → Ir.pairB polyE xs ys i = true)) (fun i _ => n - (intOf i).toNat)
    case atStart => exact ⟨0, by omega, rfl, Below.refl _ _, fun i hi => by omega⟩
    case round =>
      obtain ⟨k, hk, rfl, HB, HP⟩ := hrel
      by_cases hlt : k < n
      · obtain ⟨x, et⟩ : ∃ x, xs[k]? = some x := ⟨_, List.getElem?_eq_getElem (by rw [EN.out]; exact hlt)⟩
        obtain ⟨y, et'⟩ : ∃ x, ys[k]? = some x := ⟨_, List.getElem?_eq_getElem (by rw [EN'.out]; exact hlt)⟩
        have PA := hide (Ir.pairB_at (eq := polyE) et et')
        obtain ⟨cs, cc, hx⟩ := HC.out k x et
        obtain ⟨cs', cc', hx'⟩ := HC'.out k y et'
        have HB2 : Hid (Below w.heap.size w wr.drew) := HB.out.drew
        replace cc := cc.below HB2.out
        replace cc' := cc'.below HB2.out
        replace hx := polyR.rb hx HB2.out
        replace hx' := polyR.rb hx' HB2.out
        obtain ⟨q0, c0, rfl, k0⟩ := polyR_rd hx
        obtain ⟨p0, d0, rfl, l0⟩ := polyR_rd hx'
        have z0 : wr.drew.cell? ⟨B, off + k, none⟩ = some (.slice q0 x.length c0) := by have this : wr.drew.cell? ⟨B, off + k * 1 + 0, none⟩ = some (.slice q0 x.length c0) := cc 0 _ rfl; rw [Nat.mul_one, Nat.add_zero] at this; exact this
        have y0 : wr.drew.cell? ⟨B', off' + k, none⟩ = some (.slice p0 y.length d0) := by have this : wr.drew.cell? ⟨B', off' + k * 1 + 0, none⟩ = some (.slice p0 y.length d0) := cc' 0 _ rfl; rw [Nat.mul_one, Nat.add_zero] at this; exact this
        have K0 := hide k0
        have L0 := hide l0
        have lk : ((k : Nat) : Int) < (n : Nat) := by omega
        clear et et' hx hx' cc cc' k0 l0
        go_wp2_with fail
        refine region_tail 8 (by kernel_rfl) (by kernel_rfl) ?_
        simp only [List.take_succ_cons, List.take_zero, List.drop_succ_cons, List.drop_zero]
        repeat still_step
        refine wpStill_nil ?_
        go_wp2_with fail
        refine (specPol x y _ _ _ K0.out L0.out).mono ?_
        rintro e u ⟨rfl, hb⟩
        have HB3 := hide (HB2.out.trans (hb.mono HB2.out.size))
        have GE : Hid (polyE x y = (ordP x y == 0)) := show _ = _ from rfl
        obtain ⟨o, eo⟩ : ∃ z, ordP x y = z := ⟨_, rfl⟩
        rw [eo] at GE ⊢
        clear hb eo
        by_cases e0 : o = 0
        case neg =>
          have b0 : (o != 0) = true := by simpa using e0
          obtain rfl : R = false := EQ.out.trans (Ir.allB_false hlt (PA.out.trans (GE.out.trans (by simpa using e0))))
          go_wp2
          go_ret
          exact ⟨rfl, HB3.out⟩
        subst e0
        have HP2 : Hid (∀ i, i < k + 1 → Ir.pairB polyE xs ys i = true) := fun i hi => by
          by_cases e : i < k
          · exact HP.out i e
          · obtain rfl : i = k := by omega
            exact PA.out.trans (GE.out.trans (by simp))
        go_wp2
        exact ⟨⟨k + 1, by omega, by go_num, HB3, HP2⟩, by simp [intOf]; omega⟩
      · obtain rfl : k = n := by omega
        obtain rfl : R = true := EQ.out.trans (Ir.allB_true HP.out)
        go_wp2
        go_ret
        exact ⟨rfl, HB.out⟩
set_option maxRecDepth 8000 in
set_option maxHeartbeats 8000000 in
theorem l9Event (a0 a0' : Int) (a1 a1' : Int) (x2 x2' : List Mono) (x3 x3' : List Mono) (x4 x4' : List (List Mono)) (cs cs' : List Value) (w : World) (h : evR.rd w cs (a0, a1, x2, x3, x4)) (h' : evR.rd w cs' (a0', a1', x2', x3', x4')) :
    Calls Try.prog 19 #[.agg cs.toArray, .agg cs'.toArray] w fun e w' => e = .returned (.bool (evE (a0, a1, x2, x3, x4) (a0', a1', x2', x3', x4'))) ∧ Below w.heap.size w w' := by
  obtain ⟨q2, c2, q3, c3, q4, c4, rfl, k2, k3, k4⟩ := evR_rd h
  obtain ⟨p2, d2, p3, d3, p4, d4, rfl, l2, l3, l4⟩ := evR_rd h'
  have NO0 : Hid ((a0 == a0') = false → evE (a0, a1, x2, x3, x4) (a0', a1', x2', x3', x4') = false) := fun q => by show (evE _ _) = false; unfold evE; simp only [q, Bool.false_and, Bool.and_false]
  have NO1 : Hid ((a1 == a1') = false → evE (a0, a1, x2, x3, x4) (a0', a1', x2', x3', x4') = false) := fun q => by show (evE _ _) = false; unfold evE; simp only [q, Bool.false_and, Bool.and_false]
  have NO2 : Hid (polyE x2 x2' = false → evE (a0, a1, x2, x3, x4) (a0', a1', x2', x3', x4') = false) := fun q => by show (evE _ _) = false; unfold evE; simp only [q, Bool.false_and, Bool.and_false]
  have NO3 : Hid (polyE x3 x3' = false → evE (a0, a1, x2, x3, x4) (a0', a1', x2', x3', x4') = false) := fun q => by show (evE _ _) = false; unfold evE; simp only [q, Bool.false_and, Bool.and_false]
  have NO4 : Hid (sumsE x4 x4' = false → evE (a0, a1, x2, x3, x4) (a0', a1', x2', x3', x4') = false) := fun q => by show (evE _ _) = false; unfold evE; simp only [q, Bool.false_and, Bool.and_false]
  have YES : Hid ((a0 == a0') = true → (a1 == a1') = true → polyE x2 x2' = true → polyE x3 x3' = true → sumsE x4 x4' = true → evE (a0, a1, x2, x3, x4) (a0', a1', x2', x3', x4') = true) := fun g0 g1 g2 g3 g4 => by show (evE _ _) = true; unfold evE; simp only [g0, g1, g2, g3, g4, Bool.and_self]
  obtain ⟨R, eR⟩ : ∃ R, evE (a0, a1, x2, x3, x4) (a0', a1', x2', x3', x4') = R := ⟨_, rfl⟩
  rw [eR] at NO0 NO1 NO2 NO3 NO4 YES ⊢
  clear eR h h'
  obtain ⟨W2, e2⟩ : ∃ W2, (w.alloc (.cells #[.int .i64 a0, .int .i64 a1, .slice q2 x2.length c2, .slice q3 x3.length c3, .slice q4 x4.length c4] 50)).alloc (.cells #[.int .i64 a0', .int .i64 a1', .slice p2 x2'.length d2, .slice p3 x3'.length d3, .slice p4 x4'.length d4] 50) = W2 := ⟨_, rfl⟩
  have b2 : Below w.heap.size w W2 := by rw [← e2]; exact ((Below.refl _ _).alloc (Nat.le_refl _) _).alloc (by simp) _
  have S0 := (Rec.new w [.int .i64 a0, .int .i64 a1, .slice q2 x2.length c2, .slice q3 x3.length c3, .slice q4 x4.length c4] 50).alloc (.cells #[.int .i64 a0', .int .i64 a1', .slice p2 x2'.length d2, .slice p3 x3'.length d3, .slice p4 x4'.length d4] 50)
  have S1 := Rec.new (w.alloc (.cells #[.int .i64 a0, .int .i64 a1, .slice q2 x2.length c2, .slice q3 x3.length c3, .slice q4 x4.length c4] 50)) [.int .i64 a0', .int .i64 a1', .slice p2 x2'.length d2, .slice p3 x3'.length d3, .slice p4 x4'.length d4] 50
  rw [show (w.alloc (.cells #[.int .i64 a0, .int .i64 a1, .slice q2 x2.length c2, .slice q3 x3.length c3, .slice q4 x4.length c4] 50)).heap.size = w.heap.size + 1 by simp] at S1
  have RR : Hid (Rec w.heap.size [.int .i64 a0, .int .i64 a1, .slice q2 x2.length c2, .slice q3 x3.length c3, .slice q4 x4.length c4] W2) := by rw [← e2]; exact S0
  have RS : Hid (Rec (w.heap.size + 1) [.int .i64 a0', .int .i64 a1', .slice p2 x2'.length d2, .slice p3 x3'.length d3, .slice p4 x4'.length d4] W2) := by rw [← e2]; exact S1
  have H2 := hide (polyK.rb k2 b2)
  have J2 := hide (polyK.rb l2 b2)
  have H3 := hide (polyK.rb k3 b2)
  have J3 := hide (polyK.rb l3 b2)
  have H4 := hide (sumsK.rb k4 b2)
  have J4 := hide (sumsK.rb l4 b2)
  have BW := hide b2
  have E2 := hide e2
  clear S0 S1 b2 e2 k2 l2 k3 l3 k4 l4
  go_enter Try.func19, Try.ntmps19
  by_cases e0 : a0 = a0'
  case neg =>
    have b0 : (a0 == a0') = false := by simpa using e0
    obtain rfl := NO0.out (by simpa using e0)
    clear NO0 YES e0 RR RS
    go_wp2
    go_ret
    exact ⟨rfl, by rw [E2.out]; exact BW.out⟩
  subst e0

  have g0 : (a0 == a0) = true := by simp
  have G0 := hide g0
  clear g0
  by_cases e1 : a1 = a1'
  case neg =>
    have b1 : (a1 == a1') = false := by simpa using e1
    obtain rfl := NO1.out (by simpa using e1)
    clear NO1 YES e1 RR RS
    go_wp2
    go_ret
    exact ⟨rfl, by rw [E2.out]; exact BW.out⟩
  subst e1

  have g1 : (a1 == a1) = true := by simp
  have G1 := hide g1
  clear g1
  go_wp2_with fail
  rw [E2.out]
  clear E2
  refine (specPol _ _ _ _ _ H2.out J2.out).mono ?_
  rintro e u2 ⟨rfl, hb⟩
  replace RR := hide (RR.out.below hb)
  replace RS := hide (RS.out.below hb)
  replace BW := hide (BW.out.trans (hb.mono BW.out.size))
  replace H2 := hide (polyK.rb H2.out hb)
  replace J2 := hide (polyK.rb J2.out hb)
  replace H3 := hide (polyK.rb H3.out hb)
  replace J3 := hide (polyK.rb J3.out hb)
  replace H4 := hide (sumsK.rb H4.out hb)
  replace J4 := hide (sumsK.rb J4.out hb)
  clear hb
  have GE2 : Hid (polyE x2 x2' = (ordP x2 x2' == 0)) := show _ = _ from rfl
  obtain ⟨o2, eo2⟩ : ∃ z, ordP x2 x2' = z := ⟨_, rfl⟩
  rw [eo2] at GE2 ⊢
  clear eo2
  by_cases e2 : o2 = 0
  case neg =>
    have b2 : (o2 == 0) = false := by simpa using e2
    obtain rfl := NO2.out (GE2.out.trans (by simpa using e2))
    clear NO2 YES e2 RR
    go_wp2
    go_ret
    exact ⟨rfl, BW.out⟩
  subst e2
  have g2 := GE2.out
  replace g2 : polyE x2 x2' = true := g2.trans (by simp)
  have G2 := hide g2
  clear g2
  have z0 := RR.out.cell 0 _ rfl
  have y0 := RS.out.cell 0 _ rfl
  have z1 := RR.out.cell 1 _ rfl
  have y1 := RS.out.cell 1 _ rfl
  have z2 := RR.out.cell 2 _ rfl
  have y2 := RS.out.cell 2 _ rfl
  have z3 := RR.out.cell 3 _ rfl
  have y3 := RS.out.cell 3 _ rfl
  have z4 := RR.out.cell 4 _ rfl
  have y4 := RS.out.cell 4 _ rfl
  go_wp2_with fail
  refine (specPol _ _ _ _ _ H3.out J3.out).mono ?_
  rintro e u3 ⟨rfl, hb⟩
  replace RR := hide (RR.out.below hb)
  replace RS := hide (RS.out.below hb)
  replace BW := hide (BW.out.trans (hb.mono BW.out.size))
  replace H2 := hide (polyK.rb H2.out hb)
  replace J2 := hide (polyK.rb J2.out hb)
  replace H3 := hide (polyK.rb H3.out hb)
  replace J3 := hide (polyK.rb J3.out hb)
  replace H4 := hide (sumsK.rb H4.out hb)
  replace J4 := hide (sumsK.rb J4.out hb)
  clear hb z0 y0 z1 y1 z2 y2 z3 y3 z4 y4
  have GE3 : Hid (polyE x3 x3' = (ordP x3 x3' == 0)) := show _ = _ from rfl
  obtain ⟨o3, eo3⟩ : ∃ z, ordP x3 x3' = z := ⟨_, rfl⟩
  rw [eo3] at GE3 ⊢
  clear eo3
  by_cases e3 : o3 = 0
  case neg =>
    have b3 : (o3 == 0) = false := by simpa using e3
    obtain rfl := NO3.out (GE3.out.trans (by simpa using e3))
    clear NO3 YES e3 RR
    go_wp2
    go_ret
    exact ⟨rfl, BW.out⟩
  subst e3
  have g3 := GE3.out
  replace g3 : polyE x3 x3' = true := g3.trans (by simp)
  have G3 := hide g3
  clear g3
  have z0 := RR.out.cell 0 _ rfl
  have y0 := RS.out.cell 0 _ rfl
  have z1 := RR.out.cell 1 _ rfl
  have y1 := RS.out.cell 1 _ rfl
  have z2 := RR.out.cell 2 _ rfl
  have y2 := RS.out.cell 2 _ rfl
  have z3 := RR.out.cell 3 _ rfl
  have y3 := RS.out.cell 3 _ rfl
  have z4 := RR.out.cell 4 _ rfl
  have y4 := RS.out.cell 4 _ rfl
  go_wp2_with fail
  refine (l9Polys _ _ _ _ _ H4.out J4.out).mono ?_
  rintro e u4 ⟨rfl, hb⟩
  replace RR := hide (RR.out.below hb)
  replace RS := hide (RS.out.below hb)
  replace BW := hide (BW.out.trans (hb.mono BW.out.size))
  replace H2 := hide (polyK.rb H2.out hb)
  replace J2 := hide (polyK.rb J2.out hb)
  replace H3 := hide (polyK.rb H3.out hb)
  replace J3 := hide (polyK.rb J3.out hb)
  replace H4 := hide (sumsK.rb H4.out hb)
  replace J4 := hide (sumsK.rb J4.out hb)
  clear hb z0 y0 z1 y1 z2 y2 z3 y3 z4 y4
  obtain ⟨r4, er4⟩ : ∃ z, sumsE x4 x4' = z := ⟨_, rfl⟩
  rw [er4] at ⊢
  cases r4 with
  | false =>
    obtain rfl := NO4.out er4
    clear NO4 YES RR RS
    go_wp2
    go_ret
    exact ⟨rfl, BW.out⟩
  | true =>
  have g4 := er4
  have G4 := hide g4
  clear g4
  have z0 := RR.out.cell 0 _ rfl
  have y0 := RS.out.cell 0 _ rfl
  have z1 := RR.out.cell 1 _ rfl
  have y1 := RS.out.cell 1 _ rfl
  have z2 := RR.out.cell 2 _ rfl
  have y2 := RS.out.cell 2 _ rfl
  have z3 := RR.out.cell 3 _ rfl
  have y3 := RS.out.cell 3 _ rfl
  have z4 := RR.out.cell 4 _ rfl
  have y4 := RS.out.cell 4 _ rfl
  obtain rfl := YES.out G0.out G1.out G2.out G3.out G4.out
  clear RR RS
  go_wp2
  go_ret
  exact ⟨rfl, BW.out⟩
set_option maxRecDepth 8000 in
set_option maxHeartbeats 8000000 in
theorem specSame (x0 x0' : List Ev) (x1 x1' : List (List Mono)) (a2 a2' : Int) (x3 x3' : List Mono) (x4 x4' : List Mono) (a5 a5' : Int) (cs cs' : List Value) (w : World) (h : symR.rd w cs (x0, x1, a2, x3, x4, a5)) (h' : symR.rd w cs' (x0', x1', a2', x3', x4', a5')) :
    Calls Try.prog 6 #[.agg cs.toArray, .agg cs'.toArray] w fun e w' => e = .returned (.bool (symE (x0, x1, a2, x3, x4, a5) (x0', x1', a2', x3', x4', a5'))) ∧ Below w.heap.size w w' := by
  obtain ⟨q0, c0, q1, c1, q3, c3, q4, c4, rfl, k0, k1, k3, k4⟩ := symR_rd h
  obtain ⟨p0, d0, p1, d1, p3, d3, p4, d4, rfl, l0, l1, l3, l4⟩ := symR_rd h'
  have NO0 : Hid (decide (x0.length = x0'.length) = false → symE (x0, x1, a2, x3, x4, a5) (x0', x1', a2', x3', x4', a5') = false) := fun q => by show (symE _ _) = false; unfold symE evsE Ir.sameL; simp only [q, Bool.false_and, Bool.and_false]
  have NO1 : Hid (sumsE x1 x1' = false → symE (x0, x1, a2, x3, x4, a5) (x0', x1', a2', x3', x4', a5') = false) := fun q => by show (symE _ _) = false; unfold symE evsE Ir.sameL; simp only [q, Bool.false_and, Bool.and_false]
  have NO2 : Hid ((a2 == a2') = false → symE (x0, x1, a2, x3, x4, a5) (x0', x1', a2', x3', x4', a5') = false) := fun q => by show (symE _ _) = false; unfold symE evsE Ir.sameL; simp only [q, Bool.false_and, Bool.and_false]
  have NO3 : Hid ((a5 == a5') = false → symE (x0, x1, a2, x3, x4, a5) (x0', x1', a2', x3', x4', a5') = false) := fun q => by show (symE _ _) = false; unfold symE evsE Ir.sameL; simp only [q, Bool.false_and, Bool.and_false]
  have NO4 : Hid (polyE x3 x3' = false → symE (x0, x1, a2, x3, x4, a5) (x0', x1', a2', x3', x4', a5') = false) := fun q => by show (symE _ _) = false; unfold symE evsE Ir.sameL; simp only [q, Bool.false_and, Bool.and_false]
  have NO5 : Hid (polyE x4 x4' = false → symE (x0, x1, a2, x3, x4, a5) (x0', x1', a2', x3', x4', a5') = false) := fun q => by show (symE _ _) = false; unfold symE evsE Ir.sameL; simp only [q, Bool.false_and, Bool.and_false]
  have YES : Hid (decide (x0.length = x0'.length) = true → sumsE x1 x1' = true → (a2 == a2') = true → (a5 == a5') = true → polyE x3 x3' = true → polyE x4 x4' = true → symE (x0, x1, a2, x3, x4, a5) (x0', x1', a2', x3', x4', a5') = Ir.allB x0.length (Ir.pairB evE x0 x0')) := fun g0 g1 g2 g3 g4 g5 => by show (symE _ _) = _; unfold symE evsE Ir.sameL; simp only [g0, g1, g2, g3, g4, g5, Bool.and_true, Bool.true_and]
  obtain ⟨R, eR⟩ : ∃ R, symE (x0, x1, a2, x3, x4, a5) (x0', x1', a2', x3', x4', a5') = R := ⟨_, rfl⟩
  rw [eR] at NO0 NO1 NO2 NO3 NO4 NO5 YES ⊢
  clear eR h h'
  obtain ⟨W2, e2⟩ : ∃ W2, (w.alloc (.cells #[.slice q0 x0.length c0, .slice q1 x1.length c1, .int .i64 a2, .slice q3 x3.length c3, .slice q4 x4.length c4, .int .i64 a5] 37)).alloc (.cells #[.slice p0 x0'.length d0, .slice p1 x1'.length d1, .int .i64 a2', .slice p3 x3'.length d3, .slice p4 x4'.length d4, .int .i64 a5'] 37) = W2 := ⟨_, rfl⟩
  have b2 : Below w.heap.size w W2 := by rw [← e2]; exact ((Below.refl _ _).alloc (Nat.le_refl _) _).alloc (by simp) _
  have S0 := (Rec.new w [.slice q0 x0.length c0, .slice q1 x1.length c1, .int .i64 a2, .slice q3 x3.length c3, .slice q4 x4.length c4, .int .i64 a5] 37).alloc (.cells #[.slice p0 x0'.length d0, .slice p1 x1'.length d1, .int .i64 a2', .slice p3 x3'.length d3, .slice p4 x4'.length d4, .int .i64 a5'] 37)
  have S1 := Rec.new (w.alloc (.cells #[.slice q0 x0.length c0, .slice q1 x1.length c1, .int .i64 a2, .slice q3 x3.length c3, .slice q4 x4.length c4, .int .i64 a5] 37)) [.slice p0 x0'.length d0, .slice p1 x1'.length d1, .int .i64 a2', .slice p3 x3'.length d3, .slice p4 x4'.length d4, .int .i64 a5'] 37
  rw [show (w.alloc (.cells #[.slice q0 x0.length c0, .slice q1 x1.length c1, .int .i64 a2, .slice q3 x3.length c3, .slice q4 x4.length c4, .int .i64 a5] 37)).heap.size = w.heap.size + 1 by simp] at S1
  have RR : Hid (Rec w.heap.size [.slice q0 x0.length c0, .slice q1 x1.length c1, .int .i64 a2, .slice q3 x3.length c3, .slice q4 x4.length c4, .int .i64 a5] W2) := by rw [← e2]; exact S0
  have RS : Hid (Rec (w.heap.size + 1) [.slice p0 x0'.length d0, .slice p1 x1'.length d1, .int .i64 a2', .slice p3 x3'.length d3, .slice p4 x4'.length d4, .int .i64 a5'] W2) := by rw [← e2]; exact S1
  have H0 := hide (evsK.rb k0 b2)
  have J0 := hide (evsK.rb l0 b2)
  have H1 := hide (sumsK.rb k1 b2)
  have J1 := hide (sumsK.rb l1 b2)
  have H3 := hide (polyK.rb k3 b2)
  have J3 := hide (polyK.rb l3 b2)
  have H4 := hide (polyK.rb k4 b2)
  have J4 := hide (polyK.rb l4 b2)
  have BW := hide b2
  have E2 := hide e2
  clear S0 S1 b2 e2 k0 l0 k1 l1 k3 l3 k4 l4
  go_enter Try.func6, Try.ntmps6
  by_cases e0 : x0.length = x0'.length
  case neg =>
    have b0 : ((x0.length : Int) != (x0'.length : Int)) = true := by simp; omega
    obtain rfl := NO0.out (by simpa using e0)
    clear NO0 YES e0 RR RS
    go_wp2
    go_ret
    exact ⟨rfl, by rw [E2.out]; exact BW.out⟩
  have g0 : decide (x0.length = x0'.length) = true := by simpa using e0
  obtain ⟨n, en⟩ : ∃ n, x0.length = n := ⟨_, rfl⟩
  have en' : x0'.length = n := by omega
  clear e0
  have EN := hide en
  have EN' := hide en'
  rw [en] at RR E2 H0 ⊢
  rw [en'] at RS E2 J0 ⊢
  clear en en'
  have b0 : ((n : Int) != (n : Int)) = false := by simp
  have G0 := hide g0
  clear g0
  go_wp2_with fail
  rw [E2.out]
  clear E2
  refine (l9Polys _ _ _ _ _ H1.out J1.out).mono ?_
  rintro e u1 ⟨rfl, hb⟩
  replace RR := hide (RR.out.below hb)
  replace RS := hide (RS.out.below hb)
  replace BW := hide (BW.out.trans (hb.mono BW.out.size))
  replace H0 := hide (evsK.rb H0.out hb)
  replace J0 := hide (evsK.rb J0.out hb)
  replace H1 := hide (sumsK.rb H1.out hb)
  replace J1 := hide (sumsK.rb J1.out hb)
  replace H3 := hide (polyK.rb H3.out hb)
  replace J3 := hide (polyK.rb J3.out hb)
  replace H4 := hide (polyK.rb H4.out hb)
  replace J4 := hide (polyK.rb J4.out hb)
  clear hb
  obtain ⟨r1, er1⟩ : ∃ z, sumsE x1 x1' = z := ⟨_, rfl⟩
  rw [er1] at ⊢
  cases r1 with
  | false =>
    obtain rfl := NO1.out er1
    clear NO1 YES RR RS
    go_wp2
    go_ret
    exact ⟨rfl, BW.out⟩
  | true =>
  have g1 := er1
  have G1 := hide g1
  clear g1
  have z0 := RR.out.cell 0 _ rfl
  have y0 := RS.out.cell 0 _ rfl
  have z1 := RR.out.cell 1 _ rfl
  have y1 := RS.out.cell 1 _ rfl
  have z2 := RR.out.cell 2 _ rfl
  have y2 := RS.out.cell 2 _ rfl
  have z3 := RR.out.cell 3 _ rfl
  have y3 := RS.out.cell 3 _ rfl
  have z4 := RR.out.cell 4 _ rfl
  have y4 := RS.out.cell 4 _ rfl
  have z5 := RR.out.cell 5 _ rfl
  have y5 := RS.out.cell 5 _ rfl
  by_cases e2 : a2 = a2'
  case neg =>
    have b2 : (a2 != a2') = true := by simpa using e2
    obtain rfl := NO2.out (by simpa using e2)
    clear NO2 YES e2 RR RS
    go_wp2
    go_ret
    exact ⟨rfl, BW.out⟩
  subst e2

  have g2 : (a2 == a2) = true := by simp
  have G2 := hide g2
  clear g2
  have z0 := RR.out.cell 0 _ rfl
  have y0 := RS.out.cell 0 _ rfl
  have z1 := RR.out.cell 1 _ rfl
  have y1 := RS.out.cell 1 _ rfl
  have z2 := RR.out.cell 2 _ rfl
  have y2 := RS.out.cell 2 _ rfl
  have z3 := RR.out.cell 3 _ rfl
  have y3 := RS.out.cell 3 _ rfl
  have z4 := RR.out.cell 4 _ rfl
  have y4 := RS.out.cell 4 _ rfl
  have z5 := RR.out.cell 5 _ rfl
  have y5 := RS.out.cell 5 _ rfl
  by_cases e3 : a5 = a5'
  case neg =>
    have b3 : (a5 != a5') = true := by simpa using e3
    obtain rfl := NO3.out (by simpa using e3)
    clear NO3 YES e3 RR RS
    go_wp2
    go_ret
    exact ⟨rfl, BW.out⟩
  subst e3

  have g3 : (a5 == a5) = true := by simp
  have G3 := hide g3
  clear g3
  have z0 := RR.out.cell 0 _ rfl
  have y0 := RS.out.cell 0 _ rfl
  have z1 := RR.out.cell 1 _ rfl
  have y1 := RS.out.cell 1 _ rfl
  have z2 := RR.out.cell 2 _ rfl
  have y2 := RS.out.cell 2 _ rfl
  have z3 := RR.out.cell 3 _ rfl
  have y3 := RS.out.cell 3 _ rfl
  have z4 := RR.out.cell 4 _ rfl
  have y4 := RS.out.cell 4 _ rfl
  have z5 := RR.out.cell 5 _ rfl
  have y5 := RS.out.cell 5 _ rfl
  go_wp2_with fail
  refine (specPol _ _ _ _ _ H3.out J3.out).mono ?_
  rintro e u4 ⟨rfl, hb⟩
  replace RR := hide (RR.out.below hb)
  replace RS := hide (RS.out.below hb)
  replace BW := hide (BW.out.trans (hb.mono BW.out.size))
  replace H0 := hide (evsK.rb H0.out hb)
  replace J0 := hide (evsK.rb J0.out hb)
  replace H1 := hide (sumsK.rb H1.out hb)
  replace J1 := hide (sumsK.rb J1.out hb)
  replace H3 := hide (polyK.rb H3.out hb)
  replace J3 := hide (polyK.rb J3.out hb)
  replace H4 := hide (polyK.rb H4.out hb)
  replace J4 := hide (polyK.rb J4.out hb)
  clear hb z0 y0 z1 y1 z2 y2 z3 y3 z4 y4 z5 y5
  have GE4 : Hid (polyE x3 x3' = (ordP x3 x3' == 0)) := show _ = _ from rfl
  obtain ⟨o4, eo4⟩ : ∃ z, ordP x3 x3' = z := ⟨_, rfl⟩
  rw [eo4] at GE4 ⊢
  clear eo4
  by_cases e4 : o4 = 0
  case neg =>
    have b4 : (o4 != 0) = true := by simpa using e4
    obtain rfl := NO4.out (GE4.out.trans (by simpa using e4))
    clear NO4 YES e4 RR
    go_wp2
    go_ret
    exact ⟨rfl, BW.out⟩
  subst e4
  have g4 := GE4.out
  replace g4 : polyE x3 x3' = true := g4.trans (by simp)
  have G4 := hide g4
  clear g4
  have z0 := RR.out.cell 0 _ rfl
  have y0 := RS.out.cell 0 _ rfl
  have z1 := RR.out.cell 1 _ rfl
  have y1 := RS.out.cell 1 _ rfl
  have z2 := RR.out.cell 2 _ rfl
  have y2 := RS.out.cell 2 _ rfl
  have z3 := RR.out.cell 3 _ rfl
  have y3 := RS.out.cell 3 _ rfl
  have z4 := RR.out.cell 4 _ rfl
  have y4 := RS.out.cell 4 _ rfl
  have z5 := RR.out.cell 5 _ rfl
  have y5 := RS.out.cell 5 _ rfl
  go_wp2_with fail
  refine (specPol _ _ _ _ _ H4.out J4.out).mono ?_
  rintro e u5 ⟨rfl, hb⟩
  replace RR := hide (RR.out.below hb)
  replace RS := hide (RS.out.below hb)
  replace BW := hide (BW.out.trans (hb.mono BW.out.size))
  replace H0 := hide (evsK.rb H0.out hb)
  replace J0 := hide (evsK.rb J0.out hb)
  replace H1 := hide (sumsK.rb H1.out hb)
  replace J1 := hide (sumsK.rb J1.out hb)
  replace H3 := hide (polyK.rb H3.out hb)
  replace J3 := hide (polyK.rb J3.out hb)
  replace H4 := hide (polyK.rb H4.out hb)
  replace J4 := hide (polyK.rb J4.out hb)
  clear hb z0 y0 z1 y1 z2 y2 z3 y3 z4 y4 z5 y5
  have GE5 : Hid (polyE x4 x4' = (ordP x4 x4' == 0)) := show _ = _ from rfl
  obtain ⟨o5, eo5⟩ : ∃ z, ordP x4 x4' = z := ⟨_, rfl⟩
  rw [eo5] at GE5 ⊢
  clear eo5
  by_cases e5 : o5 = 0
  case neg =>
    have b5 : (o5 != 0) = true := by simpa using e5
    obtain rfl := NO5.out (GE5.out.trans (by simpa using e5))
    clear NO5 YES e5 RR
    go_wp2
    go_ret
    exact ⟨rfl, BW.out⟩
  subst e5
  have g5 := GE5.out
  replace g5 : polyE x4 x4' = true := g5.trans (by simp)
  have G5 := hide g5
  clear g5
  have EQ := hide (YES.out G0.out G1.out G2.out G3.out G4.out G5.out)
  clear YES NO0 G0 NO1 G1 NO2 G2 NO3 G3 NO4 G4 NO5 G5 H1 J1 H3 J3 H4 J4
  obtain ⟨_, _, B, off, ea, h2, h3, _, h4⟩ := H0.out
  obtain ⟨_, _, B', off', ea', h2', h3', _, h4'⟩ := J0.out
  have FA : Hid (∀ i x, x0[i]? = some x → ∃ B off cs, q0 = some ⟨B, off, none⟩ ∧ CellsAt _ B (off + i * 5) cs ∧ evR.rd _ cs x) := fun i x hx => by
    obtain ⟨e, q⟩ := h4.resolve_left (fun e => by rw [e] at hx; simp at hx)
    obtain ⟨cs, k1, k2⟩ := q i x hx
    injection ea with e1
    exact ⟨B, off, cs, e1.trans e, k1, k2⟩
  have FB : Hid (∀ i x, x0'[i]? = some x → ∃ B off cs, p0 = some ⟨B, off, none⟩ ∧ CellsAt _ B (off + i * 5) cs ∧ evR.rd _ cs x) := fun i x hx => by
    obtain ⟨e, q⟩ := h4'.resolve_left (fun e => by rw [e] at hx; simp at hx)
    obtain ⟨cs, k1, k2⟩ := q i x hx
    injection ea' with e1
    exact ⟨B', off', cs, e1.trans e, k1, k2⟩
  have cp : n ≤ c0 ∧ c0 ≤ maxLen := by injection ea with _ e4 e3; omega
  have cp' : n ≤ d0 ∧ d0 ≤ maxLen := by injection ea' with _ e4 e3; omega
  unfold maxLen at cp cp'
  obtain ⟨cp1, cp2⟩ := cp
  obtain ⟨cp3, cp4⟩ := cp'
  have n5 := EN.out
  rw [n5] at EQ
  clear n5 ea ea' h2 h2' h3 h3' h4 h4' H0 J0
  have z0 := RR.out.cell 0 _ rfl
  have y0 := RS.out.cell 0 _ rfl
  have z1 := RR.out.cell 1 _ rfl
  have y1 := RS.out.cell 1 _ rfl
  have z2 := RR.out.cell 2 _ rfl
  have y2 := RS.out.cell 2 _ rfl
  have z3 := RR.out.cell 3 _ rfl
  have y3 := RS.out.cell 3 _ rfl
  have z4 := RR.out.cell 4 _ rfl
  have y4 := RS.out.cell 4 _ rfl
  have z5 := RR.out.cell 5 _ rfl
  have y5 := RS.out.cell 5 _ rfl
  go_wp2
  clear z0 y0 z1 y1 z2 y2 z3 y3 z4 y4 z5 y5
  go_loopw [5] (fun i wr => ∃ k : Nat, k ≤ n ∧ i = .int .i64 k ∧ Hid (Below u5.heap.size u5 wr) ∧ Hid (∀ i, i < k → Ir.pairB evE x0 x0' i = true)) (fun i _ => n - (intOf i).toNat)
  case atStart => exact ⟨0, by omega, rfl, Below.refl _ _, fun i hi => by omega⟩
  case round =>
    obtain ⟨k, hk, rfl, HB, HP⟩ := hrel
    have v0 := (RR.out.below HB.out).cell 0 _ rfl
    have v1 := (RS.out.below HB.out).cell 0 _ rfl
    have BE := hide (BW.out.trans (HB.out.mono BW.out.size))
    by_cases hlt : k < n
    · obtain ⟨⟨f0, f1, f2, f3, f4⟩, et⟩ : ∃ x, x0[k]? = some x := ⟨_, List.getElem?_eq_getElem (by rw [EN.out]; exact hlt)⟩
      obtain ⟨⟨g0, g1, g2, g3, g4⟩, et'⟩ : ∃ x, x0'[k]? = some x := ⟨_, List.getElem?_eq_getElem (by rw [EN'.out]; exact hlt)⟩
      have PA := hide (Ir.pairB_at (eq := evE) et et')
      obtain ⟨B, off, cs, rfl, cc, hx⟩ := FA.out k _ et
      obtain ⟨B', off', cs', rfl, cc', hx'⟩ := FB.out k _ et'
      have HB2 := hide HB.out.drew
      replace cc := cc.below HB2.out
      replace cc' := cc'.below HB2.out
      replace hx := evR.rb hx HB2.out
      replace hx' := evR.rb hx' HB2.out
      have HX := hide hx
      have HX' := hide hx'
      obtain ⟨r2, s2, r3, s3, r4, s4, rfl, k2, k3, k4⟩ := evR_rd hx
      obtain ⟨t2, o2, t3, o3, t4, o4, rfl, l2, l3, l4⟩ := evR_rd hx'
      have d0 : wr.drew.cell? ⟨B, off + k * 5, none⟩ = _ := cc 0 _ rfl
      have d1 := cc 1 _ rfl
      have d2 := cc 2 _ rfl
      have d3 := cc 3 _ rfl
      have d4 := cc 4 _ rfl
      have h0 : wr.drew.cell? ⟨B', off' + k * 5, none⟩ = _ := cc' 0 _ rfl
      have h1 := cc' 1 _ rfl
      have h2 := cc' 2 _ rfl
      have h3 := cc' 3 _ rfl
      have h4 := cc' 4 _ rfl
      obtain ⟨r, er⟩ : ∃ r, evE (f0, f1, f2, f3, f4) (g0, g1, g2, g3, g4) = r := ⟨_, rfl⟩
      have ER := hide er
      have lk : ((k : Nat) : Int) < (n : Nat) := by omega
      clear et et' hx hx' cc cc' k2 k3 k4 l2 l3 l4 er
      go_wp2_with fail
      refine region_tail 10 (by kernel_rfl) (by kernel_rfl) ?_
      simp only [List.take_succ_cons, List.take_zero, List.drop_succ_cons, List.drop_zero]
      repeat still_step
      refine wpStill_nil ?_
      go_wp2_with fail
      refine (l9Event _ _ _ _ _ _ _ _ _ _ _ _ _ HX.out HX'.out).mono ?_
      rintro e u ⟨rfl, hb⟩
      have HB3 := hide (HB2.out.trans (hb.mono HB2.out.size))
      have BE3 := hide (BW.out.trans (HB3.out.mono BW.out.size))
      rw [ER.out]
      clear hb d0 d1 d2 d3 d4 h0 h1 h2 h3 h4 HX HX' HB2 BE v0 v1
      cases r with
      | false =>
        obtain rfl : R = false := EQ.out.trans (Ir.allB_false hlt (PA.out.trans ER.out))
        go_wp2
        go_ret
        exact ⟨rfl, BE3.out⟩
      | true =>
        have HP2 : Hid (∀ i, i < k + 1 → Ir.pairB evE x0 x0' i = true) := fun i hi => by
          by_cases e : i < k
          · exact HP.out i e
          · obtain rfl : i = k := by omega
            exact PA.out.trans ER.out
        go_wp2
        exact ⟨⟨k + 1, by omega, by go_num, HB3, HP2⟩, by simp [intOf]; omega⟩
    · obtain rfl : k = n := by omega
      obtain rfl : R = true := EQ.out.trans (Ir.allB_true HP.out)
      go_wp2
      go_ret
      exact ⟨rfl, BE.out⟩
end Go.Proofs.Ytclccaigkcilcaa.Dt
