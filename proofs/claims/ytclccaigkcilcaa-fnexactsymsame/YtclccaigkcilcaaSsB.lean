/-
  Whether what two pieces of code do is the same: the program's SymSame.
-/
import Derived.Test.YtclccaigkcilcaaSsA
import Derived.Test.YtclccaigkcilcaaOneEs
import Derived.Test.YtclccaigkcilcaaOnePs
namespace Go.Proofs.Ytclccaigkcilcaa.Dt
set_option linter.unusedVariables false
set_option linter.unusedSimpArgs false
open Go.ChangeShapes Go.WideShapes Go.ChangeAt Go.RowKit IntS Pol
theorem els_poly {w : World} {v : Value} {qs : List (List Mono)} (h : sumsK.rd w v qs) : ∃ (B : Nat) (es : List OneP.El), es.length = qs.length ∧ OneP.RowE w B v es ∧ (B < w.heap.size ∨ es = []) ∧ ∀ (i : Nat) e x, es[i]? = some e → qs[i]? = some x → polyR.rd w [.slice e.q0 e.n0 e.k0] x := by
  obtain ⟨a, cap, B, off, rfl, h2, h3, hz, h4⟩ := h
  rcases h4 with rfl | ⟨rfl, q⟩
  · exact ⟨0, [], rfl, ⟨a, cap, 0, rfl, h2, h3, hz, Or.inl rfl⟩, Or.inr rfl, fun i e x he => by simp at he⟩
  · obtain ⟨es, el, ep⟩ := list_of (P := fun i (e : OneP.El) => OneP.At w B (off + i) e ∧ ∀ x, qs[i]? = some x → polyR.rd w [.slice e.q0 e.n0 e.k0] x) qs.length (fun i hi => by
      obtain ⟨x, hx⟩ : ∃ x, qs[i]? = some x := ⟨_, List.getElem?_eq_getElem hi⟩
      obtain ⟨cs, cu, cv⟩ := q i _ hx
      have cw := cv
      obtain ⟨q0, c0, rfl, k0⟩ := polyR_rd cv
      refine ⟨⟨q0, x.length, c0⟩, ?_, fun y hy => ?_⟩
      · have this : w.cell? ⟨B, off + i * 1 + 0, none⟩ = some (.slice q0 x.length c0) := cu 0 _ rfl
        rw [Nat.mul_one, Nat.add_zero] at this
        exact this
      · rw [hx] at hy
        obtain rfl := Option.some.inj hy
        exact cw)
    refine ⟨B, es, el, ⟨_, cap, off, by rw [el], by rw [el]; exact h2, h3, hz, Or.inr ⟨rfl, fun i e he => (ep i e he).1⟩⟩, ?_, fun i e x he hx => (ep i e he).2 x hx⟩
    cases es with
    | nil => exact Or.inr rfl
    | cons e r => exact Or.inl (ep 0 e rfl).1.lt
theorem els_ev {w : World} {v : Value} {qs : List Ev} (h : evsK.rd w v qs) : ∃ (B : Nat) (es : List OneE.El), es.length = qs.length ∧ OneE.RowE w B v es ∧ (B < w.heap.size ∨ es = []) ∧ ∀ (i : Nat) e x, es[i]? = some e → qs[i]? = some x → evR.rd w [.int .i64 e.c0, .int .i64 e.c1, .slice e.q2 e.n2 e.k2, .slice e.q3 e.n3 e.k3, .slice e.q4 e.n4 e.k4] x := by
  obtain ⟨a, cap, B, off, rfl, h2, h3, hz, h4⟩ := h
  rcases h4 with rfl | ⟨rfl, q⟩
  · exact ⟨0, [], rfl, ⟨a, cap, 0, rfl, h2, h3, hz, Or.inl rfl⟩, Or.inr rfl, fun i e x he => by simp at he⟩
  · obtain ⟨es, el, ep⟩ := list_of (P := fun i (e : OneE.El) => OneE.At w B (off + i * 5) e ∧ ∀ x, qs[i]? = some x → evR.rd w [.int .i64 e.c0, .int .i64 e.c1, .slice e.q2 e.n2 e.k2, .slice e.q3 e.n3 e.k3, .slice e.q4 e.n4 e.k4] x) qs.length (fun i hi => by
      obtain ⟨⟨f0, f1, f2, f3, f4⟩, hx⟩ : ∃ x, qs[i]? = some x := ⟨_, List.getElem?_eq_getElem hi⟩
      obtain ⟨cs, cu, cv⟩ := q i _ hx
      have cw := cv
      obtain ⟨q2, c2, q3, c3, q4, c4, rfl, k2, k3, k4⟩ := evR_rd cv
      refine ⟨⟨f0, f1, q2, f2.length, c2, q3, f3.length, c3, q4, f4.length, c4⟩, ?_, fun y hy => ?_⟩
      · exact ⟨cu 0 _ rfl, cu 1 _ rfl, cu 2 _ rfl, cu 3 _ rfl, cu 4 _ rfl⟩
      · rw [hx] at hy
        obtain rfl := Option.some.inj hy
        exact cw)
    refine ⟨B, es, el, ⟨_, cap, off, by rw [el], by rw [el]; exact h2, h3, hz, Or.inr ⟨rfl, fun i e he => (ep i e he).1⟩⟩, ?_, fun i e x he hx => (ep i e he).2 x hx⟩
    cases es with
    | nil => exact Or.inr rfl
    | cons e r => exact Or.inl (ep 0 e rfl).1.lt
theorem implPol (p q : List Mono) (v v' : Value) (w : World) (h : polyK.rd w v p) (h' : polyK.rd w v' q) :
    Calls Try.prog 54 #[.agg #[v], .agg #[v']] w fun e w' => e = .returned (.int .i64 (ordP p q)) ∧ Below w.heap.size w w' := by
  obtain ⟨B, hr⟩ := poly_to h
  obtain ⟨B', hr'⟩ := poly_to h'
  exact implOrder p q B B' v v' w hr hr'
set_option maxRecDepth 8000 in
set_option maxHeartbeats 4000000 in
theorem sameSum (p q : List Mono) (v v' : Value) (w : World) (h : polyK.rd w v p) (h' : polyK.rd w v' q) :
    Calls Try.prog 26 #[.agg #[v], .agg #[v']] w fun e w' => e = .returned (.bool (polyE p q)) ∧ Below w.heap.size w w' := by
  obtain ⟨a, cap, hv, -⟩ := LRd.form h
  obtain ⟨a', cap', hv', -⟩ := LRd.form h'
  subst hv hv'
  have b2 : Below w.heap.size w ((w.alloc (.cells #[.slice a p.length cap] 35)).alloc (.cells #[.slice a' q.length cap'] 35)) := ((Below.refl _ _).alloc (Nat.le_refl _) _).alloc (by simp) _
  have GE : Hid (polyE p q = (ordP p q == 0)) := show _ = _ from rfl
  obtain ⟨R, eR⟩ : ∃ R, polyE p q = R := ⟨_, rfl⟩
  rw [eR] at GE ⊢
  clear eR
  have H := hide (polyK.rb h b2)
  have H' := hide (polyK.rb h' b2)
  have BW := hide b2
  clear h h' b2
  go_enter Try.func26, Try.ntmps26
  go_wp2_with fail
  refine (implPol p q _ _ _ H.out H'.out).mono ?_
  rintro e u ⟨rfl, hb⟩
  have B3 := hide (BW.out.trans (hb.mono BW.out.size))
  obtain ⟨o, eo⟩ : ∃ z, ordP p q = z := ⟨_, rfl⟩
  rw [eo] at GE ⊢
  clear eo hb H H' BW
  have ge := GE.out
  subst ge
  clear GE
  go_wp2
  go_ret
  exact ⟨rfl, B3.out⟩
theorem polysOne (qs rs : List (List Mono)) (v v' : Value) (w : World) (h : sumsK.rd w v qs) (h' : sumsK.rd w v' rs) :
    Calls Try.prog 25 #[v, v', .func (.func 26) #[] #[]] w fun e w' => e = .returned (.bool (sumsE qs rs)) ∧ Below w.heap.size w w' := by
  obtain ⟨B, es, el, hr, hB, hk⟩ := els_poly h
  obtain ⟨B', es', el', hr', hB', hk'⟩ := els_poly h'
  obtain ⟨a, cap, hv, -⟩ := LRd.form h
  obtain ⟨a', cap', hv', -⟩ := LRd.form h'
  subst hv hv'
  have := OneP.sameOne B B' a a' _ cap _ cap' es es' (Ir.pairB polyE qs rs) w hr hr' hB hB' (fun i x y W hx hy hb => by
    obtain ⟨p, hp⟩ : ∃ p, qs[i]? = some p := by
      have := (List.getElem?_eq_some_iff.1 hx).1
      exact ⟨_, List.getElem?_eq_getElem (by omega)⟩
    obtain ⟨q, hp'⟩ : ∃ p, rs[i]? = some p := by
      have := (List.getElem?_eq_some_iff.1 hy).1
      exact ⟨_, List.getElem?_eq_getElem (by omega)⟩
    rw [Ir.pairB_at hp hp']
    exact sameSum p q _ _ W (by obtain ⟨_, e, k⟩ := polyR.rb (hk i x p hx hp) hb; cases e; exact k) (by obtain ⟨_, e, k⟩ := polyR.rb (hk' i y q hy hp') hb; cases e; exact k))
  rw [el, el'] at this
  exact this
set_option maxRecDepth 8000 in
set_option maxHeartbeats 8000000 in
theorem sameEvent (a0 a0' : Int) (a1 a1' : Int) (x2 x2' : List Mono) (x3 x3' : List Mono) (x4 x4' : List (List Mono)) (cs cs' : List Value) (w : World) (h : evR.rd w cs (a0, a1, x2, x3, x4)) (h' : evR.rd w cs' (a0', a1', x2', x3', x4')) :
    Calls Try.prog 24 #[.agg cs.toArray, .agg cs'.toArray] w fun e w' => e = .returned (.bool (evE (a0, a1, x2, x3, x4) (a0', a1', x2', x3', x4'))) ∧ Below w.heap.size w w' := by
  obtain ⟨q2, c2, q3, c3, q4, c4, rfl, k2, k3, k4⟩ := evR_rd h
  obtain ⟨p2, d2, p3, d3, p4, d4, rfl, l2, l3, l4⟩ := evR_rd h'
  have NO0 : Hid ((a0 == a0') = false → evE (a0, a1, x2, x3, x4) (a0', a1', x2', x3', x4') = false) := fun q => by show (evE _ _) = false; unfold evE; simp only [q, Bool.false_and, Bool.and_false]
  have NO1 : Hid ((a1 == a1') = false → evE (a0, a1, x2, x3, x4) (a0', a1', x2', x3', x4') = false) := fun q => by show (evE _ _) = false; unfold evE; simp only [q, Bool.false_and, Bool.and_false]
  have NO2 : Hid (polyE x2 x2' = false → evE (a0, a1, x2, x3, x4) (a0', a1', x2', x3', x4') = false) := fun q => by show (evE _ _) = false; unfold evE; simp only [q, Bool.false_and, Bool.and_false]
  have NO3 : Hid (polyE x3 x3' = false → evE (a0, a1, x2, x3, x4) (a0', a1', x2', x3', x4') = false) := fun q => by show (evE _ _) = false; unfold evE; simp only [q, Bool.false_and, Bool.and_false]
  have NO4 : Hid (sumsE x4 x4' = false → evE (a0, a1, x2, x3, x4) (a0', a1', x2', x3', x4') = false) := fun q => by show (evE _ _) = false; unfold evE; simp only [q, Bool.false_and, Bool.and_false]
  have YES : Hid ((a0 == a0') = true → (a1 == a1') = true → polyE x2 x2' = true → polyE x3 x3' = true → sumsE x4 x4' = true → evE (a0, a1, x2, x3, x4) (a0', a1', x2', x3', x4') = true) := fun g0 g1 g2 g3 g4 => by show (evE _ _) = true; unfold evE; simp only [g0, g1, g2, g3, g4, Bool.and_self]
  obtain ⟨R, eR⟩ : ∃ R, evE (a0, a1, x2, x3, x4) (a0', a1', x2', x3', x4') = R := ⟨_, rfl⟩
  rw [eR] at NO0 NO1 NO2 NO3 NO4 YES ⊢
  clear eR h h'
  obtain ⟨W2, e2⟩ : ∃ W2, (w.alloc (.cells #[.int .i64 a0, .int .i64 a1, .slice q2 x2.length c2, .slice q3 x3.length c3, .slice q4 x4.length c4] 50)).alloc (.cells #[.int .i64 a0', .int .i64 a1', .slice p2 x2'.length d2, .slice p3 x3'.length d3, .slice p4 x4'.length d4] 50) = W2 := ⟨_, rfl⟩
  have b2 : Below w.heap.size w W2 := by rw [← e2]; exact ((Below.refl _ _).alloc (Nat.le_refl _) _).alloc (by simp) _
  have S0 := (Rec.new w [.int .i64 a0, .int .i64 a1, .slice q2 x2.length c2, .slice q3 x3.length c3, .slice q4 x4.length c4] 50).alloc (.cells #[.int .i64 a0', .int .i64 a1', .slice p2 x2'.length d2, .slice p3 x3'.length d3, .slice p4 x4'.length d4] 50)
  have S1 := Rec.new (w.alloc (.cells #[.int .i64 a0, .int .i64 a1, .slice q2 x2.length c2, .slice q3 x3.length c3, .slice q4 x4.length c4] 50)) [.int .i64 a0', .int .i64 a1', .slice p2 x2'.length d2, .slice p3 x3'.length d3, .slice p4 x4'.length d4] 50
  rw [show (w.alloc (.cells #[.int .i64 a0, .int .i64 a1, .slice q2 x2.length c2, .slice q3 x3.length c3, .slice q4 x4.length c4] 50)).heap.size = w.heap.size + 1 by simp] at S1
  have RR : Hid (Rec w.heap.size [.int .i64 a0, .int .i64 a1, .slice q2 x2.length c2, .slice q3 x3.length c3, .slice q4 x4.length c4] W2) := by rw [← e2]; exact S0
  have RS : Hid (Rec (w.heap.size + 1) [.int .i64 a0', .int .i64 a1', .slice p2 x2'.length d2, .slice p3 x3'.length d3, .slice p4 x4'.length d4] W2) := by rw [← e2]; exact S1
  have H2 := hide (polyK.rb k2 b2)
  have J2 := hide (polyK.rb l2 b2)
  have H3 := hide (polyK.rb k3 b2)
  have J3 := hide (polyK.rb l3 b2)
  have H4 := hide (sumsK.rb k4 b2)
  have J4 := hide (sumsK.rb l4 b2)
  have BW := hide b2
  have E2 := hide e2
  clear S0 S1 b2 e2 k2 l2 k3 l3 k4 l4
  go_enter Try.func24, Try.ntmps24
  by_cases e0 : a0 = a0'
  case neg =>
    have b0 : (a0 == a0') = false := by simpa using e0
    obtain rfl := NO0.out (by simpa using e0)
    clear NO0 YES e0 RR RS
    go_wp2
    go_ret
    exact ⟨rfl, by rw [E2.out]; exact BW.out⟩
  subst e0

  have g0 : (a0 == a0) = true := by simp
  have G0 := hide g0
  clear g0
  by_cases e1 : a1 = a1'
  case neg =>
    have b1 : (a1 == a1') = false := by simpa using e1
    obtain rfl := NO1.out (by simpa using e1)
    clear NO1 YES e1 RR RS
    go_wp2
    go_ret
    exact ⟨rfl, by rw [E2.out]; exact BW.out⟩
  subst e1

  have g1 : (a1 == a1) = true := by simp
  have G1 := hide g1
  clear g1
  go_wp2_with fail
  rw [E2.out]
  clear E2
  refine (sameSum _ _ _ _ _ H2.out J2.out).mono ?_
  rintro e u2 ⟨rfl, hb⟩
  replace RR := hide (RR.out.below hb)
  replace RS := hide (RS.out.below hb)
  replace BW := hide (BW.out.trans (hb.mono BW.out.size))
  replace H2 := hide (polyK.rb H2.out hb)
  replace J2 := hide (polyK.rb J2.out hb)
  replace H3 := hide (polyK.rb H3.out hb)
  replace J3 := hide (polyK.rb J3.out hb)
  replace H4 := hide (sumsK.rb H4.out hb)
  replace J4 := hide (sumsK.rb J4.out hb)
  clear hb
  obtain ⟨r2, er2⟩ : ∃ z, polyE x2 x2' = z := ⟨_, rfl⟩
  rw [er2] at ⊢
  cases r2 with
  | false =>
    obtain rfl := NO2.out er2
    clear NO2 YES RR RS
    go_wp2
    go_ret
    exact ⟨rfl, BW.out⟩
  | true =>
  have g2 := er2
  have G2 := hide g2
  clear g2
  have z0 := RR.out.cell 0 _ rfl
  have y0 := RS.out.cell 0 _ rfl
  have z1 := RR.out.cell 1 _ rfl
  have y1 := RS.out.cell 1 _ rfl
  have z2 := RR.out.cell 2 _ rfl
  have y2 := RS.out.cell 2 _ rfl
  have z3 := RR.out.cell 3 _ rfl
  have y3 := RS.out.cell 3 _ rfl
  have z4 := RR.out.cell 4 _ rfl
  have y4 := RS.out.cell 4 _ rfl
  go_wp2_with fail
  refine (sameSum _ _ _ _ _ H3.out J3.out).mono ?_
  rintro e u3 ⟨rfl, hb⟩
  replace RR := hide (RR.out.below hb)
  replace RS := hide (RS.out.below hb)
  replace BW := hide (BW.out.trans (hb.mono BW.out.size))
  replace H2 := hide (polyK.rb H2.out hb)
  replace J2 := hide (polyK.rb J2.out hb)
  replace H3 := hide (polyK.rb H3.out hb)
  replace J3 := hide (polyK.rb J3.out hb)
  replace H4 := hide (sumsK.rb H4.out hb)
  replace J4 := hide (sumsK.rb J4.out hb)
  clear hb z0 y0 z1 y1 z2 y2 z3 y3 z4 y4
  obtain ⟨r3, er3⟩ : ∃ z, polyE x3 x3' = z := ⟨_, rfl⟩
  rw [er3] at ⊢
  cases r3 with
  | false =>
    obtain rfl := NO3.out er3
    clear NO3 YES RR RS
    go_wp2
    go_ret
    exact ⟨rfl, BW.out⟩
  | true =>
  have g3 := er3
  have G3 := hide g3
  clear g3
  have z0 := RR.out.cell 0 _ rfl
  have y0 := RS.out.cell 0 _ rfl
  have z1 := RR.out.cell 1 _ rfl
  have y1 := RS.out.cell 1 _ rfl
  have z2 := RR.out.cell 2 _ rfl
  have y2 := RS.out.cell 2 _ rfl
  have z3 := RR.out.cell 3 _ rfl
  have y3 := RS.out.cell 3 _ rfl
  have z4 := RR.out.cell 4 _ rfl
  have y4 := RS.out.cell 4 _ rfl
  go_wp2_with fail
  refine (polysOne _ _ _ _ _ H4.out J4.out).mono ?_
  rintro e u4 ⟨rfl, hb⟩
  replace RR := hide (RR.out.below hb)
  replace RS := hide (RS.out.below hb)
  replace BW := hide (BW.out.trans (hb.mono BW.out.size))
  replace H2 := hide (polyK.rb H2.out hb)
  replace J2 := hide (polyK.rb J2.out hb)
  replace H3 := hide (polyK.rb H3.out hb)
  replace J3 := hide (polyK.rb J3.out hb)
  replace H4 := hide (sumsK.rb H4.out hb)
  replace J4 := hide (sumsK.rb J4.out hb)
  clear hb z0 y0 z1 y1 z2 y2 z3 y3 z4 y4
  obtain ⟨r4, er4⟩ : ∃ z, sumsE x4 x4' = z := ⟨_, rfl⟩
  rw [er4] at ⊢
  cases r4 with
  | false =>
    obtain rfl := NO4.out er4
    clear NO4 YES RR RS
    go_wp2
    go_ret
    exact ⟨rfl, BW.out⟩
  | true =>
  have g4 := er4
  have G4 := hide g4
  clear g4
  have z0 := RR.out.cell 0 _ rfl
  have y0 := RS.out.cell 0 _ rfl
  have z1 := RR.out.cell 1 _ rfl
  have y1 := RS.out.cell 1 _ rfl
  have z2 := RR.out.cell 2 _ rfl
  have y2 := RS.out.cell 2 _ rfl
  have z3 := RR.out.cell 3 _ rfl
  have y3 := RS.out.cell 3 _ rfl
  have z4 := RR.out.cell 4 _ rfl
  have y4 := RS.out.cell 4 _ rfl
  obtain rfl := YES.out G0.out G1.out G2.out G3.out G4.out
  clear RR RS
  go_wp2
  go_ret
  exact ⟨rfl, BW.out⟩
def SymRd (w : World) (cs : List Value) (x : Sy) : Prop := symR.rd w cs x
theorem SymRd.below {w w' : World} {cs : List Value} {x : Sy} (h : SymRd w cs x) (hb : Below w.heap.size w w') : SymRd w' cs x := symR.rb h hb
theorem evOne (qs rs : List Ev) (v v' : Value) (w : World) (h : evsK.rd w v qs) (h' : evsK.rd w v' rs) :
    Calls Try.prog 23 #[v, v', .func (.func 24) #[] #[]] w fun e w' => e = .returned (.bool (evsE qs rs)) ∧ Below w.heap.size w w' := by
  obtain ⟨B, es, el, hr, hB, hk⟩ := els_ev h
  obtain ⟨B', es', el', hr', hB', hk'⟩ := els_ev h'
  obtain ⟨a, cap, hv, -⟩ := LRd.form h
  obtain ⟨a', cap', hv', -⟩ := LRd.form h'
  subst hv hv'
  have := OneE.sameOne B B' a a' _ cap _ cap' es es' (Ir.pairB evE qs rs) w hr hr' hB hB' (fun i x y W hx hy hb => by
    obtain ⟨⟨f0, f1, f2, f3, f4⟩, hp⟩ : ∃ p, qs[i]? = some p := by
      have := (List.getElem?_eq_some_iff.1 hx).1
      exact ⟨_, List.getElem?_eq_getElem (by omega)⟩
    obtain ⟨⟨g0, g1, g2, g3, g4⟩, hp'⟩ : ∃ p, rs[i]? = some p := by
      have := (List.getElem?_eq_some_iff.1 hy).1
      exact ⟨_, List.getElem?_eq_getElem (by omega)⟩
    rw [Ir.pairB_at hp hp']
    exact sameEvent _ _ _ _ _ _ _ _ _ _ _ _ W (evR.rb (hk i x _ hx hp) hb) (evR.rb (hk' i y _ hy hp') hb))
  rw [el, el'] at this
  exact this
set_option maxRecDepth 8000 in
set_option maxHeartbeats 8000000 in
theorem implSame (x0 x0' : List Ev) (x1 x1' : List (List Mono)) (a2 a2' : Int) (x3 x3' : List Mono) (x4 x4' : List Mono) (a5 a5' : Int) (cs cs' : List Value) (w : World) (h : symR.rd w cs (x0, x1, a2, x3, x4, a5)) (h' : symR.rd w cs' (x0', x1', a2', x3', x4', a5')) :
    Calls Try.prog 8 #[.agg cs.toArray, .agg cs'.toArray] w fun e w' => e = .returned (.bool (symE (x0, x1, a2, x3, x4, a5) (x0', x1', a2', x3', x4', a5'))) ∧ Below w.heap.size w w' := by
  obtain ⟨q0, c0, q1, c1, q3, c3, q4, c4, rfl, k0, k1, k3, k4⟩ := symR_rd h
  obtain ⟨p0, d0, p1, d1, p3, d3, p4, d4, rfl, l0, l1, l3, l4⟩ := symR_rd h'
  have NO0 : Hid (evsE x0 x0' = false → symE (x0, x1, a2, x3, x4, a5) (x0', x1', a2', x3', x4', a5') = false) := fun q => by show (symE _ _) = false; unfold symE; simp only [q, Bool.false_and, Bool.and_false]
  have NO1 : Hid (sumsE x1 x1' = false → symE (x0, x1, a2, x3, x4, a5) (x0', x1', a2', x3', x4', a5') = false) := fun q => by show (symE _ _) = false; unfold symE; simp only [q, Bool.false_and, Bool.and_false]
  have NO2 : Hid ((a2 == a2') = false → symE (x0, x1, a2, x3, x4, a5) (x0', x1', a2', x3', x4', a5') = false) := fun q => by show (symE _ _) = false; unfold symE; simp only [q, Bool.false_and, Bool.and_false]
  have NO3 : Hid (polyE x3 x3' = false → symE (x0, x1, a2, x3, x4, a5) (x0', x1', a2', x3', x4', a5') = false) := fun q => by show (symE _ _) = false; unfold symE; simp only [q, Bool.false_and, Bool.and_false]
  have NO4 : Hid (polyE x4 x4' = false → symE (x0, x1, a2, x3, x4, a5) (x0', x1', a2', x3', x4', a5') = false) := fun q => by show (symE _ _) = false; unfold symE; simp only [q, Bool.false_and, Bool.and_false]
  have NO5 : Hid ((a5 == a5') = false → symE (x0, x1, a2, x3, x4, a5) (x0', x1', a2', x3', x4', a5') = false) := fun q => by show (symE _ _) = false; unfold symE; simp only [q, Bool.false_and, Bool.and_false]
  have YES : Hid (evsE x0 x0' = true → sumsE x1 x1' = true → (a2 == a2') = true → polyE x3 x3' = true → polyE x4 x4' = true → (a5 == a5') = true → symE (x0, x1, a2, x3, x4, a5) (x0', x1', a2', x3', x4', a5') = true) := fun g0 g1 g2 g3 g4 g5 => by show (symE _ _) = true; unfold symE; simp only [g0, g1, g2, g3, g4, g5, Bool.and_self]
  obtain ⟨R, eR⟩ : ∃ R, symE (x0, x1, a2, x3, x4, a5) (x0', x1', a2', x3', x4', a5') = R := ⟨_, rfl⟩
  rw [eR] at NO0 NO1 NO2 NO3 NO4 NO5 YES ⊢
  clear eR h h'
  obtain ⟨W2, e2⟩ : ∃ W2, (w.alloc (.cells #[.slice q0 x0.length c0, .slice q1 x1.length c1, .int .i64 a2, .slice q3 x3.length c3, .slice q4 x4.length c4, .int .i64 a5] 37)).alloc (.cells #[.slice p0 x0'.length d0, .slice p1 x1'.length d1, .int .i64 a2', .slice p3 x3'.length d3, .slice p4 x4'.length d4, .int .i64 a5'] 37) = W2 := ⟨_, rfl⟩
  have b2 : Below w.heap.size w W2 := by rw [← e2]; exact ((Below.refl _ _).alloc (Nat.le_refl _) _).alloc (by simp) _
  have S0 := (Rec.new w [.slice q0 x0.length c0, .slice q1 x1.length c1, .int .i64 a2, .slice q3 x3.length c3, .slice q4 x4.length c4, .int .i64 a5] 37).alloc (.cells #[.slice p0 x0'.length d0, .slice p1 x1'.length d1, .int .i64 a2', .slice p3 x3'.length d3, .slice p4 x4'.length d4, .int .i64 a5'] 37)
  have S1 := Rec.new (w.alloc (.cells #[.slice q0 x0.length c0, .slice q1 x1.length c1, .int .i64 a2, .slice q3 x3.length c3, .slice q4 x4.length c4, .int .i64 a5] 37)) [.slice p0 x0'.length d0, .slice p1 x1'.length d1, .int .i64 a2', .slice p3 x3'.length d3, .slice p4 x4'.length d4, .int .i64 a5'] 37
  rw [show (w.alloc (.cells #[.slice q0 x0.length c0, .slice q1 x1.length c1, .int .i64 a2, .slice q3 x3.length c3, .slice q4 x4.length c4, .int .i64 a5] 37)).heap.size = w.heap.size + 1 by simp] at S1
  have RR : Hid (Rec w.heap.size [.slice q0 x0.length c0, .slice q1 x1.length c1, .int .i64 a2, .slice q3 x3.length c3, .slice q4 x4.length c4, .int .i64 a5] W2) := by rw [← e2]; exact S0
  have RS : Hid (Rec (w.heap.size + 1) [.slice p0 x0'.length d0, .slice p1 x1'.length d1, .int .i64 a2', .slice p3 x3'.length d3, .slice p4 x4'.length d4, .int .i64 a5'] W2) := by rw [← e2]; exact S1
  have H0 := hide (evsK.rb k0 b2)
  have J0 := hide (evsK.rb l0 b2)
  have H1 := hide (sumsK.rb k1 b2)
  have J1 := hide (sumsK.rb l1 b2)
  have H3 := hide (polyK.rb k3 b2)
  have J3 := hide (polyK.rb l3 b2)
  have H4 := hide (polyK.rb k4 b2)
  have J4 := hide (polyK.rb l4 b2)
  have BW := hide b2
  have E2 := hide e2
  clear S0 S1 b2 e2 k0 l0 k1 l1 k3 l3 k4 l4
  go_enter Try.func8, Try.ntmps8
  go_wp2_with fail
  rw [E2.out]
  clear E2
  refine (evOne _ _ _ _ _ H0.out J0.out).mono ?_
  rintro e u0 ⟨rfl, hb⟩
  replace RR := hide (RR.out.below hb)
  replace RS := hide (RS.out.below hb)
  replace BW := hide (BW.out.trans (hb.mono BW.out.size))
  replace H0 := hide (evsK.rb H0.out hb)
  replace J0 := hide (evsK.rb J0.out hb)
  replace H1 := hide (sumsK.rb H1.out hb)
  replace J1 := hide (sumsK.rb J1.out hb)
  replace H3 := hide (polyK.rb H3.out hb)
  replace J3 := hide (polyK.rb J3.out hb)
  replace H4 := hide (polyK.rb H4.out hb)
  replace J4 := hide (polyK.rb J4.out hb)
  clear hb
  obtain ⟨r0, er0⟩ : ∃ z, evsE x0 x0' = z := ⟨_, rfl⟩
  rw [er0] at ⊢
  cases r0 with
  | false =>
    obtain rfl := NO0.out er0
    clear NO0 YES RR RS
    go_wp2
    go_ret
    exact ⟨rfl, BW.out⟩
  | true =>
  have g0 := er0
  have G0 := hide g0
  clear g0
  have z0 := RR.out.cell 0 _ rfl
  have y0 := RS.out.cell 0 _ rfl
  have z1 := RR.out.cell 1 _ rfl
  have y1 := RS.out.cell 1 _ rfl
  have z2 := RR.out.cell 2 _ rfl
  have y2 := RS.out.cell 2 _ rfl
  have z3 := RR.out.cell 3 _ rfl
  have y3 := RS.out.cell 3 _ rfl
  have z4 := RR.out.cell 4 _ rfl
  have y4 := RS.out.cell 4 _ rfl
  have z5 := RR.out.cell 5 _ rfl
  have y5 := RS.out.cell 5 _ rfl
  go_wp2_with fail
  refine (polysOne _ _ _ _ _ H1.out J1.out).mono ?_
  rintro e u1 ⟨rfl, hb⟩
  replace RR := hide (RR.out.below hb)
  replace RS := hide (RS.out.below hb)
  replace BW := hide (BW.out.trans (hb.mono BW.out.size))
  replace H0 := hide (evsK.rb H0.out hb)
  replace J0 := hide (evsK.rb J0.out hb)
  replace H1 := hide (sumsK.rb H1.out hb)
  replace J1 := hide (sumsK.rb J1.out hb)
  replace H3 := hide (polyK.rb H3.out hb)
  replace J3 := hide (polyK.rb J3.out hb)
  replace H4 := hide (polyK.rb H4.out hb)
  replace J4 := hide (polyK.rb J4.out hb)
  clear hb z0 y0 z1 y1 z2 y2 z3 y3 z4 y4 z5 y5
  obtain ⟨r1, er1⟩ : ∃ z, sumsE x1 x1' = z := ⟨_, rfl⟩
  rw [er1] at ⊢
  cases r1 with
  | false =>
    obtain rfl := NO1.out er1
    clear NO1 YES RR RS
    go_wp2
    go_ret
    exact ⟨rfl, BW.out⟩
  | true =>
  have g1 := er1
  have G1 := hide g1
  clear g1
  have z0 := RR.out.cell 0 _ rfl
  have y0 := RS.out.cell 0 _ rfl
  have z1 := RR.out.cell 1 _ rfl
  have y1 := RS.out.cell 1 _ rfl
  have z2 := RR.out.cell 2 _ rfl
  have y2 := RS.out.cell 2 _ rfl
  have z3 := RR.out.cell 3 _ rfl
  have y3 := RS.out.cell 3 _ rfl
  have z4 := RR.out.cell 4 _ rfl
  have y4 := RS.out.cell 4 _ rfl
  have z5 := RR.out.cell 5 _ rfl
  have y5 := RS.out.cell 5 _ rfl
  by_cases e2 : a2 = a2'
  case neg =>
    have b2 : (a2 == a2') = false := by simpa using e2
    obtain rfl := NO2.out (by simpa using e2)
    clear NO2 YES e2 RR RS
    go_wp2
    go_ret
    exact ⟨rfl, BW.out⟩
  subst e2

  have g2 : (a2 == a2) = true := by simp
  have G2 := hide g2
  clear g2
  have z0 := RR.out.cell 0 _ rfl
  have y0 := RS.out.cell 0 _ rfl
  have z1 := RR.out.cell 1 _ rfl
  have y1 := RS.out.cell 1 _ rfl
  have z2 := RR.out.cell 2 _ rfl
  have y2 := RS.out.cell 2 _ rfl
  have z3 := RR.out.cell 3 _ rfl
  have y3 := RS.out.cell 3 _ rfl
  have z4 := RR.out.cell 4 _ rfl
  have y4 := RS.out.cell 4 _ rfl
  have z5 := RR.out.cell 5 _ rfl
  have y5 := RS.out.cell 5 _ rfl
  go_wp2_with fail
  refine (sameSum _ _ _ _ _ H3.out J3.out).mono ?_
  rintro e u3 ⟨rfl, hb⟩
  replace RR := hide (RR.out.below hb)
  replace RS := hide (RS.out.below hb)
  replace BW := hide (BW.out.trans (hb.mono BW.out.size))
  replace H0 := hide (evsK.rb H0.out hb)
  replace J0 := hide (evsK.rb J0.out hb)
  replace H1 := hide (sumsK.rb H1.out hb)
  replace J1 := hide (sumsK.rb J1.out hb)
  replace H3 := hide (polyK.rb H3.out hb)
  replace J3 := hide (polyK.rb J3.out hb)
  replace H4 := hide (polyK.rb H4.out hb)
  replace J4 := hide (polyK.rb J4.out hb)
  clear hb z0 y0 z1 y1 z2 y2 z3 y3 z4 y4 z5 y5
  obtain ⟨r3, er3⟩ : ∃ z, polyE x3 x3' = z := ⟨_, rfl⟩
  rw [er3] at ⊢
  cases r3 with
  | false =>
    obtain rfl := NO3.out er3
    clear NO3 YES RR RS
    go_wp2
    go_ret
    exact ⟨rfl, BW.out⟩
  | true =>
  have g3 := er3
  have G3 := hide g3
  clear g3
  have z0 := RR.out.cell 0 _ rfl
  have y0 := RS.out.cell 0 _ rfl
  have z1 := RR.out.cell 1 _ rfl
  have y1 := RS.out.cell 1 _ rfl
  have z2 := RR.out.cell 2 _ rfl
  have y2 := RS.out.cell 2 _ rfl
  have z3 := RR.out.cell 3 _ rfl
  have y3 := RS.out.cell 3 _ rfl
  have z4 := RR.out.cell 4 _ rfl
  have y4 := RS.out.cell 4 _ rfl
  have z5 := RR.out.cell 5 _ rfl
  have y5 := RS.out.cell 5 _ rfl
  go_wp2_with fail
  refine (sameSum _ _ _ _ _ H4.out J4.out).mono ?_
  rintro e u4 ⟨rfl, hb⟩
  replace RR := hide (RR.out.below hb)
  replace RS := hide (RS.out.below hb)
  replace BW := hide (BW.out.trans (hb.mono BW.out.size))
  replace H0 := hide (evsK.rb H0.out hb)
  replace J0 := hide (evsK.rb J0.out hb)
  replace H1 := hide (sumsK.rb H1.out hb)
  replace J1 := hide (sumsK.rb J1.out hb)
  replace H3 := hide (polyK.rb H3.out hb)
  replace J3 := hide (polyK.rb J3.out hb)
  replace H4 := hide (polyK.rb H4.out hb)
  replace J4 := hide (polyK.rb J4.out hb)
  clear hb z0 y0 z1 y1 z2 y2 z3 y3 z4 y4 z5 y5
  obtain ⟨r4, er4⟩ : ∃ z, polyE x4 x4' = z := ⟨_, rfl⟩
  rw [er4] at ⊢
  cases r4 with
  | false =>
    obtain rfl := NO4.out er4
    clear NO4 YES RR RS
    go_wp2
    go_ret
    exact ⟨rfl, BW.out⟩
  | true =>
  have g4 := er4
  have G4 := hide g4
  clear g4
  have z0 := RR.out.cell 0 _ rfl
  have y0 := RS.out.cell 0 _ rfl
  have z1 := RR.out.cell 1 _ rfl
  have y1 := RS.out.cell 1 _ rfl
  have z2 := RR.out.cell 2 _ rfl
  have y2 := RS.out.cell 2 _ rfl
  have z3 := RR.out.cell 3 _ rfl
  have y3 := RS.out.cell 3 _ rfl
  have z4 := RR.out.cell 4 _ rfl
  have y4 := RS.out.cell 4 _ rfl
  have z5 := RR.out.cell 5 _ rfl
  have y5 := RS.out.cell 5 _ rfl
  by_cases e5 : a5 = a5'
  case neg =>
    have b5 : (a5 == a5') = false := by simpa using e5
    obtain rfl := NO5.out (by simpa using e5)
    clear NO5 YES e5 RR RS
    go_wp2
    go_ret
    exact ⟨rfl, BW.out⟩
  subst e5

  have g5 : (a5 == a5) = true := by simp
  have G5 := hide g5
  clear g5
  have z0 := RR.out.cell 0 _ rfl
  have y0 := RS.out.cell 0 _ rfl
  have z1 := RR.out.cell 1 _ rfl
  have y1 := RS.out.cell 1 _ rfl
  have z2 := RR.out.cell 2 _ rfl
  have y2 := RS.out.cell 2 _ rfl
  have z3 := RR.out.cell 3 _ rfl
  have y3 := RS.out.cell 3 _ rfl
  have z4 := RR.out.cell 4 _ rfl
  have y4 := RS.out.cell 4 _ rfl
  have z5 := RR.out.cell 5 _ rfl
  have y5 := RS.out.cell 5 _ rfl
  obtain rfl := YES.out G0.out G1.out G2.out G3.out G4.out G5.out
  clear RR RS
  go_wp2
  go_ret
  exact ⟨rfl, BW.out⟩
end Go.Proofs.Ytclccaigkcilcaa.Dt
