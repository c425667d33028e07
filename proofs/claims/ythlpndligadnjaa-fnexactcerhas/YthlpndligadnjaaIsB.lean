/-
  Whether two pieces of code are the same: the program's IrSame.
-/
import Derived.Test.YthlpndligadnjaaIsA
import Derived.Test.YthlpndligadnjaaOneOs
namespace Go.Proofs.Ythlpndligadnjaa.Ir
set_option linter.unusedVariables false
set_option linter.unusedSimpArgs false
open Go.ChangeShapes Go.WideShapes Go.ChangeAt Go.RowKit IntS Mch
def elO (o : Opn) : OneO.El := ⟨o.kd, o.x, o.y, o.k, o.t⟩
theorem row_el {w : World} {B : Nat} {v : Value} {os : List Opn} (h : ORow w B v os) : OneO.RowE w B v (os.map elO) ∧ (B < w.heap.size ∨ os.map elO = []) := by
  obtain ⟨a, cap, off, h1, h2, h3, hz, h4⟩ := h
  constructor
  · refine ⟨a, cap, off, by rw [List.length_map]; exact h1, by rw [List.length_map]; exact h2, h3, hz, h4.imp (fun e => by rw [e]; rfl) fun ⟨e, q⟩ => ⟨e, fun i x hx => ?_⟩⟩
    rw [List.getElem?_map] at hx
    cases ho : os[i]? with
    | none => rw [ho] at hx; cases hx
    | some o =>
      rw [ho] at hx
      obtain rfl := Option.some.inj hx
      exact q i o ho
  · rcases h4 with e | ⟨e, q⟩
    · exact Or.inr (by rw [e]; rfl)
    · cases os with
      | nil => exact Or.inr rfl
      | cons o r => exact Or.inl (Side.cell_lt (q 0 o rfl).1)
set_option maxRecDepth 8000 in
set_option maxHeartbeats 4000000 in
theorem sameOp (o p : Opn) (w : World) : Calls Try.prog 73 #[.agg #[.int .i64 o.kd, .int .i64 o.x, .int .i64 o.y, .int .i64 o.k, .int .i64 o.t], .agg #[.int .i64 p.kd, .int .i64 p.x, .int .i64 p.y, .int .i64 p.k, .int .i64 p.t]] w fun e w' => e = .returned (.bool (opE o p)) ∧ Below w.heap.size w w' := by
  have B2 : Hid (Below w.heap.size w ((w.alloc (.cells #[.int .i64 o.kd, .int .i64 o.x, .int .i64 o.y, .int .i64 o.k, .int .i64 o.t] 96)).alloc (.cells #[.int .i64 p.kd, .int .i64 p.x, .int .i64 p.y, .int .i64 p.k, .int .i64 p.t] 96))) := ((Below.refl _ _).alloc (Nat.le_refl _) _).alloc (by simp) _
  go_enter Try.func73, Try.ntmps73
  go_wp2_with (refine eqlOp rfl _ rfl _ _ rfl o p rfl rfl ?_)
  go_ret
  exact ⟨rfl, B2.out⟩
set_option maxRecDepth 8000 in
set_option maxHeartbeats 4000000 in
theorem implIrSame (b c : Bk) (cb cc : List Value) (w : World) (h : RBk w cb b) (h' : RBk w cc c) :
    Calls Try.prog 60 #[.agg cb.toArray, .agg cc.toArray] w fun e w' => e = .returned (.bool (sameBk b c)) ∧ Below w.heap.size w w' := by
  obtain ⟨a, cap, B, rfl, hr⟩ := h
  obtain ⟨a', cap', B', rfl, hr'⟩ := h'
  obtain ⟨pc, ln, os, en, x, y, k⟩ := b
  obtain ⟨pc', ln', os', en', x', y', k'⟩ := c
  simp only [bv] at *
  have NO : Hid (¬ (pc = pc' ∧ ln = ln' ∧ en = en' ∧ x = x' ∧ y = y' ∧ k = k') ∨ sameL opE os os' = false → sameBk ⟨pc, ln, os, en, x, y, k⟩ ⟨pc', ln', os', en', x', y', k'⟩ = false) := fun hn => by
    unfold sameBk
    simp only [Bool.and_eq_false_iff, decide_eq_false_iff_not]
    exact hn
  have YES : Hid (pc = pc' ∧ ln = ln' ∧ en = en' ∧ x = x' ∧ y = y' ∧ k = k' ∧ sameL opE os os' = true → sameBk ⟨pc, ln, os, en, x, y, k⟩ ⟨pc', ln', os', en', x', y', k'⟩ = true) := fun q => by
    unfold sameBk
    simp only [q, and_self, decide_true, Bool.true_and]
  obtain ⟨R, eR⟩ : ∃ R, sameBk ⟨pc, ln, os, en, x, y, k⟩ ⟨pc', ln', os', en', x', y', k'⟩ = R := ⟨_, rfl⟩
  rw [eR] at NO YES ⊢
  clear eR
  obtain ⟨W2, e2⟩ : ∃ W2, (w.alloc (.cells #[.int .i64 pc, .int .i64 ln, .slice a os.length cap, .int .i64 en, .int .i64 x, .int .i64 y, .int .i64 k] 39)).alloc (.cells #[.int .i64 pc', .int .i64 ln', .slice a' os'.length cap', .int .i64 en', .int .i64 x', .int .i64 y', .int .i64 k'] 39) = W2 := ⟨_, rfl⟩
  have b2 : Below w.heap.size w W2 := by rw [← e2]; exact ((Below.refl _ _).alloc (Nat.le_refl _) _).alloc (by simp) _
  have S0 := (Rec.new w [.int .i64 pc, .int .i64 ln, .slice a os.length cap, .int .i64 en, .int .i64 x, .int .i64 y, .int .i64 k] 39).alloc (.cells #[.int .i64 pc', .int .i64 ln', .slice a' os'.length cap', .int .i64 en', .int .i64 x', .int .i64 y', .int .i64 k'] 39)
  have S1 := Rec.new (w.alloc (.cells #[.int .i64 pc, .int .i64 ln, .slice a os.length cap, .int .i64 en, .int .i64 x, .int .i64 y, .int .i64 k] 39)) [.int .i64 pc', .int .i64 ln', .slice a' os'.length cap', .int .i64 en', .int .i64 x', .int .i64 y', .int .i64 k'] 39
  rw [show (w.alloc (.cells #[.int .i64 pc, .int .i64 ln, .slice a os.length cap, .int .i64 en, .int .i64 x, .int .i64 y, .int .i64 k] 39)).heap.size = w.heap.size + 1 by simp] at S1
  obtain ⟨k1, k2⟩ := row_el hr
  obtain ⟨k1', k2'⟩ := row_el hr'
  have ONE : Hid (Calls Try.prog 72 #[.slice a os.length cap, .slice a' os'.length cap', .func (.func 73) #[] #[]] W2 fun e w' => e = .returned (.bool (sameL opE os os')) ∧ Below W2.heap.size W2 w') := by
    have := OneO.sameOne B B' a a' os.length cap os'.length cap' (os.map elO) (os'.map elO) (pairB opE os os') W2 (k1.below b2) (k1'.below b2) (k2.imp (fun q => Nat.lt_of_lt_of_le q b2.size) id) (k2'.imp (fun q => Nat.lt_of_lt_of_le q b2.size) id) (fun i u v W hu hv _ => by
      rw [List.getElem?_map] at hu hv
      cases ho : os[i]? with
      | none => rw [ho] at hu; cases hu
      | some o =>
        cases hp : os'[i]? with
        | none => rw [hp] at hv; cases hv
        | some p =>
          rw [ho] at hu
          rw [hp] at hv
          obtain rfl := Option.some.inj hu
          obtain rfl := Option.some.inj hv
          rw [pairB_at ho hp]
          exact sameOp o p W)
    simp only [List.length_map] at this
    exact this
  have SS : Hid (Rec w.heap.size [.int .i64 pc, .int .i64 ln, .slice a os.length cap, .int .i64 en, .int .i64 x, .int .i64 y, .int .i64 k] W2 ∧ Rec (w.heap.size + 1) [.int .i64 pc', .int .i64 ln', .slice a' os'.length cap', .int .i64 en', .int .i64 x', .int .i64 y', .int .i64 k'] W2) := by rw [← e2]; exact ⟨S0, S1⟩
  have B2 := hide b2
  obtain ⟨r, er⟩ : ∃ r, sameL opE os os' = r := ⟨_, rfl⟩
  rw [er] at NO YES ONE
  have E2 := hide e2
  clear hr hr' k1 k2 k1' k2' S0 S1 b2 er e2
  go_enter Try.func60, Try.ntmps60
  by_cases e1 : pc = pc'
  case neg =>
    have b1 : (pc == pc') = false := by simpa using e1
    obtain rfl := NO.out (Or.inl (fun q => e1 q.1))
    clear NO YES e1 ONE SS
    go_wp2
    go_ret
    exact ⟨rfl, by rw [E2.out]; exact B2.out⟩
  subst e1
  by_cases e1 : ln = ln'
  case neg =>
    have b1 : (ln == ln') = false := by simpa using e1
    obtain rfl := NO.out (Or.inl (fun q => e1 q.2.1))
    clear NO YES e1 ONE SS
    go_wp2
    go_ret
    exact ⟨rfl, by rw [E2.out]; exact B2.out⟩
  subst e1
  go_wp2_with fail
  rw [E2.out]
  refine ONE.out.mono ?_
  rintro e u ⟨rfl, hb⟩
  replace B2 := hide (B2.out.trans (hb.mono B2.out.size))
  replace SS := hide (And.intro (SS.out.1.below hb) (SS.out.2.below hb))
  have x3 := SS.out.1.cell 3 _ rfl
  have y3 := SS.out.2.cell 3 _ rfl
  have x4 := SS.out.1.cell 4 _ rfl
  have y4 := SS.out.2.cell 4 _ rfl
  have x5 := SS.out.1.cell 5 _ rfl
  have y5 := SS.out.2.cell 5 _ rfl
  have x6 := SS.out.1.cell 6 _ rfl
  have y6 := SS.out.2.cell 6 _ rfl
  clear hb ONE E2 SS
  cases r with
  | false =>
    obtain rfl := NO.out (Or.inr rfl)
    clear NO YES
    go_wp2
    go_ret
    exact ⟨rfl, B2.out⟩
  | true =>
    by_cases e1 : en = en'
    case neg =>
      have b1 : (en == en') = false := by simpa using e1
      obtain rfl := NO.out (Or.inl (fun q => e1 q.2.2.1))
      clear NO YES e1
      go_wp2
      go_ret
      exact ⟨rfl, B2.out⟩
    subst e1
    by_cases e1 : x = x'
    case neg =>
      have b1 : (x == x') = false := by simpa using e1
      obtain rfl := NO.out (Or.inl (fun q => e1 q.2.2.2.1))
      clear NO YES e1
      go_wp2
      go_ret
      exact ⟨rfl, B2.out⟩
    subst e1
    by_cases e1 : y = y'
    case neg =>
      have b1 : (y == y') = false := by simpa using e1
      obtain rfl := NO.out (Or.inl (fun q => e1 q.2.2.2.2.1))
      clear NO YES e1
      go_wp2
      go_ret
      exact ⟨rfl, B2.out⟩
    subst e1
    by_cases e1 : k = k'
    case neg =>
      have b1 : (k == k') = false := by simpa using e1
      obtain rfl := NO.out (Or.inl (fun q => e1 q.2.2.2.2.2))
      clear NO YES e1
      go_wp2
      go_ret
      exact ⟨rfl, B2.out⟩
    subst e1
    obtain rfl := YES.out (by simp)
    clear NO YES
    go_wp2
    go_ret
    exact ⟨rfl, B2.out⟩
end Go.Proofs.Ythlpndligadnjaa.Ir
