/-
  Whether two pieces of code are the same: the specification's IrSame.
-/
import Derived.Test.YthlpndligadnjaaIrP
import Derived.Test.YthlpndligadnjaaAllB
namespace Go.Proofs.Ythlpndligadnjaa.Ir
set_option linter.unusedVariables false
set_option linter.unusedSimpArgs false
open Go.ChangeShapes Go.WideShapes Go.ChangeAt Go.RowKit IntS Mch
theorem ORow.parts {w : World} {B n cap : Nat} {a : Option Addr} {os : List Opn} (h : ORow w B (.slice a n cap) os) : n ≤ cap ∧ cap ≤ maxLen ∧ ∀ (i : Nat) o, os[i]? = some o → ∃ off, a = some ⟨B, off, none⟩ ∧ OpAt w B (off + i * 5) o := by
  obtain ⟨a', cap', off, eq, h2, h3, hz, h4⟩ := h
  injection eq with e1 e2 e3
  subst e1 e3
  refine ⟨by omega, h3, fun i o ho => ?_⟩
  obtain ⟨e, h4⟩ := h4.resolve_left (fun e => by rw [e] at ho; simp at ho)
  exact ⟨off, e, h4 i o ho⟩
def opE (o p : Opn) : Bool := o.kd == p.kd && (o.x == p.x && (o.y == p.y && (o.k == p.k && o.t == p.t)))
def opV (o : Opn) : Array Value := #[.int .i64 o.kd, .int .i64 o.x, .int .i64 o.y, .int .i64 o.k, .int .i64 o.t]
theorem opv (o : Opn) : opV o = #[.int .i64 o.kd, .int .i64 o.x, .int .i64 o.y, .int .i64 o.k, .int .i64 o.t] := rfl
set_option maxRecDepth 8000 in
theorem op_eq (o p : Opn) (w : World) : (Op.equalIn 10000 96 (.agg #[.int .i64 o.kd, .int .i64 o.x, .int .i64 o.y, .int .i64 o.k, .int .i64 o.t]) (.agg #[.int .i64 p.kd, .int .i64 p.x, .int .i64 p.y, .int .i64 p.k, .int .i64 p.t])).run Try.prog w = .ok (opE o p) w := by
  have u3 := Try.underlying3
  have a3 := Try.isAgg3
  have z3 := Try.sizeOf3
  have hS : Try.prog.underlying 96 = some (.struct (Try.prog.fieldsOf 96)) := by kernel_rfl
  have hp : Try.prog.stoodInHeld 96 = false := by kernel_rfl
  rw [show (10000 : Nat) = 9999 + 1 from rfl, run_equalIn_agg w 9999 96 _ _ hS hp]
  simp only [Program.fieldsOf, Try.underlying96]
  go_simp
  unfold opE
  by_cases h1 : o.kd = p.kd <;> by_cases h2 : o.x = p.x <;> by_cases h3 : o.y = p.y <;> by_cases h4 : o.k = p.k <;> by_cases h5 : o.t = p.t <;> simp [h1, h2, h3, h4, h5]
theorem op_guard : Try.prog.eqGuardType Try.prog.depth 96 = false := by kernel_rfl
set_option maxRecDepth 8000 in
theorem neqOp {w : World} {ops : Array Oper} {rest : List Oper} {o : Oper} {a : Act} {Q : Exit → Act → World → Prop} (hgd : o.guard = none) (d : Nat) (hds : o.dst = some d) (x y : Operand) (ho : o.op = .binOp .neq 96 x y 96)
    (u v : Opn) (hx : a.eval x = .agg #[.int .i64 u.kd, .int .i64 u.x, .int .i64 u.y, .int .i64 u.k, .int .i64 u.t]) (hy : a.eval y = .agg #[.int .i64 v.kd, .int .i64 v.x, .int .i64 v.y, .int .i64 v.k, .int .i64 v.t])
    (h : wpList Try.prog ops Q rest (a.put (some d) (.bool (!opE u v))) w) : wpList Try.prog ops Q (o :: rest) a w := by
  refine wpList_plain hgd fun K hK => ?_
  have key := hK _ _ h
  have QE := op_eq u v w
  have QG := op_guard
  obtain ⟨dst, op, ty, pos, aft, gd⟩ := o
  simp only [] at hgd hds ho
  subst hgd hds ho
  clear h hK
  unfold Oper.wp
  simp only [execOp, hx, hy]
  simp only [Sem.run_bind, run_eqGuard_agg w _ _ _ _ _ _ QG, Result.andThen_ok, run_neq_struct, QE, Sem.run_pure]
  exact key
set_option maxRecDepth 8000 in
theorem eqlOp {w : World} {ops : Array Oper} {rest : List Oper} {o : Oper} {a : Act} {Q : Exit → Act → World → Prop} (hgd : o.guard = none) (d : Nat) (hds : o.dst = some d) (x y : Operand) (ho : o.op = .binOp .eql 96 x y 96)
    (u v : Opn) (hx : a.eval x = .agg #[.int .i64 u.kd, .int .i64 u.x, .int .i64 u.y, .int .i64 u.k, .int .i64 u.t]) (hy : a.eval y = .agg #[.int .i64 v.kd, .int .i64 v.x, .int .i64 v.y, .int .i64 v.k, .int .i64 v.t])
    (h : wpList Try.prog ops Q rest (a.put (some d) (.bool (opE u v))) w) : wpList Try.prog ops Q (o :: rest) a w := by
  refine wpList_plain hgd fun K hK => ?_
  have key := hK _ _ h
  have QE := op_eq u v w
  have QG := op_guard
  obtain ⟨dst, op, ty, pos, aft, gd⟩ := o
  simp only [] at hgd hds ho
  subst hgd hds ho
  clear h hK
  unfold Oper.wp
  simp only [execOp, hx, hy]
  simp only [Sem.run_bind, run_eqGuard_agg w _ _ _ _ _ _ QG, Result.andThen_ok, run_eql_struct, QE, Sem.run_pure]
  exact key
def sameBk (b c : Bk) : Bool := decide (b.pc = c.pc ∧ b.ln = c.ln ∧ b.en = c.en ∧ b.x = c.x ∧ b.y = c.y ∧ b.k = c.k) && sameL opE b.ops c.ops
set_option maxRecDepth 8000 in
set_option maxHeartbeats 4000000 in
theorem specIrSame (b c : Bk) (cb cc : List Value) (w : World) (h : RBk w cb b) (h' : RBk w cc c) :
    Calls Try.prog 56 #[.agg cb.toArray, .agg cc.toArray] w fun e w' => e = .returned (.bool (sameBk b c)) ∧ Below w.heap.size w w' := by
  obtain ⟨a, cap, B, rfl, hr⟩ := h
  obtain ⟨a', cap', B', rfl, hr'⟩ := h'
  obtain ⟨pc, ln, os, en, x, y, k⟩ := b
  obtain ⟨pc', ln', os', en', x', y', k'⟩ := c
  simp only [bv] at *
  have NO : Hid (¬ (pc = pc' ∧ ln = ln' ∧ en = en' ∧ x = x' ∧ y = y' ∧ k = k' ∧ os.length = os'.length) → sameBk ⟨pc, ln, os, en, x, y, k⟩ ⟨pc', ln', os', en', x', y', k'⟩ = false) := fun hn => by
    unfold sameBk sameL
    simp only [Bool.and_eq_false_iff, decide_eq_false_iff_not]
    by_cases e : os.length = os'.length
    · exact Or.inl (fun q => hn ⟨q.1, q.2.1, q.2.2.1, q.2.2.2.1, q.2.2.2.2.1, q.2.2.2.2.2, e⟩)
    · exact Or.inr (Or.inl e)
  have YES : Hid (pc = pc' ∧ ln = ln' ∧ en = en' ∧ x = x' ∧ y = y' ∧ k = k' ∧ os.length = os'.length → sameBk ⟨pc, ln, os, en, x, y, k⟩ ⟨pc', ln', os', en', x', y', k'⟩ = allB os.length (pairB opE os os')) := fun q => by
    unfold sameBk sameL
    simp only [q, and_self, decide_true, Bool.true_and]
  obtain ⟨R, eR⟩ : ∃ R, sameBk ⟨pc, ln, os, en, x, y, k⟩ ⟨pc', ln', os', en', x', y', k'⟩ = R := ⟨_, rfl⟩
  rw [eR] at NO YES ⊢
  clear eR
  have B2 : Hid (Below w.heap.size w ((w.alloc (.cells #[.int .i64 pc, .int .i64 ln, .slice a os.length cap, .int .i64 en, .int .i64 x, .int .i64 y, .int .i64 k] 39)).alloc (.cells #[.int .i64 pc', .int .i64 ln', .slice a' os'.length cap', .int .i64 en', .int .i64 x', .int .i64 y', .int .i64 k'] 39))) := ((Below.refl _ _).alloc (Nat.le_refl _) _).alloc (by simp) _
  obtain ⟨n, hn⟩ : ∃ n, os.length = n := ⟨_, rfl⟩
  obtain ⟨n', hn'⟩ : ∃ n', os'.length = n' := ⟨_, rfl⟩
  have HN := hide hn
  have HN' := hide hn'
  have HR := hide hr
  have HR' := hide hr'
  rw [hn] at NO YES B2 HR ⊢
  rw [hn'] at NO YES B2 HR' ⊢
  clear hr hr' hn hn'
  go_enter Try.func56, Try.ntmps56
  by_cases e1 : pc = pc'
  case neg =>
    have b1 : (pc != pc') = true := by simpa using e1
    obtain rfl := NO.out (fun q => e1 q.1)
    clear NO YES e1
    go_wp2
    go_ret
    exact ⟨rfl, B2.out⟩
  subst e1
  by_cases e1 : ln = ln'
  case neg =>
    have b1 : (ln != ln') = true := by simpa using e1
    obtain rfl := NO.out (fun q => e1 q.2.1)
    clear NO YES e1
    go_wp2
    go_ret
    exact ⟨rfl, B2.out⟩
  subst e1
  by_cases e1 : en = en'
  case neg =>
    have b1 : (en != en') = true := by simpa using e1
    obtain rfl := NO.out (fun q => e1 q.2.2.1)
    clear NO YES e1
    go_wp2
    go_ret
    exact ⟨rfl, B2.out⟩
  subst e1
  by_cases e1 : x = x'
  case neg =>
    have b1 : (x != x') = true := by simpa using e1
    obtain rfl := NO.out (fun q => e1 q.2.2.2.1)
    clear NO YES e1
    go_wp2
    go_ret
    exact ⟨rfl, B2.out⟩
  subst e1
  by_cases e1 : y = y'
  case neg =>
    have b1 : (y != y') = true := by simpa using e1
    obtain rfl := NO.out (fun q => e1 q.2.2.2.2.1)
    clear NO YES e1
    go_wp2
    go_ret
    exact ⟨rfl, B2.out⟩
  subst e1
  by_cases e1 : k = k'
  case neg =>
    have b1 : (k != k') = true := by simpa using e1
    obtain rfl := NO.out (fun q => e1 q.2.2.2.2.2.1)
    clear NO YES e1
    go_wp2
    go_ret
    exact ⟨rfl, B2.out⟩
  subst e1
  by_cases e1 : n = n'
  case neg =>
    have b1 : ((n : Int) != (n' : Int)) = true := by simp; omega
    obtain rfl := NO.out (fun q => e1 q.2.2.2.2.2.2)
    clear NO YES e1
    go_wp2
    go_ret
    exact ⟨rfl, B2.out⟩
  subst e1
  have EQ := hide (YES.out ⟨rfl, rfl, rfl, rfl, rfl, rfl, rfl⟩)
  clear NO YES
  have S0 := (Rec.new w [.int .i64 pc, .int .i64 ln, .slice a n cap, .int .i64 en, .int .i64 x, .int .i64 y, .int .i64 k] 39).alloc (.cells #[.int .i64 pc, .int .i64 ln, .slice a' n cap', .int .i64 en, .int .i64 x, .int .i64 y, .int .i64 k] 39)
  have S1 := Rec.new (w.alloc (.cells #[.int .i64 pc, .int .i64 ln, .slice a n cap, .int .i64 en, .int .i64 x, .int .i64 y, .int .i64 k] 39)) [.int .i64 pc, .int .i64 ln, .slice a' n cap', .int .i64 en, .int .i64 x, .int .i64 y, .int .i64 k] 39
  rw [show (w.alloc (.cells #[.int .i64 pc, .int .i64 ln, .slice a n cap, .int .i64 en, .int .i64 x, .int .i64 y, .int .i64 k] 39)).heap.size = w.heap.size + 1 by simp] at S1
  have SS := hide (And.intro S0 S1)
  clear S0 S1
  have nn : ((n : Int) != (n : Int)) = false := by simp
  have cp := HR.out.parts.1
  have cp' := HR'.out.parts.1
  have cm := HR.out.parts.2.1
  have cm' := HR'.out.parts.2.1
  unfold maxLen at cm cm'
  go_wp2
  go_loopw [5] (fun i wr => ∃ j : Nat, j ≤ n ∧ i = .int .i64 j ∧ Hid (Rec w.heap.size [.int .i64 pc, .int .i64 ln, .slice a n cap, .int .i64 en, .int .i64 x, .int .i64 y, .int .i64 k] wr ∧ Rec (w.heap.size + 1) [.int .i64 pc, .int .i64 ln, .slice a' n cap', .int .i64 en, .int .i64 x, .int .i64 y, .int .i64 k] wr) ∧ Hid (Below w.heap.size w wr) ∧ Hid (∀ i, i < j → pairB opE os os' i = true)) (fun i _ => n - (intOf i).toNat)
  case atStart => exact ⟨0, by omega, rfl, SS, B2, fun i h => by omega⟩
  case round =>
    clear SS B2
    obtain ⟨j, hj, rfl, SS, HB, HP⟩ := hrel
    have x2 := SS.out.1.cell 2 _ rfl
    have y2 := SS.out.2.cell 2 _ rfl
    by_cases hlt : j < n
    · obtain ⟨o, eo⟩ : ∃ o, os[j]? = some o := ⟨_, List.getElem?_eq_getElem (by rw [HN.out]; exact hlt)⟩
      obtain ⟨o', eo'⟩ : ∃ o, os'[j]? = some o := ⟨_, List.getElem?_eq_getElem (by rw [HN'.out]; exact hlt)⟩
      obtain ⟨off, rfl, h4⟩ := HR.out.parts.2.2 j o eo
      obtain ⟨off', rfl, h4'⟩ := HR'.out.parts.2.2 j o' eo'
      obtain ⟨d0, d1, d2, d3, d4⟩ := h4.below (HB.out.drew)
      obtain ⟨f0, f1, f2, f3, f4⟩ := h4'.below (HB.out.drew)
      have PA := hide (pairB_at (eq := opE) eo eo')
      obtain ⟨r, er⟩ : ∃ r, opE o o' = r := ⟨_, rfl⟩
      have ER := hide er
      clear er
      have lj : ((j : Nat) : Int) < (n : Nat) := by omega
      clear h4 h4' eo eo'
      go_wp2_with fail
      refine region_tail 10 (by kernel_rfl) (by kernel_rfl) ?_
      simp only [List.take_succ_cons, List.take_zero, List.drop_succ_cons, List.drop_zero]
      repeat still_step
      refine wpStill_nil ?_
      have HB2 := hide HB.out.drew
      have SS2 := hide (And.intro (SS.out.1.below (Below.refl _ _).drew) (SS.out.2.below (Below.refl _ _).drew))
      generalize wr.drew = v at HB2 SS2 d0 d1 d2 d3 d4 f0 f1 f2 f3 f4 ⊢
      clear HB SS
      refine neqOp rfl 72 rfl _ _ rfl o o' rfl rfl ?_
      rw [ER.out]
      cases r with
      | false =>
        obtain rfl : R = false := EQ.out.trans (allB_false hlt (PA.out.trans ER.out))
        go_wp2
        go_ret
        exact ⟨rfl, HB2.out⟩
      | true =>
        have HP2 : Hid (∀ i, i < j + 1 → pairB opE os os' i = true) := fun i hi => by
          by_cases e : i < j
          · exact HP.out i e
          · obtain rfl : i = j := by omega
            exact PA.out.trans ER.out
        clear HP
        go_wp2
        exact ⟨⟨j + 1, by omega, by go_num, SS2, HB2, HP2⟩, by simp [intOf]; omega⟩
    · obtain rfl : j = n := by omega
      obtain rfl : R = true := EQ.out.trans (allB_true HP.out)
      go_wp2
      go_ret
      exact ⟨rfl, HB.out⟩
end Go.Proofs.Ythlpndligadnjaa.Ir
