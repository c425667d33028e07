/-
  The specification's MchOk: contracts of l1Words and MchOk.
-/
import Derived.Test.YtnhpmbhphbphaaaGreatMchM3
import Derived.Test.YtnhpmbhphbphaaaGreatJnB
import Derived.Test.YtnhpmbhphbphaaaGreatJnI
namespace Go.Proofs.YtnhpmbhphbphaaaGreat.Mch
open Go.ChangeShapes Go.WideShapes Go.ChangeAt Go.RowKit IntS
def wordsB (xs : List Int) : Bool := xs.all Wrd.wok
theorem words_no {xs : List Int} {k : Nat} {x : Int} (hx : xs[k]? = some x) (h : Wrd.wok x = false) : wordsB xs = false := by
  unfold wordsB
  rw [List.all_eq_false]
  exact ⟨x, List.mem_of_getElem? hx, by simp [h]⟩
theorem words_yes {xs : List Int} (h : ∀ (k : Nat) x, xs[k]? = some x → Wrd.wok x = true) : wordsB xs = true := by
  unfold wordsB
  rw [List.all_eq_true]
  intro x hx
  obtain ⟨k, hk⟩ := List.getElem?_of_mem hx
  exact h k x hk
set_option maxHeartbeats 2000000 in
theorem l1Words (xs : List Int) (B : Nat) (v : Value) (w : World) (h : Row w B v xs) :
    Calls Tryz.prog 42 #[v] w fun e w' => e = .returned (.bool (wordsB xs)) ∧ w' = w := by
  obtain ⟨a, cap, off, rfl, h2, h3, hz, h4⟩ := h
  unfold maxLen at h3
  clear hz
  obtain ⟨n, en⟩ : ∃ n, xs.length = n := ⟨_, rfl⟩
  rw [en] at h2 ⊢
  have EN := hide en
  have H4 := hide h4
  clear en h4
  by_cases h0 : n = 0
  · subst h0
    have e0 : xs = [] := List.length_eq_zero_iff.1 EN.out
    have HD : Hid (wordsB xs = true) := show _ = true by rw [e0]; rfl
    clear e0 H4 EN
    go_enter Tryz.func42, Tryz.ntmps42
    go_wp2
    refine wp_loop_rounds 1 ?_
    rw [rounds_succ]
    go_wp2
    go_ret
    exact ⟨ret_bool HD.out.symm, rfl⟩
  · obtain ⟨rfl, hc⟩ := H4.out.resolve_left (fun e => h0 (by rw [← EN.out, e]; rfl))
    have HC := hide hc
    clear hc H4
    go_enter Tryz.func42, Tryz.ntmps42
    go_wp2
    go_loopw [3] (fun i wr => ∃ k : Nat, k ≤ n ∧ i = .int .i64 k ∧ Hid (∀ (j : Nat) x, j < k → xs[j]? = some x → Wrd.wok x = true) ∧ wr = w) (fun i _ => n - (intOf i).toNat)
    case atStart => exact ⟨0, by omega, rfl, fun j x hj => by omega, rfl⟩
    case round =>
      obtain ⟨k, hk, rfl, HE, rfl⟩ := hrel
      by_cases hlt : k < n
      · obtain ⟨x, ex⟩ : ∃ x, xs[k]? = some x := ⟨_, List.getElem?_eq_getElem (by rw [EN.out]; exact hlt)⟩
        have cx := HC.out k x ex
        have EX := hide ex
        clear ex
        go_wp2_with fail
        refine (Wrd.specOk x _).mono ?_
        rintro e w1 ⟨rfl, rfl⟩
        cases hb : Wrd.wok x with
        | true =>
          have HX : Hid (∀ (j : Nat) y, j < k + 1 → xs[j]? = some y → Wrd.wok y = true) := fun j y hj hy => by
            by_cases ej : j = k
            · subst ej
              rw [EX.out] at hy
              obtain rfl := Option.some.inj hy
              exact hb
            · exact HE.out j y (by omega) hy
          clear hb
          go_wp2
          exact ⟨⟨k + 1, by omega, by go_num, HX, trivial⟩, by simp [intOf]; omega⟩
        | false =>
          have HD := hide (words_no EX.out hb)
          clear hb
          go_wp2
          go_ret
          exact ⟨ret_bool HD.out.symm, rfl⟩
      · have HD : Hid (wordsB xs = true) := words_yes fun j x hx => HE.out j x (by have := (List.getElem?_eq_some_iff.1 hx).1; rw [EN.out] at this; omega) hx
        go_wp2
        go_ret
        exact ⟨ret_bool HD.out.symm, rfl⟩
/-- Whether a machine is ok. -/
def okM (m : M) : Bool := decide (m.regs.length = 4) && wordsB m.regs && Wrd.wok m.pc && decide (m.mem.length = 64) && wordsB m.mem && Wrd.wok m.save && Ins.inB m.halt 0 4 && wordsB m.ins && wordsB m.outs && Ins.inB m.count 0 1000000
set_option maxRecDepth 8000 in
set_option maxHeartbeats 4000000 in
theorem mchOk (m : M) (c : List Value) (w : World) (h : RMach w c m) :
    Calls Tryz.prog 19 #[.agg c.toArray] w fun e w' => e = .returned (.bool (okM m)) ∧ Below w.heap.size w w' := by
  obtain ⟨r, e, i, o, b1, b2, b3, b4, rfl, h1, h2, h3, h4⟩ := h
  obtain ⟨regs, pc, mem, save, lets, waits, halt, ins, outs, count⟩ := m
  have BW := hide ((Below.refl _ _).alloc (Nat.le_refl _) (.cells #[r, .int .i64 pc, e, .int .i64 save, .bool lets, .bool waits, .int .i64 halt, i, o, .int .i64 count] 25) : Below w.heap.size w _)
  have H1 := hide (h1.below BW.out)
  have H2 := hide (h2.below BW.out)
  have H3 := hide (h3.below BW.out)
  have H4 := hide (h4.below BW.out)
  obtain ⟨a1, k1, _, rfl, p1, q1, _⟩ := h1
  obtain ⟨a2, k2, _, rfl, p2, q2, _⟩ := h2
  clear h3 h4
  unfold maxLen at q1 q2
  simp only [mv] at *
  obtain ⟨B, eB⟩ : ∃ B, okM ⟨regs, pc, mem, save, lets, waits, halt, ins, outs, count⟩ = B := ⟨_, rfl⟩
  rw [eB]
  have EB : Hid ((decide (regs.length = 4) && wordsB regs && Wrd.wok pc && decide (mem.length = 64) && wordsB mem && Wrd.wok save && Ins.inB halt 0 4 && wordsB ins && wordsB outs && Ins.inB count 0 1000000) = B) := eB
  clear eB
  go_enter Tryz.func19, Tryz.ntmps19
  by_cases p0_ : regs.length = 4
  case neg =>
    have t0 : ((regs.length : Int) == 4) = false := beq_eq_false_iff_ne.2 (by omega)
    have hB : Hid (B = false) := show _ = _ by rw [← EB.out]; simp [p0_]
    clear p0_
    go_wp2
    go_ret
    exact ⟨ret_bool hB.out.symm, BW.out⟩
  have t0 : ((regs.length : Int) == 4) = true := by simp [p0_]
  have P0 := hide p0_
  clear p0_
  go_wp2_with fail
  refine (l1Words regs b1 _ _ H1.out).mono ?_
  rintro e u ⟨rfl, rfl⟩
  cases x1 : wordsB regs with
  | false =>
    have hB : Hid (B = false) := show _ = _ by rw [← EB.out]; simp [x1]
    clear x1
    go_wp2
    go_ret
    exact ⟨ret_bool hB.out.symm, BW.out⟩
  | true =>
    have X1 := hide x1
    clear x1
    go_wp2_with fail
    refine (Wrd.specOk pc _).mono ?_
    rintro e u ⟨rfl, rfl⟩
    cases x2 : Wrd.wok pc with
    | false =>
      have hB : Hid (B = false) := show _ = _ by rw [← EB.out]; simp [x2]
      clear x2
      go_wp2
      go_ret
      exact ⟨ret_bool hB.out.symm, BW.out⟩
    | true =>
      have X2 := hide x2
      clear x2
      by_cases p3_ : mem.length = 64
      case neg =>
        have t3 : ((mem.length : Int) == 64) = false := beq_eq_false_iff_ne.2 (by omega)
        have hB : Hid (B = false) := show _ = _ by rw [← EB.out]; simp [p3_]
        clear p3_
        go_wp2
        go_ret
        exact ⟨ret_bool hB.out.symm, BW.out⟩
      have t3 : ((mem.length : Int) == 64) = true := by simp [p3_]
      have P3 := hide p3_
      clear p3_
      go_wp2_with fail
      refine (l1Words mem b2 _ _ H2.out).mono ?_
      rintro e u ⟨rfl, rfl⟩
      cases x4 : wordsB mem with
      | false =>
        have hB : Hid (B = false) := show _ = _ by rw [← EB.out]; simp [x4]
        clear x4
        go_wp2
        go_ret
        exact ⟨ret_bool hB.out.symm, BW.out⟩
      | true =>
        have X4 := hide x4
        clear x4
        go_wp2_with fail
        refine (Wrd.specOk save _).mono ?_
        rintro e u ⟨rfl, rfl⟩
        cases x5 : Wrd.wok save with
        | false =>
          have hB : Hid (B = false) := show _ = _ by rw [← EB.out]; simp [x5]
          clear x5
          go_wp2
          go_ret
          exact ⟨ret_bool hB.out.symm, BW.out⟩
        | true =>
          have X5 := hide x5
          clear x5
          go_wp2_with fail
          refine (Ins.l1In halt 0 4 _).mono ?_
          rintro e u ⟨rfl, rfl⟩
          cases x6 : Ins.inB halt 0 4 with
          | false =>
            have hB : Hid (B = false) := show _ = _ by rw [← EB.out]; simp [x6]
            clear x6
            go_wp2
            go_ret
            exact ⟨ret_bool hB.out.symm, BW.out⟩
          | true =>
            have X6 := hide x6
            clear x6
            go_wp2_with fail
            refine (l1Words ins b3 _ _ H3.out).mono ?_
            rintro e u ⟨rfl, rfl⟩
            cases x7 : wordsB ins with
            | false =>
              have hB : Hid (B = false) := show _ = _ by rw [← EB.out]; simp [x7]
              clear x7
              go_wp2
              go_ret
              exact ⟨ret_bool hB.out.symm, BW.out⟩
            | true =>
              have X7 := hide x7
              clear x7
              go_wp2_with fail
              refine (l1Words outs b4 _ _ H4.out).mono ?_
              rintro e u ⟨rfl, rfl⟩
              cases x8 : wordsB outs with
              | false =>
                have hB : Hid (B = false) := show _ = _ by rw [← EB.out]; simp [x8]
                clear x8
                go_wp2
                go_ret
                exact ⟨ret_bool hB.out.symm, BW.out⟩
              | true =>
                have X8 := hide x8
                clear x8
                go_wp2_with fail
                refine (Ins.l1In count 0 1000000 _).mono ?_
                rintro e u ⟨rfl, rfl⟩
                cases x9 : Ins.inB count 0 1000000 with
                | false =>
                  have hB : Hid (B = false) := show _ = _ by rw [← EB.out]; simp [x9]
                  clear x9
                  go_wp2
                  go_ret
                  exact ⟨ret_bool hB.out.symm, BW.out⟩
                | true =>
                  have hB : Hid (B = true) := show _ = _ by rw [← EB.out]; simp [P0.out, X1.out, X2.out, P3.out, X4.out, X5.out, X6.out, X7.out, X8.out, x9]
                  clear x9
                  go_wp2
                  go_ret
                  exact ⟨ret_bool hB.out.symm, BW.out⟩
end Go.Proofs.YtnhpmbhphbphaaaGreat.Mch
