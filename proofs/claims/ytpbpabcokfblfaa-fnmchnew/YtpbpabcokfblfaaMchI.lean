/-
  The program's MchOk: contracts of allWords and MchOk.
-/
import Derived.Test.YtpbpabcokfblfaaMchS
namespace Go.Proofs.Ytpbpabcokfblfaa.MchI
open Go.ChangeShapes Go.WideShapes Go.ChangeAt Go.RowKit IntS Mch
set_option maxHeartbeats 2000000 in
theorem allWords (xs : List Int) (B : Nat) (v : Value) (w : World) (h : Row w B v xs) :
    Calls Try.prog 15 #[v] w fun e w' => e = .returned (.bool (wordsB xs)) ∧ w' = w := by
  obtain ⟨a, cap, off, rfl, h2, h3, hz, h4⟩ := h
  unfold maxLen at h3
  clear hz
  obtain ⟨n, en⟩ : ∃ n, xs.length = n := ⟨_, rfl⟩
  rw [en] at h2 ⊢
  have EN := hide en
  have H4 := hide h4
  clear en h4
  by_cases h0 : n = 0
  · subst h0
    have e0 : xs = [] := List.length_eq_zero_iff.1 EN.out
    have HD : Hid (wordsB xs = true) := show _ = true by rw [e0]; rfl
    clear e0 H4 EN
    go_enter Try.func15, Try.ntmps15
    go_wp2
    refine wp_loop_rounds 1 ?_
    rw [rounds_succ]
    go_wp2
    go_ret
    exact ⟨ret_bool HD.out.symm, rfl⟩
  · obtain ⟨rfl, hc⟩ := H4.out.resolve_left (fun e => h0 (by rw [← EN.out, e]; rfl))
    have HC := hide hc
    clear hc H4
    go_enter Try.func15, Try.ntmps15
    go_wp2
    go_loopw [7] (fun i wr => ∃ k : Nat, k ≤ n ∧ i = .int .i64 k ∧ Hid (∀ (j : Nat) x, j < k → xs[j]? = some x → Wrd.wok x = true) ∧ wr = w) (fun i _ => n - (intOf i).toNat)
    case atStart => exact ⟨0, by omega, rfl, fun j x hj => by omega, rfl⟩
    case round =>
      obtain ⟨k, hk, rfl, HE, rfl⟩ := hrel
      by_cases hlt : k < n
      · obtain ⟨x, ex⟩ : ∃ x, xs[k]? = some x := ⟨_, List.getElem?_eq_getElem (by rw [EN.out]; exact hlt)⟩
        have cx := HC.out k x ex
        have EX := hide ex
        clear ex
        go_wp2_with fail
        refine (Wrd.implOk x _).mono ?_
        rintro e w1 ⟨rfl, rfl⟩
        cases hb : Wrd.wok x with
        | true =>
          have HX : Hid (∀ (j : Nat) y, j < k + 1 → xs[j]? = some y → Wrd.wok y = true) := fun j y hj hy => by
            by_cases ej : j = k
            · subst ej
              rw [EX.out] at hy
              obtain rfl := Option.some.inj hy
              exact hb
            · exact HE.out j y (by omega) hy
          clear hb
          go_wp2
          exact ⟨⟨k + 1, by omega, by go_num, HX, trivial⟩, by simp [intOf]; omega⟩
        | false =>
          have HD := hide (words_no EX.out hb)
          clear hb
          go_wp2
          go_ret
          exact ⟨ret_bool HD.out.symm, rfl⟩
      · have HD : Hid (wordsB xs = true) := words_yes fun j x hx => HE.out j x (by have := (List.getElem?_eq_some_iff.1 hx).1; rw [EN.out] at this; omega) hx
        go_wp2
        go_ret
        exact ⟨ret_bool HD.out.symm, rfl⟩
set_option maxRecDepth 8000 in
set_option maxHeartbeats 4000000 in
theorem mchOk (m : M) (c : List Value) (w : World) (h : RMach w c m) :
    Calls Try.prog 9 #[.agg c.toArray] w fun e w' => e = .returned (.bool (okM m)) ∧ Below w.heap.size w w' := by
  obtain ⟨r, e, i, o, b1, b2, b3, b4, rfl, h1, h2, h3, h4⟩ := h
  obtain ⟨regs, pc, mem, save, lets, waits, halt, ins, outs, count⟩ := m
  have BW := hide ((Below.refl _ _).alloc (Nat.le_refl _) (.cells #[r, .int .i64 pc, e, .int .i64 save, .bool lets, .bool waits, .int .i64 halt, i, o, .int .i64 count] 27) : Below w.heap.size w _)
  have H1 := hide (h1.below BW.out)
  have H2 := hide (h2.below BW.out)
  have H3 := hide (h3.below BW.out)
  have H4 := hide (h4.below BW.out)
  obtain ⟨a1, k1, _, rfl, p1, q1, _⟩ := h1
  obtain ⟨a2, k2, _, rfl, p2, q2, _⟩ := h2
  clear h3 h4
  unfold maxLen at q1 q2
  simp only [mv] at *
  obtain ⟨B, eB⟩ : ∃ B, okM ⟨regs, pc, mem, save, lets, waits, halt, ins, outs, count⟩ = B := ⟨_, rfl⟩
  rw [eB]
  have EB : Hid ((decide (regs.length = 4) && wordsB regs && Wrd.wok pc && decide (mem.length = 64) && wordsB mem && Wrd.wok save && Ins.inB halt 0 4 && wordsB ins && wordsB outs && Ins.inB count 0 1000000) = B) := eB
  clear eB
  go_enter Try.func9, Try.ntmps9
  by_cases z0 : regs.length = 4
  case neg =>
    have t0 : ((regs.length : Int) == 4) = false := beq_eq_false_iff_ne.2 (by omega)
    have hB : Hid (B = false) := show _ = _ by rw [← EB.out]; simp [z0]
    clear z0
    go_wp2
    go_ret
    exact ⟨ret_bool hB.out.symm, BW.out⟩
  have t0 : ((regs.length : Int) == 4) = true := by simp [z0]
  have Z0 := hide z0
  clear z0
  by_cases z1 : mem.length = 64
  case neg =>
    have t1 : ((mem.length : Int) == 64) = false := beq_eq_false_iff_ne.2 (by omega)
    have hB : Hid (B = false) := show _ = _ by rw [← EB.out]; simp [z1]
    clear z1
    go_wp2
    go_ret
    exact ⟨ret_bool hB.out.symm, BW.out⟩
  have t1 : ((mem.length : Int) == 64) = true := by simp [z1]
  have Z1 := hide z1
  clear z1
  go_wp2_with fail
  refine (allWords regs b1 _ _ H1.out).mono ?_
  rintro e u ⟨rfl, rfl⟩
  cases x2 : wordsB regs with
  | false =>
    have hB : Hid (B = false) := show _ = _ by rw [← EB.out]; simp [x2]
    clear x2
    go_wp2
    go_ret
    exact ⟨ret_bool hB.out.symm, BW.out⟩
  | true =>
    have X2 := hide x2
    clear x2
    go_wp2_with fail
    refine (allWords mem b2 _ _ H2.out).mono ?_
    rintro e u ⟨rfl, rfl⟩
    cases x3 : wordsB mem with
    | false =>
      have hB : Hid (B = false) := show _ = _ by rw [← EB.out]; simp [x3]
      clear x3
      go_wp2
      go_ret
      exact ⟨ret_bool hB.out.symm, BW.out⟩
    | true =>
      have X3 := hide x3
      clear x3
      go_wp2_with fail
      refine (allWords ins b3 _ _ H3.out).mono ?_
      rintro e u ⟨rfl, rfl⟩
      cases x4 : wordsB ins with
      | false =>
        have hB : Hid (B = false) := show _ = _ by rw [← EB.out]; simp [x4]
        clear x4
        go_wp2
        go_ret
        exact ⟨ret_bool hB.out.symm, BW.out⟩
      | true =>
        have X4 := hide x4
        clear x4
        go_wp2_with fail
        refine (allWords outs b4 _ _ H4.out).mono ?_
        rintro e u ⟨rfl, rfl⟩
        cases x5 : wordsB outs with
        | false =>
          have hB : Hid (B = false) := show _ = _ by rw [← EB.out]; simp [x5]
          clear x5
          go_wp2
          go_ret
          exact ⟨ret_bool hB.out.symm, BW.out⟩
        | true =>
          have X5 := hide x5
          clear x5
          go_wp2_with fail
          refine (Wrd.implOk pc _).mono ?_
          rintro e u ⟨rfl, rfl⟩
          cases x6 : Wrd.wok pc with
          | false =>
            have hB : Hid (B = false) := show _ = _ by rw [← EB.out]; simp [x6]
            clear x6
            go_wp2
            go_ret
            exact ⟨ret_bool hB.out.symm, BW.out⟩
          | true =>
            have X6 := hide x6
            clear x6
            go_wp2_with fail
            refine (Wrd.implOk save _).mono ?_
            rintro e u ⟨rfl, rfl⟩
            cases x7 : Wrd.wok save with
            | false =>
              have hB : Hid (B = false) := show _ = _ by rw [← EB.out]; simp [x7]
              clear x7
              go_wp2
              go_ret
              exact ⟨ret_bool hB.out.symm, BW.out⟩
            | true =>
              have X7 := hide x7
              clear x7
              by_cases y8 : 0 ≤ halt
              case neg =>
                have hB : Hid (B = false) := show _ = _ by rw [← EB.out]; simp [Ins.inB, y8]
                go_wp2
                go_ret
                first | exact ⟨ret_bool hB.out.symm, BW.out⟩ | exact ⟨ret_bool (by rw [hB.out]; exact decide_eq_false (by omega)), BW.out⟩
              by_cases y9 : halt ≤ 4
              case neg =>
                have hB : Hid (B = false) := show _ = _ by rw [← EB.out]; simp [Ins.inB, y9]
                go_wp2
                go_ret
                first | exact ⟨ret_bool hB.out.symm, BW.out⟩ | exact ⟨ret_bool (by rw [hB.out]; exact decide_eq_false (by omega)), BW.out⟩
              by_cases y10 : 0 ≤ count
              case neg =>
                have hB : Hid (B = false) := show _ = _ by rw [← EB.out]; simp [Ins.inB, y10]
                go_wp2
                go_ret
                first | exact ⟨ret_bool hB.out.symm, BW.out⟩ | exact ⟨ret_bool (by rw [hB.out]; exact decide_eq_false (by omega)), BW.out⟩
              by_cases y11 : count ≤ 1000000
              case neg =>
                have hB : Hid (B = false) := show _ = _ by rw [← EB.out]; simp [Ins.inB, y11]
                go_wp2
                go_ret
                first | exact ⟨ret_bool hB.out.symm, BW.out⟩ | exact ⟨ret_bool (by rw [hB.out]; exact decide_eq_false (by omega)), BW.out⟩
              have hB : Hid (B = true) := show _ = _ by rw [← EB.out]; simp [Ins.inB, Z0.out, Z1.out, X2.out, X3.out, X4.out, X5.out, X6.out, X7.out, y8, y9, y10, y11]
              go_wp2
              go_ret
              first | exact ⟨ret_bool hB.out.symm, BW.out⟩ | exact ⟨ret_bool (by rw [hB.out]; exact decide_eq_true (by omega)), BW.out⟩
end Go.Proofs.Ytpbpabcokfblfaa.MchI
