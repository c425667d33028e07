/-
  The specification's MchOk: contracts of l1Words and MchOk.
-/
import Derived.Test.YtpbpabcokfblfaaMchM3
import Derived.Test.YtpbpabcokfblfaaInsC2
import Derived.Test.YtpbpabcokfblfaaWrdC
namespace Go.Proofs.Ytpbpabcokfblfaa.Mch
open Go.ChangeShapes Go.WideShapes Go.ChangeAt Go.RowKit IntS
def wordsB (xs : List Int) : Bool := xs.all Wrd.wok
theorem words_no {xs : List Int} {k : Nat} {x : Int} (hx : xs[k]? = some x) (h : Wrd.wok x = false) : wordsB xs = false := by
  unfold wordsB
  rw [List.all_eq_false]
  exact ⟨x, List.mem_of_getElem? hx, by simp [h]⟩
theorem words_yes {xs : List Int} (h : ∀ (k : Nat) x, xs[k]? = some x → Wrd.wok x = true) : wordsB xs = true := by
  unfold wordsB
  rw [List.all_eq_true]
  intro x hx
  obtain ⟨k, hk⟩ := List.getElem?_of_mem hx
  exact h k x hk
set_option maxHeartbeats 2000000 in
theorem l1Words (xs : List Int) (B : Nat) (v : Value) (w : World) (h : Row w B v xs) :
    Calls Try.prog 17 #[v] w fun e w' => e = .returned (.bool (wordsB xs)) ∧ w' = w := by
  obtain ⟨a, cap, off, rfl, h2, h3, hz, h4⟩ := h
  unfold maxLen at h3
  clear hz
  obtain ⟨n, en⟩ : ∃ n, xs.length = n := ⟨_, rfl⟩
  rw [en] at h2 ⊢
  have EN := hide en
  have H4 := hide h4
  clear en h4
  by_cases h0 : n = 0
  · subst h0
    have e0 : xs = [] := List.length_eq_zero_iff.1 EN.out
    have HD : Hid (wordsB xs = true) := show _ = true by rw [e0]; rfl
    clear e0 H4 EN
    go_enter Try.func17, Try.ntmps17
    go_wp2
    refine wp_loop_rounds 1 ?_
    rw [rounds_succ]
    go_wp2
    go_ret
    exact ⟨ret_bool HD.out.symm, rfl⟩
  · obtain ⟨rfl, hc⟩ := H4.out.resolve_left (fun e => h0 (by rw [← EN.out, e]; rfl))
    have HC := hide hc
    clear hc H4
    go_enter Try.func17, Try.ntmps17
    go_wp2
    go_loopw [3] (fun i wr => ∃ k : Nat, k ≤ n ∧ i = .int .i64 k ∧ Hid (∀ (j : Nat) x, j < k → xs[j]? = some x → Wrd.wok x = true) ∧ wr = w) (fun i _ => n - (intOf i).toNat)
    case atStart => exact ⟨0, by omega, rfl, fun j x hj => by omega, rfl⟩
    case round =>
      obtain ⟨k, hk, rfl, HE, rfl⟩ := hrel
      by_cases hlt : k < n
      · obtain ⟨x, ex⟩ : ∃ x, xs[k]? = some x := ⟨_, List.getElem?_eq_getElem (by rw [EN.out]; exact hlt)⟩
        have cx := HC.out k x ex
        have EX := hide ex
        clear ex
        go_wp2_with fail
        refine (Wrd.specOk x _).mono ?_
        rintro e w1 ⟨rfl, rfl⟩
        cases hb : Wrd.wok x with
        | true =>
          have HX : Hid (∀ (j : Nat) y, j < k + 1 → xs[j]? = some y → Wrd.wok y = true) := fun j y hj hy => by
            by_cases ej : j = k
            · subst ej
              rw [EX.out] at hy
              obtain rfl := Option.some.inj hy
              exact hb
            · exact HE.out j y (by omega) hy
          clear hb
          go_wp2
          exact ⟨⟨k + 1, by omega, by go_num, HX, trivial⟩, by simp [intOf]; omega⟩
        | false =>
          have HD := hide (words_no EX.out hb)
          clear hb
          go_wp2
          go_ret
          exact ⟨ret_bool HD.out.symm, rfl⟩
      · have HD : Hid (wordsB xs = true) := words_yes fun j x hx => HE.out j x (by have := (List.getElem?_eq_some_iff.1 hx).1; rw [EN.out] at this; omega) hx
        go_wp2
        go_ret
        exact ⟨ret_bool HD.out.symm, rfl⟩
/-- Whether a machine is ok. -/
def okM (m : M) : Bool := decide (m.regs.length = 4) && wordsB m.regs && Wrd.wok m.pc && decide (m.mem.length = 64) && wordsB m.mem && Wrd.wok m.save && Ins.inB m.halt 0 4 && wordsB m.ins && wordsB m.outs && Ins.inB m.count 0 1000000
end Go.Proofs.Ytpbpabcokfblfaa.Mch
