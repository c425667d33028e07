/-
  Lists of words: the program's allWords and the specification's l1Words.
-/
import Derived.Test.YtckhfpaicnjknaaGreatPolF
namespace Go.Proofs.YtckhfpaicnjknaaGreat.Pol
open Go.ChangeShapes Go.WideShapes Go.ChangeAt Go.RowKit IntS
def wordsB (xs : List Int) : Bool := xs.all Wrd.wok
theorem words_no {xs : List Int} {k : Nat} {x : Int} (hx : xs[k]? = some x) (h : Wrd.wok x = false) : wordsB xs = false := by
  unfold wordsB
  rw [List.all_eq_false]
  exact ⟨x, List.mem_of_getElem? hx, by simp [h]⟩
theorem words_yes {xs : List Int} (h : ∀ (k : Nat) x, xs[k]? = some x → Wrd.wok x = true) : wordsB xs = true := by
  unfold wordsB
  rw [List.all_eq_true]
  intro x hx
  obtain ⟨k, hk⟩ := List.getElem?_of_mem hx
  exact h k x hk
set_option maxHeartbeats 2000000 in
theorem allWords (xs : List Int) (B : Nat) (v : Value) (w : World) (h : Row w B v xs) :
    Calls Tryz.prog 43 #[v] w fun e w' => e = .returned (.bool (wordsB xs)) ∧ w' = w := by
  obtain ⟨a, cap, off, rfl, h2, h3, hz, h4⟩ := h
  unfold maxLen at h3
  clear hz
  obtain ⟨n, en⟩ : ∃ n, xs.length = n := ⟨_, rfl⟩
  rw [en] at h2 ⊢
  have EN := hide en
  have H4 := hide h4
  clear en h4
  by_cases h0 : n = 0
  · subst h0
    have e0 : xs = [] := List.length_eq_zero_iff.1 EN.out
    have HD : Hid (wordsB xs = true) := show _ = true by rw [e0]; rfl
    clear e0 H4 EN
    go_enter Tryz.func43, Tryz.ntmps43
    go_wp2
    refine wp_loop_rounds 1 ?_
    rw [rounds_succ]
    go_wp2
    go_ret
    exact ⟨ret_bool HD.out.symm, rfl⟩
  · obtain ⟨rfl, hc⟩ := H4.out.resolve_left (fun e => h0 (by rw [← EN.out, e]; rfl))
    have HC := hide hc
    clear hc H4
    go_enter Tryz.func43, Tryz.ntmps43
    go_wp2
    go_loopw [7] (fun i wr => ∃ k : Nat, k ≤ n ∧ i = .int .i64 k ∧ Hid (∀ (j : Nat) x, j < k → xs[j]? = some x → Wrd.wok x = true) ∧ wr = w) (fun i _ => n - (intOf i).toNat)
    case atStart => exact ⟨0, by omega, rfl, fun j x hj => by omega, rfl⟩
    case round =>
      obtain ⟨k, hk, rfl, HE, rfl⟩ := hrel
      by_cases hlt : k < n
      · obtain ⟨x, ex⟩ : ∃ x, xs[k]? = some x := ⟨_, List.getElem?_eq_getElem (by rw [EN.out]; exact hlt)⟩
        have cx := HC.out k x ex
        have EX := hide ex
        clear ex
        go_wp2_with fail
        refine (Wrd.implOk x _).mono ?_
        rintro e w1 ⟨rfl, rfl⟩
        cases hb : Wrd.wok x with
        | true =>
          have HX : Hid (∀ (j : Nat) y, j < k + 1 → xs[j]? = some y → Wrd.wok y = true) := fun j y hj hy => by
            by_cases ej : j = k
            · subst ej
              rw [EX.out] at hy
              obtain rfl := Option.some.inj hy
              exact hb
            · exact HE.out j y (by omega) hy
          clear hb
          go_wp2
          exact ⟨⟨k + 1, by omega, by go_num, HX, trivial⟩, by simp [intOf]; omega⟩
        | false =>
          have HD := hide (words_no EX.out hb)
          clear hb
          go_wp2
          go_ret
          exact ⟨ret_bool HD.out.symm, rfl⟩
      · have HD : Hid (wordsB xs = true) := words_yes fun j x hx => HE.out j x (by have := (List.getElem?_eq_some_iff.1 hx).1; rw [EN.out] at this; omega) hx
        go_wp2
        go_ret
        exact ⟨ret_bool HD.out.symm, rfl⟩
theorem words_mem {xs : List Int} (h : wordsB xs = true) (x : Int) (hx : x ∈ xs) : 0 ≤ x ∧ x < 65536 := by
  unfold wordsB at h
  rw [List.all_eq_true] at h
  have := h x hx
  unfold Wrd.wok at this
  exact of_decide_eq_true this
end Go.Proofs.YtckhfpaicnjknaaGreat.Pol
