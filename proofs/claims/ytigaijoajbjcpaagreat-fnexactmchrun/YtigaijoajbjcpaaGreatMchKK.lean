/-
  Whether a number is one of a list: the specification's l3Has, and slices.Contains.
-/
import Derived.Test.YtigaijoajbjcpaaGreatMchLM
namespace Go.Proofs.YtigaijoajbjcpaaGreat.Mch
open Go.ChangeShapes Go.WideShapes Go.ChangeAt Go.RowKit IntS
theorem has_yes {xs : List Int} {k : Nat} {n : Int} (h : xs[k]? = some n) : hasB xs n = true := decide_eq_true (List.mem_of_getElem? h)
theorem has_no {xs : List Int} {n : Int} (h : ∀ (k : Nat) x, xs[k]? = some x → x ≠ n) : hasB xs n = false := by
  refine decide_eq_false fun hm => ?_
  obtain ⟨k, hk⟩ := List.getElem?_of_mem hm
  exact h k n hk rfl
set_option maxHeartbeats 2000000 in
theorem l3Has (xs : List Int) (q : Int) (B : Nat) (v : Value) (w : World) (h : Row w B v xs) :
    Calls Tryz.prog 18 #[v, .int .i64 q] w fun e w' => e = .returned (.bool (hasB xs q)) ∧ w' = w := by
  obtain ⟨a, cap, off, rfl, h2, h3, hz, h4⟩ := h
  unfold maxLen at h3
  clear hz
  obtain ⟨n, en⟩ : ∃ n, xs.length = n := ⟨_, rfl⟩
  rw [en] at h2 ⊢
  have EN := hide en
  have H4 := hide h4
  clear en h4
  by_cases h0 : n = 0
  · subst h0
    have e0 : xs = [] := List.length_eq_zero_iff.1 EN.out
    have HD : Hid (hasB xs q = false) := show _ = false by rw [e0]; rfl
    clear e0 H4 EN
    go_enter Tryz.func18, Tryz.ntmps18
    go_wp2
    refine wp_loop_rounds 1 ?_
    rw [rounds_succ]
    go_wp2
    go_ret
    exact ⟨ret_bool HD.out.symm, rfl⟩
  · obtain ⟨rfl, hc⟩ := H4.out.resolve_left (fun e => h0 (by rw [← EN.out, e]; rfl))
    have HC := hide hc
    clear hc H4
    go_enter Tryz.func18, Tryz.ntmps18
    go_wp2
    go_loopw [5] (fun i wr => ∃ k : Nat, k ≤ n ∧ i = .int .i64 k ∧ Hid (∀ (j : Nat) x, j < k → xs[j]? = some x → x ≠ q) ∧ wr = w) (fun i _ => n - (intOf i).toNat)
    case atStart => exact ⟨0, by omega, rfl, fun j x hj => by omega, rfl⟩
    case round =>
      obtain ⟨k, hk, rfl, HE, rfl⟩ := hrel
      by_cases hlt : k < n
      · obtain ⟨x, ex⟩ : ∃ x, xs[k]? = some x := ⟨_, List.getElem?_eq_getElem (by rw [EN.out]; exact hlt)⟩
        have cx := HC.out k x ex
        have EX := hide ex
        clear ex
        by_cases hb : x = q
        · have HD := hide (has_yes (hb ▸ EX.out : xs[k]? = some q))
          have hb' : (x == q) = true := by simp [hb]
          clear hb
          go_wp2
          go_ret
          exact ⟨ret_bool HD.out.symm, rfl⟩
        · have HX : Hid (∀ (j : Nat) y, j < k + 1 → xs[j]? = some y → y ≠ q) := fun j y hj hy => by
            by_cases ej : j = k
            · subst ej
              rw [EX.out] at hy
              obtain rfl := Option.some.inj hy
              exact hb
            · exact HE.out j y (by omega) hy
          have hb' : (x == q) = false := by simp [hb]
          clear hb
          go_wp2
          exact ⟨⟨k + 1, by omega, by go_num, HX, trivial⟩, by simp [intOf]; omega⟩
      · have HD : Hid (hasB xs q = false) := has_no fun j x hx => HE.out j x (by have := (List.getElem?_eq_some_iff.1 hx).1; rw [EN.out] at this; omega) hx
        go_wp2
        go_ret
        exact ⟨ret_bool HD.out.symm, rfl⟩
set_option maxHeartbeats 2000000 in
theorem index (xs : List Int) (q : Int) (B : Nat) (v : Value) (w : World) (h : Row w B v xs) :
    Calls Tryz.prog 55 #[v, .int .i64 q] w fun e w' => ∃ r : Int, e = .returned (.int .i64 r) ∧ decide (0 ≤ r) = hasB xs q ∧ w' = w := by
  obtain ⟨a, cap, off, rfl, h2, h3, hz, h4⟩ := h
  unfold maxLen at h3
  clear hz
  obtain ⟨n, en⟩ : ∃ n, xs.length = n := ⟨_, rfl⟩
  rw [en] at h2 ⊢
  have EN := hide en
  have H4 := hide h4
  clear en h4
  by_cases h0 : n = 0
  · subst h0
    have e0 : xs = [] := List.length_eq_zero_iff.1 EN.out
    have HD : Hid (hasB xs q = false) := show _ = false by rw [e0]; rfl
    clear e0 H4 EN
    go_enter Tryz.func55, Tryz.ntmps55
    go_wp2
    refine wp_loop_rounds 1 ?_
    rw [rounds_succ]
    go_wp2
    go_ret
    exact ⟨-1, rfl, by rw [HD.out]; decide, rfl⟩
  · obtain ⟨rfl, hc⟩ := H4.out.resolve_left (fun e => h0 (by rw [← EN.out, e]; rfl))
    have HC := hide hc
    clear hc H4
    go_enter Tryz.func55, Tryz.ntmps55
    go_wp2
    go_loopw [8] (fun i wr => ∃ k : Nat, k ≤ n ∧ i = .int .i64 k ∧ Hid (∀ (j : Nat) x, j < k → xs[j]? = some x → x ≠ q) ∧ wr = w) (fun i _ => n - (intOf i).toNat)
    case atStart => exact ⟨0, by omega, rfl, fun j x hj => by omega, rfl⟩
    case round =>
      obtain ⟨k, hk, rfl, HE, rfl⟩ := hrel
      by_cases hlt : k < n
      · obtain ⟨x, ex⟩ : ∃ x, xs[k]? = some x := ⟨_, List.getElem?_eq_getElem (by rw [EN.out]; exact hlt)⟩
        have cx := HC.out k x ex
        have EX := hide ex
        clear ex
        by_cases hb : x = q
        · have HD := hide (has_yes (hb ▸ EX.out : xs[k]? = some q))
          have hb' : (q == x) = true := by simp [hb]
          clear hb
          go_wp2
          go_ret
          exact ⟨k, rfl, by rw [HD.out]; exact decide_eq_true (by omega), rfl⟩
        · have HX : Hid (∀ (j : Nat) y, j < k + 1 → xs[j]? = some y → y ≠ q) := fun j y hj hy => by
            by_cases ej : j = k
            · subst ej
              rw [EX.out] at hy
              obtain rfl := Option.some.inj hy
              exact hb
            · exact HE.out j y (by omega) hy
          have hb' : (q == x) = false := by simp; exact fun e => hb e.symm
          clear hb
          go_wp2
          exact ⟨⟨k + 1, by omega, by go_num, HX, trivial⟩, by simp [intOf]; omega⟩
      · have HD : Hid (hasB xs q = false) := has_no fun j x hx => HE.out j x (by have := (List.getElem?_eq_some_iff.1 hx).1; rw [EN.out] at this; omega) hx
        go_wp2
        go_ret
        exact ⟨-1, rfl, by rw [HD.out]; decide, rfl⟩
theorem contains (xs : List Int) (q : Int) (B : Nat) (v : Value) (w : World) (h : Row w B v xs) :
    Calls Tryz.prog 24 #[v, .int .i64 q] w fun e w' => e = .returned (.bool (hasB xs q)) ∧ w' = w := by
  have H := hide h
  clear h
  go_enter Tryz.func24, Tryz.ntmps24
  go_wp2_with fail
  refine (index xs q B _ _ H.out).mono ?_
  rintro e u ⟨r, rfl, hr, rfl⟩
  have HR := hide hr
  clear hr
  go_wp2
  go_ret
  exact ⟨ret_bool HR.out, rfl⟩
end Go.Proofs.YtigaijoajbjcpaaGreat.Mch
