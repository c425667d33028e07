/-
  What is kept: slices.Equal at ints, whether words stand at a place.
-/
import Derived.Test.YthlpndligadnjaaCaM
import Derived.Test.YthlpndligadnjaaCaA
namespace Go.Proofs.Ythlpndligadnjaa.Dt
set_option linter.unusedVariables false
set_option linter.unusedSimpArgs false
open Go.ChangeShapes Go.WideShapes Go.ChangeAt Go.RowKit IntS Pol Push Flat Irk
open Ir (Opn Bk bv ORow WORow RBk WBk OpAt SoftAt)
/-- What can be read of a row of numbers: where it lies. -/
theorem ints_at {w : World} {v : Value} {xs : List Int} (h : intsK.rd w v xs) : ∃ (a : Option Addr) (cap : Nat), v = .slice a xs.length cap ∧ xs.length ≤ cap ∧ cap ≤ 9223372036854775807 ∧ (a = none → cap = 0) ∧ (xs ≠ [] → ∃ B off, a = some ⟨B, off, none⟩ ∧ ∀ (i : Nat) x, xs[i]? = some x → w.cell? ⟨B, off + i, none⟩ = some (.int .i64 x)) := by
  obtain ⟨B, a, cap, off, h1, h2, h3, hz, h4⟩ := ints_to h
  unfold maxLen at h3
  refine ⟨a, cap, h1, h2, h3, hz, fun hn => ?_⟩
  obtain ⟨e, q⟩ := h4.resolve_left hn
  exact ⟨B, off, e, q⟩
set_option maxRecDepth 8000 in
set_option maxHeartbeats 16000000 in
theorem equalInts (xs ys : List Int) (v v' : Value) (w : World) (h : intsK.rd w v xs) (h' : intsK.rd w v' ys) :
    Calls Try.prog 69 #[v, v'] w fun e w' => e = .returned (.bool (decide (xs = ys))) ∧ Below w.heap.size w w' := by
  obtain ⟨a, cap, rfl, h2, h3, -, h4⟩ := ints_at h
  obtain ⟨a', cap', rfl, h2', h3', -, h4'⟩ := ints_at h'
  obtain ⟨M, eM⟩ : ∃ M, decide (xs = ys) = M := ⟨_, rfl⟩
  rw [eM]
  have EM := hide eM
  have H4 := hide h4
  have H4' := hide h4'
  obtain ⟨n, en⟩ : ∃ n, xs.length = n := ⟨_, rfl⟩
  obtain ⟨n', en'⟩ : ∃ n, ys.length = n := ⟨_, rfl⟩
  have EN := hide en
  have EN' := hide en'
  rw [en] at h2
  rw [en'] at h2'
  clear eM h4 h4' h h' en en'
  by_cases hn : n = n'
  case neg =>
    have e : M = false := by rw [← EM.out]; exact decide_eq_false (fun e => hn (by rw [← EN.out, ← EN'.out, e]))
    have EY := hide e
    have ne : ¬ ((n : Nat) : Int) = (n' : Nat) := by omega
    clear e EM
    go_enter Try.func69, Try.ntmps69
    rw [EN.out, EN'.out]
    go_wp2
    go_ret
    exact ⟨by rw [EY.out]; rfl, Below.refl _ _⟩
  subst hn
  have AL0 : Hid (∀ j x, j < 0 → xs[j]? = some x → ys[j]? = some x) := fun j x hj => by omega
  have BW0 : Hid (Below w.heap.size w w) := Below.refl _ _
  go_enter Try.func69, Try.ntmps69
  rw [EN.out, EN'.out]
  go_wp2
  go_loopw [13] (fun i wr => ∃ k : Nat, k ≤ n ∧ i = .int .i64 k ∧ Hid (∀ j x, j < k → xs[j]? = some x → ys[j]? = some x) ∧ Hid (Below w.heap.size w wr)) (fun i _ => n - (intOf i).toNat)
  case atStart => exact ⟨0, by omega, rfl, AL0, BW0⟩
  case round =>
    clear AL0 BW0
    obtain ⟨k, hk, rfl, AL, BW⟩ := hrel
    by_cases hlt : k < n
    case neg =>
      obtain rfl : k = n := by omega
      have e : M = true := by
        rw [← EM.out]
        refine decide_eq_true (List.ext_getElem? fun j => ?_)
        cases hx : xs[j]? with
        | none => exact (List.getElem?_eq_none (by rw [EN'.out, ← EN.out]; exact List.getElem?_eq_none_iff.1 hx)).symm
        | some x => exact (AL.out j x (by rw [← EN.out]; exact (List.getElem?_eq_some_iff.1 hx).1) hx).symm
      have EY := hide e
      clear e EM AL
      go_wp2
      go_ret
      exact ⟨by rw [EY.out]; rfl, BW.out⟩
    obtain ⟨x, ex⟩ : ∃ x, xs[k]? = some x := ⟨_, List.getElem?_eq_getElem (by rw [EN.out]; exact hlt)⟩
    obtain ⟨y, ey⟩ : ∃ y, ys[k]? = some y := ⟨_, List.getElem?_eq_getElem (by rw [EN'.out]; exact hlt)⟩
    obtain ⟨B, off, rfl, hc⟩ := H4.out (fun e => by rw [e] at ex; simp at ex)
    obtain ⟨B', off', rfl, hc'⟩ := H4'.out (fun e => by rw [e] at ey; simp at ey)
    have z0 : wr.drew.cell? ⟨B, off + k, none⟩ = some (.int .i64 x) := cell_below BW.out (hc k x ex)
    have y0 : wr.drew.cell? ⟨B', off' + k, none⟩ = some (.int .i64 y) := cell_below BW.out (hc' k y ey)
    have BD := hide (BW.out.trans ((Below.refl wr.heap.size wr).drew.mono BW.out.size))
    have EX := hide ex
    have EYY := hide ey
    have lk : ((k : Nat) : Int) < (n : Nat) := by omega
    clear ex ey hc hc'
    go_wp2_with fail
    refine region_all (by kernel_rfl) (by kernel_rfl) ?_
    refine Pol.head_yes (by kernel_rfl) (fun K hK => ?_)
    go_simp
    refine hK _ ?_
    clear hK K
    refine Pol.head_yes (by kernel_rfl) (fun K hK => ?_)
    go_simp
    refine hK _ ?_
    clear hK K
    refine Pol.head_yes (by kernel_rfl) (fun K hK => ?_)
    go_simp
    refine hK _ ?_
    clear hK K
    refine Pol.head_yes (by kernel_rfl) (fun K hK => ?_)
    go_simp
    refine hK _ ?_
    clear hK K
    refine Pol.head_yes (by kernel_rfl) (fun K hK => ?_)
    go_simp
    refine hK _ ?_
    clear hK K
    refine Pol.head_yes (by kernel_rfl) (fun K hK => ?_)
    go_simp
    refine hK _ ?_
    clear hK K
    refine Pol.head_yes (by kernel_rfl) (fun K hK => ?_)
    go_simp
    refine hK _ ?_
    clear hK K
    refine Pol.head_yes (by kernel_rfl) (fun K hK => ?_)
    go_simp
    refine hK _ ?_
    clear hK K
    refine Pol.head_yes (by kernel_rfl) (fun K hK => ?_)
    go_simp
    refine hK _ ?_
    clear hK K
    refine Pol.head_nil ?_
    clear z0 y0
    by_cases hxy : x = y
    · subst hxy
      have AL2 : Hid (∀ j z, j < k + 1 → xs[j]? = some z → ys[j]? = some z) := fun j z hj hz => by
        by_cases e : j = k
        · subst e
          rw [EX.out] at hz
          cases hz
          exact EYY.out
        · exact AL.out j z (by omega) hz
      have nb : (x != x) = false := by simp
      clear AL EX EYY BW
      go_wp2
      exact ⟨⟨k + 1, by omega, by go_num, AL2, BD⟩, by simp [intOf]; omega⟩
    · have e : M = false := by
        rw [← EM.out]
        refine decide_eq_false (fun e => hxy ?_)
        have h1 := EX.out
        rw [e, EYY.out] at h1
        cases h1
        rfl
      have nb : (x != y) = true := by simpa using hxy
      have EY := hide e
      clear e EM AL EX EYY BW
      go_wp2
      go_ret
      exact ⟨by rw [EY.out]; rfl, BD.out⟩
set_option maxRecDepth 8000 in
set_option maxHeartbeats 16000000 in
theorem l12There (ws mem : List Int) (pc : Nat) (v v' : Value) (w : World) (h : intsK.rd w v ws) (h' : intsK.rd w v' mem) (hp : pc ≤ 9223372036854775807) :
    Calls Try.prog 53 #[v, v', .int .i64 (pc : Nat)] w fun e w' => e = .returned (.bool (thereB ws mem (pc : Nat))) ∧ Below w.heap.size w w' := by
  obtain ⟨a, cap, rfl, h2, h3, -, h4⟩ := ints_at h
  obtain ⟨a', cap', rfl, h2', h3', -, h4'⟩ := ints_at h'
  obtain ⟨M, eM⟩ : ∃ M, thereB ws mem (pc : Nat) = M := ⟨_, rfl⟩
  rw [eM]
  have EM := hide eM
  have H4 := hide h4
  have H4' := hide h4'
  obtain ⟨n, en⟩ : ∃ n, ws.length = n := ⟨_, rfl⟩
  obtain ⟨n', en'⟩ : ∃ n, mem.length = n := ⟨_, rfl⟩
  have EN := hide en
  have EN' := hide en'
  rw [en] at h2
  rw [en'] at h2'
  have AL0 : Hid (∀ j, j < 0 → ∃ x, mem[pc + j]? = some x ∧ ws[j]? = some x) := fun j hj => by omega
  have BW0 : Hid (Below w.heap.size w w) := Below.refl _ _
  clear eM h4 h4' h h' en en'
  go_enter Try.func53, Try.ntmps53
  rw [EN.out, EN'.out]
  go_wp2
  go_loopw [7] (fun i wr => ∃ k : Nat, k ≤ n ∧ i = .int .i64 k ∧ Hid (∀ j, j < k → ∃ x, mem[pc + j]? = some x ∧ ws[j]? = some x) ∧ Hid (Below w.heap.size w wr)) (fun i _ => n - (intOf i).toNat)
  case atStart => exact ⟨0, by omega, rfl, AL0, BW0⟩
  case round =>
    clear AL0 BW0
    obtain ⟨k, hk, rfl, AL, BW⟩ := hrel
    by_cases hlt : k < n
    case neg =>
      obtain rfl : k = n := by omega
      have e : M = true := by rw [← EM.out]; exact there_at (fun j hj => AL.out j (by rw [EN.out] at hj; exact hj))
      have EY := hide e
      clear e EM AL
      go_wp2
      go_ret
      exact ⟨by rw [EY.out]; rfl, BW.out⟩
    obtain ⟨x, ex⟩ : ∃ x, ws[k]? = some x := ⟨_, List.getElem?_eq_getElem (by rw [EN.out]; exact hlt)⟩
    obtain ⟨B, off, rfl, hc⟩ := H4.out (fun e => by rw [e] at ex; simp at ex)
    have z0 : wr.drew.cell? ⟨B, off + k, none⟩ = some (.int .i64 x) := cell_below BW.out (hc k x ex)
    have BD := hide (BW.out.trans ((Below.refl wr.heap.size wr).drew.mono BW.out.size))
    have small : pc + k ≤ 9223372036854775807 := by
      by_cases k0 : k = 0
      · omega
      · obtain ⟨_, e1, _⟩ := AL.out (k - 1) (by omega)
        have := (List.getElem?_eq_some_iff.1 e1).1
        rw [EN'.out] at this
        omega
    have wf1 : IntKind.i64.wrap (((pc : Nat) : Int) + ((k : Nat) : Int)) = ((pc : Nat) : Int) + ((k : Nat) : Int) := IntWalk.i64_in _ ⟨by omega, by omega⟩
    have lk : ((k : Nat) : Int) < (n : Nat) := by omega
    have EX := hide ex
    clear ex hc
    by_cases hin : pc + k < n'
    case neg =>
      have ge : ¬ ((pc : Nat) : Int) + ((k : Nat) : Int) < (n' : Nat) := by omega
      have ge2 : ((n' : Nat) : Int) ≤ ((pc : Nat) : Int) + ((k : Nat) : Int) := by omega
      have e : M = false := by
        rw [← EM.out]
        exact there_no (k := k) (by rw [EN.out]; exact hlt) (fun z hz => by have := (List.getElem?_eq_some_iff.1 hz).1; rw [EN'.out] at this; omega)
      have EY := hide e
      have d1 : decide (((n' : Nat) : Int) ≤ ((pc : Nat) : Int) + ((k : Nat) : Int)) = true := decide_eq_true ge2
      clear e EM AL EX BW
      go_wp2_with fail
      refine region_all (by kernel_rfl) (by kernel_rfl) ?_
      refine Pol.head_yes (by kernel_rfl) (fun K hK => ?_)
      go_simp
      refine hK _ ?_
      clear hK K
      refine Pol.head_yes (by kernel_rfl) (fun K hK => ?_)
      go_simp
      refine hK _ ?_
      clear hK K
      refine Pol.head_yes (by kernel_rfl) (fun K hK => ?_)
      go_simp
      refine hK _ ?_
      clear hK K
      refine Pol.head_yes (by kernel_rfl) (fun K hK => ?_)
      go_simp
      refine hK _ ?_
      clear hK K
      refine Pol.head_yes (by kernel_rfl) (fun K hK => ?_)
      go_simp
      refine hK _ ?_
      clear hK K
      refine Pol.head_yes (by kernel_rfl) (fun K hK => ?_)
      go_simp
      refine hK _ ?_
      clear hK K
      try simp only [d1]
      refine Pol.head_yes (by kernel_rfl) (fun K hK => ?_)
      go_simp
      refine hK _ ?_
      clear hK K
      refine Pol.head_no (by kernel_rfl) ?_
      try simp only [Act.put, List.setIfInBounds_toArray, List.set]
      refine Pol.head_no (by kernel_rfl) ?_
      try simp only [Act.put, List.setIfInBounds_toArray, List.set]
      refine Pol.head_no (by kernel_rfl) ?_
      try simp only [Act.put, List.setIfInBounds_toArray, List.set]
      refine Pol.head_no (by kernel_rfl) ?_
      try simp only [Act.put, List.setIfInBounds_toArray, List.set]
      refine Pol.head_no (by kernel_rfl) ?_
      try simp only [Act.put, List.setIfInBounds_toArray, List.set]
      refine Pol.head_no (by kernel_rfl) ?_
      try simp only [Act.put, List.setIfInBounds_toArray, List.set]
      refine Pol.head_no (by kernel_rfl) ?_
      try simp only [Act.put, List.setIfInBounds_toArray, List.set]
      refine Pol.head_no (by kernel_rfl) ?_
      try simp only [Act.put, List.setIfInBounds_toArray, List.set]
      refine Pol.head_no (by kernel_rfl) ?_
      try simp only [Act.put, List.setIfInBounds_toArray, List.set]
      refine Pol.head_no (by kernel_rfl) ?_
      try simp only [Act.put, List.setIfInBounds_toArray, List.set]
      refine Pol.head_no (by kernel_rfl) ?_
      try simp only [Act.put, List.setIfInBounds_toArray, List.set]
      refine Pol.head_yes (by kernel_rfl) (fun K hK => ?_)
      go_simp
      refine hK _ ?_
      clear hK K
      refine Pol.head_nil ?_
      clear z0
      go_wp2
      go_ret
      exact ⟨by rw [EY.out]; rfl, BD.out⟩
    obtain ⟨y, ey⟩ : ∃ y, mem[pc + k]? = some y := ⟨_, List.getElem?_eq_getElem (by rw [EN'.out]; exact hin)⟩
    obtain ⟨B', off', rfl, hc'⟩ := H4'.out (fun e => by rw [e] at ey; simp at ey)
    have y0 : wr.drew.cell? ⟨B', off' + (pc + k), none⟩ = some (.int .i64 y) := cell_below BW.out (hc' (pc + k) y ey)
    have lt1 : ((pc : Nat) : Int) + ((k : Nat) : Int) < (n' : Nat) := by omega
    have lt2 : ¬ ((n' : Nat) : Int) ≤ ((pc : Nat) : Int) + ((k : Nat) : Int) := by omega
    have d1 : decide (((n' : Nat) : Int) ≤ ((pc : Nat) : Int) + ((k : Nat) : Int)) = false := decide_eq_false lt2
    have pos1 : 0 ≤ ((pc : Nat) : Int) + ((k : Nat) : Int) := by omega
    have tn1 : (((pc : Nat) : Int) + ((k : Nat) : Int)).toNat = pc + k := by omega
    have EYY := hide ey
    clear ey hc' small
    by_cases hxy : y = x
    · subst hxy
      have nb : (y != y) = false := by simp
      have AL2 : Hid (∀ j, j < k + 1 → ∃ x, mem[pc + j]? = some x ∧ ws[j]? = some x) := fun j hj => by
        by_cases e : j = k
        · subst e
          exact ⟨y, EYY.out, EX.out⟩
        · exact AL.out j (by omega)
      clear AL EX EYY BW
      go_wp2_with fail
      refine region_all (by kernel_rfl) (by kernel_rfl) ?_
      refine Pol.head_yes (by kernel_rfl) (fun K hK => ?_)
      go_simp
      refine hK _ ?_
      clear hK K
      refine Pol.head_yes (by kernel_rfl) (fun K hK => ?_)
      go_simp
      refine hK _ ?_
      clear hK K
      refine Pol.head_yes (by kernel_rfl) (fun K hK => ?_)
      go_simp
      refine hK _ ?_
      clear hK K
      refine Pol.head_yes (by kernel_rfl) (fun K hK => ?_)
      go_simp
      refine hK _ ?_
      clear hK K
      refine Pol.head_yes (by kernel_rfl) (fun K hK => ?_)
      go_simp
      refine hK _ ?_
      clear hK K
      refine Pol.head_yes (by kernel_rfl) (fun K hK => ?_)
      go_simp
      refine hK _ ?_
      clear hK K
      try simp only [d1]
      refine Pol.head_yes (by kernel_rfl) (fun K hK => ?_)
      go_simp
      refine hK _ ?_
      clear hK K
      refine Pol.head_yes (by kernel_rfl) (fun K hK => ?_)
      go_simp
      refine hK _ ?_
      clear hK K
      refine Pol.head_yes (by kernel_rfl) (fun K hK => ?_)
      go_simp
      refine hK _ ?_
      clear hK K
      refine Pol.head_yes (by kernel_rfl) (fun K hK => ?_)
      go_simp
      refine hK _ ?_
      clear hK K
      refine Pol.head_yes (by kernel_rfl) (fun K hK => ?_)
      go_simp
      refine hK _ ?_
      clear hK K
      refine Pol.head_yes (by kernel_rfl) (fun K hK => ?_)
      go_simp
      refine hK _ ?_
      clear hK K
      refine Pol.head_yes (by kernel_rfl) (fun K hK => ?_)
      go_simp
      refine hK _ ?_
      clear hK K
      refine Pol.head_yes (by kernel_rfl) (fun K hK => ?_)
      go_simp
      refine hK _ ?_
      clear hK K
      refine Pol.head_yes (by kernel_rfl) (fun K hK => ?_)
      go_simp
      refine hK _ ?_
      clear hK K
      refine Pol.head_yes (by kernel_rfl) (fun K hK => ?_)
      go_simp
      refine hK _ ?_
      clear hK K
      refine Pol.head_yes (by kernel_rfl) (fun K hK => ?_)
      go_simp
      refine hK _ ?_
      clear hK K
      refine Pol.head_yes (by kernel_rfl) (fun K hK => ?_)
      go_simp
      refine hK _ ?_
      clear hK K
      refine Pol.head_yes (by kernel_rfl) (fun K hK => ?_)
      go_simp
      refine hK _ ?_
      clear hK K
      refine Pol.head_nil ?_
      clear z0 y0
      go_wp2
      exact ⟨⟨k + 1, by omega, by go_num, AL2, BD⟩, by simp [intOf]; omega⟩
    · have nb : (y != x) = true := by simpa using hxy
      have e : M = false := by
        rw [← EM.out]
        exact there_no (k := k) (by rw [EN.out]; exact hlt) (fun z hz e2 => by
          rw [EYY.out] at hz
          rw [EX.out] at e2
          cases hz
          cases e2
          exact hxy rfl)
      have EY := hide e
      clear e EM AL EX EYY BW
      go_wp2_with fail
      refine region_all (by kernel_rfl) (by kernel_rfl) ?_
      refine Pol.head_yes (by kernel_rfl) (fun K hK => ?_)
      go_simp
      refine hK _ ?_
      clear hK K
      refine Pol.head_yes (by kernel_rfl) (fun K hK => ?_)
      go_simp
      refine hK _ ?_
      clear hK K
      refine Pol.head_yes (by kernel_rfl) (fun K hK => ?_)
      go_simp
      refine hK _ ?_
      clear hK K
      refine Pol.head_yes (by kernel_rfl) (fun K hK => ?_)
      go_simp
      refine hK _ ?_
      clear hK K
      refine Pol.head_yes (by kernel_rfl) (fun K hK => ?_)
      go_simp
      refine hK _ ?_
      clear hK K
      refine Pol.head_yes (by kernel_rfl) (fun K hK => ?_)
      go_simp
      refine hK _ ?_
      clear hK K
      try simp only [d1]
      refine Pol.head_yes (by kernel_rfl) (fun K hK => ?_)
      go_simp
      refine hK _ ?_
      clear hK K
      refine Pol.head_yes (by kernel_rfl) (fun K hK => ?_)
      go_simp
      refine hK _ ?_
      clear hK K
      refine Pol.head_yes (by kernel_rfl) (fun K hK => ?_)
      go_simp
      refine hK _ ?_
      clear hK K
      refine Pol.head_yes (by kernel_rfl) (fun K hK => ?_)
      go_simp
      refine hK _ ?_
      clear hK K
      refine Pol.head_yes (by kernel_rfl) (fun K hK => ?_)
      go_simp
      refine hK _ ?_
      clear hK K
      refine Pol.head_yes (by kernel_rfl) (fun K hK => ?_)
      go_simp
      refine hK _ ?_
      clear hK K
      refine Pol.head_yes (by kernel_rfl) (fun K hK => ?_)
      go_simp
      refine hK _ ?_
      clear hK K
      refine Pol.head_yes (by kernel_rfl) (fun K hK => ?_)
      go_simp
      refine hK _ ?_
      clear hK K
      refine Pol.head_yes (by kernel_rfl) (fun K hK => ?_)
      go_simp
      refine hK _ ?_
      clear hK K
      refine Pol.head_yes (by kernel_rfl) (fun K hK => ?_)
      go_simp
      refine hK _ ?_
      clear hK K
      refine Pol.head_yes (by kernel_rfl) (fun K hK => ?_)
      go_simp
      refine hK _ ?_
      clear hK K
      refine Pol.head_yes (by kernel_rfl) (fun K hK => ?_)
      go_simp
      refine hK _ ?_
      clear hK K
      refine Pol.head_yes (by kernel_rfl) (fun K hK => ?_)
      go_simp
      refine hK _ ?_
      clear hK K
      refine Pol.head_nil ?_
      clear z0 y0
      go_wp2
      go_ret
      exact ⟨by rw [EY.out]; rfl, BD.out⟩
end Go.Proofs.Ythlpndligadnjaa.Dt
