/-
  slices.Values of ints: what its iterator tells.
-/
import Derived.Test.YtckhfpaicnjknaaRng
import Derived.Test.YtckhfpaicnjknaaIntA
import Derived.Test.YtckhfpaicnjknaaLays
namespace Go.Proofs.Ytckhfpaicnjknaa.Srt
set_option linter.unusedVariables false
open Go.ChangeShapes Go.WideShapes Go.ChangeAt Go.RowKit Go.Shelf IntS Rng
attribute [local go_sem] Oper.semAt_some
set_option maxRecDepth 100000 in
set_option maxHeartbeats 4000000 in
theorem values (Bs B : Nat) (sv : Value) (zs : List Int) (hl : zs.length ≤ 1000000) :
    Tells Try.prog 92 #[.pointer (some ⟨Bs, 0, none⟩)] (fun x : Int => #[.int .i64 x]) (fun A => A.cell? ⟨Bs, 0, none⟩ = some sv ∧ Row A B sv zs) (fun pre x _ _ => pre ++ [x] <+: zs) (fun xs => xs = zs) (fun _ => False) := by
  intro l J Jx W hS hb hY h0
  obtain ⟨hc, hr⟩ := hS _ _ h0
  obtain ⟨a, cap, off, rfl, h2, h3, hz, h4⟩ := hr
  unfold maxLen at h3
  rcases h4 with rfl | ⟨rfl, h4⟩
  · refine callsIn_of_wp Try.func92 rfl trivial ?_ rfl
    simp only [Try.ntmps92, List.size_toArray, List.length_cons, List.length_nil, Nat.reduceAdd, Nat.reduceSub, Array.replicate_succ, Array.replicate_zero, List.push_toArray, List.append_toArray, List.nil_append, List.cons_append] at hc ⊢
    clear hS hb hY hz
    gi_wp2
    gi_loopw [7] (fun i wr => i = .int .i64 0 ∧ J [] wr) (fun _ _ => 0)
    case atStart => exact ⟨rfl, h0⟩
    case round =>
      obtain ⟨rfl, hJs⟩ := hrel
      gi_wp2
      go_end0
      exact ⟨⟨_, rfl⟩, .inl ⟨_, rfl, hJs⟩⟩
  · obtain ⟨n, en⟩ : ∃ n, zs.length = n := ⟨_, rfl⟩
    have HS : Hid (∀ pre A, J pre A → ∀ (i : Nat) x, zs[i]? = some x → A.cell? ⟨B, off + i, none⟩ = some (.int .i64 x)) := fun pre A hj i x hx => by
      obtain ⟨_, a', cap', off', e1, _, _, _, e2⟩ := hS pre A hj
      rcases e2 with e2 | ⟨e2, e3⟩
      · rw [e2] at hx; simp at hx
      · subst e2
        injection e1 with f1 _ _
        injection f1 with f2
        injection f2 with _ f3 _
        rw [f3]
        exact e3 i x hx
    have EN := hide en
    rw [en] at h2 hl hc
    have HY := hide hY
    clear hS hb hY hz h4 en
    refine callsIn_of_wp Try.func92 rfl trivial ?_ rfl
    simp only [Try.ntmps92, List.size_toArray, List.length_cons, List.length_nil, Nat.reduceAdd, Nat.reduceSub, Array.replicate_succ, Array.replicate_zero, List.push_toArray, List.append_toArray, List.nil_append, List.cons_append]
    gi_wp2
    gi_loopw [7] (fun i wr => ∃ k : Nat, k ≤ n ∧ i = .int .i64 k ∧ J (zs.take k) wr) (fun i _ => n - (intOf i).toNat)
    case atStart => exact ⟨0, Nat.zero_le _, rfl, h0⟩
    case round =>
      obtain ⟨k, hk, rfl, hJs⟩ := hrel
      clear hc
      by_cases hlt : k < n
      · obtain ⟨x, ex⟩ : ∃ x, zs[k]? = some x := ⟨_, List.getElem?_eq_getElem (by rw [EN.out]; exact hlt)⟩
        have hcx := HS.out _ _ hJs k x ex
        have et : zs.take (k + 1) = zs.take k ++ [x] := by rw [List.take_add_one, ex]; rfl
        obtain ⟨fn, tmps, assign, body, hy, hR⟩ := HY.out _ x wr wr hJs (Below.refl _ _) (by rw [← et]; exact List.take_prefix _ _)
        rw [← et] at hR
        have lk : ((k : Nat) : Int) < (n : Nat) := by omega
        clear ex et
        gi_wp2
        refine ⟨rfl, hR.mono ?_⟩
        rintro e W3 (⟨rfl, hJ3, _⟩ | ⟨rfl, hJx3⟩)
        · gi_wp2
          go_roundw
          case rel => exact ⟨k + 1, by omega, by simp, hJ3⟩
          case measure => simp [intOf]; omega
        · gi_wp2
          refine bodyPost_ret (results_none rfl _ _ _) rfl ?_
          exact ⟨⟨_, rfl⟩, .inr ⟨_, hJx3⟩⟩
      · obtain rfl : k = n := by omega
        gi_wp2
        go_end0
        exact ⟨⟨_, rfl⟩, .inl ⟨_, by rw [← EN.out, List.take_length], hJs⟩⟩
end Go.Proofs.Ytckhfpaicnjknaa.Srt
