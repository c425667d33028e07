/-
  The laws' own comparison of instructions (laList), of lists that are the same.
-/
import Derived.Test.YtmmlhmhlfmafgaaLaM
import Derived.Test.YtmmlhmhlfmafgaaInsS
namespace Go.Proofs.Ytmmlhmhlfmafgaa.La
set_option linter.unusedVariables false
set_option linter.unusedSimpArgs false
open Go.ChangeShapes Go.WideShapes Go.ChangeAt Go.RowKit IntS Flat
open InsS (In4 IRow at4)
set_option maxRecDepth 8000 in
set_option maxHeartbeats 4000000 in
theorem laList (is : List In4) (B B' : Nat) (v v' : Value) (w : World) (h : IRow w B v is) (h' : IRow w B' v' is) :
    Calls Try.prog 11 #[v, v'] w fun e w' => e = .returned (.bool true) ∧ Below w.heap.size w w' := by
  obtain ⟨a, cap, off, rfl, h2, h3, hz, hfl, h4⟩ := h
  obtain ⟨a', cap', off', rfl, h2', h3', hz', hfl', h4'⟩ := h'
  unfold maxLen at h3 h3'
  clear hz hz' hfl hfl'
  obtain ⟨n, en⟩ : ∃ n, is.length = n := ⟨_, rfl⟩
  have EN := hide en
  rw [en] at h2 h2' h4 h4' ⊢
  have ne0 : ((n : Int) != (n : Int)) = false := by simp
  have H4 := hide h4
  have H4' := hide h4'
  clear en h4 h4'
  by_cases h0 : n = 0
  · subst h0
    clear H4 H4'
    go_enter Try.func11, Try.ntmps11
    go_wp2
    refine wp_loop_rounds 1 ?_
    rw [rounds_succ]
    go_wp2
    go_ret
    exact ⟨rfl, Below.refl _ _⟩
  · obtain ⟨rfl, hc⟩ := H4.out.resolve_left h0
    obtain ⟨rfl, hc'⟩ := H4'.out.resolve_left h0
    have HC := hide hc
    have HC' := hide hc'
    clear hc hc' H4 H4'
    go_enter Try.func11, Try.ntmps11
    go_wp2
    go_loopw [5] (fun i wr => ∃ k : Nat, k ≤ n ∧ i = .int .i64 k ∧ Hid (Below w.heap.size w wr)) (fun i _ => n - (intOf i).toNat)
    case atStart => exact ⟨0, by omega, rfl, Below.refl _ _⟩
    case round =>
      obtain ⟨k, hk, rfl, HB⟩ := hrel
      by_cases hlt : k < n
      · obtain ⟨i, et⟩ : ∃ i, is[k]? = some i := ⟨_, List.getElem?_eq_getElem (by rw [EN.out]; exact hlt)⟩
        obtain ⟨p0, p1, p2, p3⟩ := at4 HC.out et
        obtain ⟨q0, q1, q2, q3⟩ := at4 HC'.out et
        have c0 := cell_below HB.out p0
        have c1 := cell_below HB.out p1
        have c2 := cell_below HB.out p2
        have c3 := cell_below HB.out p3
        have d0 := cell_below HB.out q0
        have d1 := cell_below HB.out q1
        have d2 := cell_below HB.out q2
        have d3 := cell_below HB.out q3
        have lk : ((k : Nat) : Int) < (n : Nat) := by omega
        clear et p0 p1 p2 p3 q0 q1 q2 q3
        go_wp2
        go_region
        go_wp2
        have HD : Hid (Below w.heap.size w wr.drew) := HB.out.drew
        exact ⟨⟨k + 1, by omega, by go_num, HD⟩, by simp [intOf]; omega⟩
      · go_wp2
        go_ret
        exact ⟨rfl, HB.out⟩
end Go.Proofs.Ytmmlhmhlfmafgaa.La
