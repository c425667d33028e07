/-
  Pieces of code as data: contracts of the laws' own eqIrBlock, of the specification's l1In; a piece of code that came in.
-/
import Derived.Test.YtlgpnogeoaoidaaIrN
namespace Go.Proofs.Ytlgpnogeoaoidaa.Ir
set_option linter.unusedVariables false
open Go.ChangeShapes Go.WideShapes Go.ChangeAt Go.RowKit IntS Mch

def inI (n lo hi : Int) : Bool := decide (lo ≤ n ∧ n ≤ hi)
theorem l1In (n lo hi : Int) (w : World) : Calls Try.prog 40 #[.int .i64 n, .int .i64 lo, .int .i64 hi] w fun e w' => e = .returned (.bool (inI n lo hi)) ∧ w' = w := by
  by_cases h0 : lo ≤ n
  · by_cases h1 : n ≤ hi
    · have HD : Hid (inI n lo hi = true) := decide_eq_true ⟨h0, h1⟩
      go_enter Try.func40, Try.ntmps40
      go_wp2
      go_ret
      exact ⟨ret_bool HD.out.symm, rfl⟩
    · have HD : Hid (inI n lo hi = false) := decide_eq_false (fun h => h1 h.2)
      go_enter Try.func40, Try.ntmps40
      go_wp2
      go_ret
      exact ⟨ret_bool HD.out.symm, rfl⟩
  · have HD : Hid (inI n lo hi = false) := decide_eq_false (fun h => h0 h.1)
    go_enter Try.func40, Try.ntmps40
    go_wp2
    go_ret
    exact ⟨ret_bool HD.out.symm, rfl⟩
set_option maxRecDepth 8000 in
set_option maxHeartbeats 4000000 in
theorem eqIrOpS (os : List Opn) (B B' : Nat) (v v' : Value) (w : World) (h : ORow w B v os) (h' : ORow w B' v' os) :
    Calls Try.prog 55 #[v, v'] w fun e w' => e = .returned (.bool true) ∧ Below w.heap.size w w' := by
  obtain ⟨a, cap, off, rfl, h2, h3, hz, h4⟩ := h
  obtain ⟨a', cap', off', rfl, h2', h3', hz', h4'⟩ := h'
  unfold maxLen at h3 h3'
  clear hz hz'
  obtain ⟨n, en⟩ : ∃ n, os.length = n := ⟨_, rfl⟩
  have EN := hide en
  rw [en] at h2 h2' ⊢
  have H4 := hide h4
  have H4' := hide h4'
  have nn : ((n : Int) != (n : Int)) = false := by simp
  clear en h4 h4'
  go_enter Try.func55, Try.ntmps55
  by_cases n0 : n = 0
  · subst n0
    go_wp2
    refine wp_loop_rounds 1 ?_
    rw [rounds_succ]
    go_wp2
    go_ret
    exact ⟨rfl, Below.refl _ _⟩
  · obtain ⟨rfl, hc⟩ := H4.out.resolve_left (fun e => n0 (by rw [← EN.out, e]; rfl))
    obtain ⟨rfl, hc'⟩ := H4'.out.resolve_left (fun e => n0 (by rw [← EN.out, e]; rfl))
    have HC := hide hc
    have HC' := hide hc'
    clear hc hc' H4 H4'
    go_wp2
    go_loopw [5] (fun i wr => ∃ k : Nat, k ≤ n ∧ i = .int .i64 k ∧ Hid (Below w.heap.size w wr)) (fun i _ => n - (intOf i).toNat)
    case atStart => exact ⟨0, by omega, rfl, Below.refl _ _⟩
    case round =>
      obtain ⟨k, hk, rfl, HB⟩ := hrel
      by_cases hlt : k < n
      · obtain ⟨o, et⟩ : ∃ o, os[k]? = some o := ⟨_, List.getElem?_eq_getElem (by rw [EN.out]; exact hlt)⟩
        obtain ⟨c0, c1, c2, c3, c4⟩ := (HC.out k o et).below HB.out
        obtain ⟨d0, d1, d2, d3, d4⟩ := (HC'.out k o et).below HB.out
        have HB2 : Hid (Below w.heap.size w wr.drew) := HB.out.drew
        have lk : ((k : Nat) : Int) < (n : Nat) := by omega
        clear et
        go_wp2_with fail
        refine region_tail 8 (by kernel_rfl) (by kernel_rfl) ?_
        simp only [List.take_succ_cons, List.take_zero, List.drop_succ_cons, List.drop_zero]
        repeat still_step
        refine wpStill_nil ?_
        go_wp2_with fail
        refine (eqIrOp o _).mono ?_
        rintro e u ⟨rfl, hb⟩
        have HB3 := hide (HB2.out.trans (hb.mono HB2.out.size))
        clear hb
        go_wp2
        exact ⟨⟨k + 1, by omega, by go_num, HB3⟩, by simp [intOf]; omega⟩
      · go_wp2
        go_ret
        exact ⟨rfl, HB.out⟩
set_option maxRecDepth 8000 in
set_option maxHeartbeats 4000000 in
theorem eqIrBlock (b : Bk) (c c' : List Value) (w : World) (h : RBk w c b) (h' : RBk w c' b) :
    Calls Try.prog 52 #[.agg c.toArray, .agg c'.toArray] w fun e w' => e = .returned (.bool true) ∧ Below w.heap.size w w' := by
  obtain ⟨a, cap, B, rfl, hr⟩ := h
  obtain ⟨a', cap', B', rfl, hr'⟩ := h'
  obtain ⟨pc, ln, ops, en, x, y, k⟩ := b
  simp only [bv] at *
  have T := hide (Two.new w [.int .i64 pc, .int .i64 ln, .slice a ops.length cap, .int .i64 en, .int .i64 x, .int .i64 y, .int .i64 k] [.int .i64 pc, .int .i64 ln, .slice a' ops.length cap', .int .i64 en, .int .i64 x, .int .i64 y, .int .i64 k] 62 62)
  have H := hide (And.intro hr hr')
  have n1 := same_ne pc
  have n2 := same_ne ln
  have n3 := same_ne en
  have n4 := same_ne x
  have n5 := same_ne y
  have n6 := same_ne k
  clear hr hr'
  go_enter Try.func52, Try.ntmps52
  go_wp2_with fail
  refine (eqIrOpS ops B B' _ _ _ (H.out.1.below T.out.bw) (H.out.2.below T.out.bw)).mono ?_
  rintro e u ⟨rfl, hb⟩
  replace T := hide (T.out.below hb)
  clear hb H
  have a3 := T.out.a.cell 3 _ rfl
  have b3 := T.out.b.cell 3 _ rfl
  have a4 := T.out.a.cell 4 _ rfl
  have b4 := T.out.b.cell 4 _ rfl
  have a5 := T.out.a.cell 5 _ rfl
  have b5 := T.out.b.cell 5 _ rfl
  have a6 := T.out.a.cell 6 _ rfl
  have b6 := T.out.b.cell 6 _ rfl
  have BW := hide T.out.bw
  clear T
  go_wp2
  go_ret
  exact ⟨rfl, BW.out⟩
theorem list_of' {α : Type} {P : Nat → α → Prop} : ∀ n : Nat, (∀ i, i < n → ∃ x, P i x) → ∃ xs : List α, xs.length = n ∧ ∀ (i : Nat) x, xs[i]? = some x → P i x
  | 0, _ => ⟨[], rfl, fun i x h => by simp at h⟩
  | n + 1, h => by
    obtain ⟨xs, hl, hx⟩ := list_of' n (fun i hi => h i (by omega))
    obtain ⟨y, hy⟩ := h n (by omega)
    refine ⟨xs ++ [y], by simp [hl], fun i x hi => ?_⟩
    by_cases e : i < n
    · rw [List.getElem?_append_left (by omega)] at hi
      exact hx i x hi
    · rw [List.getElem?_append_right (by omega)] at hi
      have : i = n := by
        have := (List.getElem?_eq_some_iff.1 hi).1
        simp at this; omega
      subst this
      rw [hl, Nat.sub_self] at hi
      obtain rfl := Option.some.inj (show some y = some x from hi)
      exact hy
theorem fiveL {l : List Value} (h : l.length = 5) : ∃ a b c d e, l = [a, b, c, d, e] := by
  match l, h with
  | [a, b, c, d, e], _ => exact ⟨a, b, c, d, e, rfl⟩
theorem sevenL {l : List Value} (h : l.length = 7) : ∃ a b c d e f g, l = [a, b, c, d, e, f, g] := by
  match l, h with
  | [a, b, c, d, e, f, g], _ => exact ⟨a, b, c, d, e, f, g, rfl⟩
end Go.Proofs.Ytlgpnogeoaoidaa.Ir
