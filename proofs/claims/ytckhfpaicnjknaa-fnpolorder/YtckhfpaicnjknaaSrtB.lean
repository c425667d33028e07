/-
  slices.AppendSeq, slices.Collect and slices.Sorted of ints that an iterator tells in order.
-/
import Derived.Test.YtckhfpaicnjknaaSrtA
import Derived.RangeFuncBox
import Derived.Maps.AppendAt
namespace Go.Proofs.Ytckhfpaicnjknaa.Srt
set_option linter.unusedVariables false
open Go.ChangeShapes Go.WideShapes Go.ChangeAt Go.RowKit Go.Shelf IntS Rng
attribute [local go_sem] Oper.semAt_some
theorem owns_mild {B base k size : Nat} {e : TypeId} {A A' : World} {v : Value} {xs : List Value} (h : A.ownsRow base e size v k xs) (hm : Mild B A A') : A'.ownsRow base e size v k xs := by
  obtain ⟨hl, h0 | ⟨g, cap, cur, hv, hb, hh, rest⟩⟩ := h
  · exact ⟨hl, Or.inl h0⟩
  · exact ⟨hl, Or.inr ⟨g, cap, cur, hv, hb, hm.cells _ _ _ _ hh, rest⟩⟩
theorem boxed_mild {B b : Nat} {t : TypeId} {A A' : World} {v : Value} (h : Boxed A b t v) (hm : Mild B A A') : Boxed A' b t v := hm.cells _ _ _ _ h
set_option maxRecDepth 100000 in
set_option maxHeartbeats 4000000 in
theorem appendSeq (g : Nat) (lb : Array Value) (eg : ∀ args w, (callFunc g args).run Try.prog w = .ok (.enter g args) w) (zs : List Int) (hl : zs.length ≤ 1000000) (w : World) (Src : World → Prop)
    (T : Tells Try.prog g lb (fun x : Int => #[.int .i64 x]) Src (fun pre x _ _ => pre ++ [x] <+: zs) (fun xs => xs = zs) (fun _ => False)) (hSrc : ∀ A, Below w.heap.size w A → Src A) :
    CallsIn Fence.wide 0 Try.prog 97 #[.slice none 0 0, .func (.func g) #[] lb] w fun e w' => ∃ v, e = .returned v ∧ w'.ownsRow w.heap.size 3 1 v zs.length (vals zs) ∧ (v = .slice none 0 0 ↔ zs = []) ∧ Below w.heap.size w w' := by
  obtain ⟨i0, hi, hz0, hz1, hz2⟩ := info_int
  refine callsIn_of_wp_marks Try.func97 rfl trivial ?_ rfl
  simp only [Try.ntmps97, List.size_toArray, List.length_cons, List.length_nil, Nat.reduceAdd, Nat.reduceSub, Array.replicate_succ, Array.replicate_zero, List.push_toArray, List.append_toArray, List.nil_append, List.cons_append]
  gi_wp2
  have bO := Boxed.new w 39 (.slice none 0 0)
  have hB0 : Below w.heap.size w (w.alloc (.cells #[.slice none 0 0] 39)) := (Below.refl _ w).alloc (Nat.le_refl _) _
  have hsz : w.heap.size ≤ (w.alloc (.cells #[.slice none 0 0] 39)).heap.size := by simp
  have PL : Hid (∀ (pre : List Int) (x : Int), pre ++ [x] <+: zs → pre.length + 1 ≤ 1000000) := fun pre x h => by
    have := h.length_le
    rw [List.length_append] at this
    simp at this
    omega
  refine range (gf := g) (lb := lb) rfl eg T (fun _ => rfl)
    (fun pre A => (∃ v, Boxed A w.heap.size 39 v ∧ A.ownsRow w.heap.size 3 1 v pre.length (vals pre) ∧ (v = .slice none 0 0 ↔ pre = [])) ∧ Below w.heap.size w A)
    (fun _ _ => False)
    (fun pre x a₁ A => ((∃ v, Boxed A w.heap.size 39 v ∧ A.ownsRow w.heap.size 3 1 v pre.length (vals pre) ∧ (v = .slice none 0 0 ↔ pre = [])) ∧ Below w.heap.size w A) ∧ pre ++ [x] <+: zs ∧
      a₁ = { tmps := #[.slice none 0 0, .func (.func g) #[] lb, .pointer (some ⟨w.heap.size, 0, none⟩), undef, .slice none 0 0, .int .i64 x, .func (.func g) #[] lb, .int .i64 x, undef, undef, undef, undef, undef], defers := [] })
    (fun pre A h => hSrc A h.2)
    (fun pre A A' h hm => ⟨let ⟨v, h1, h2, h3⟩ := h.1; ⟨v, boxed_mild h1 hm, owns_mild h2 hm, h3⟩, (Mild.below h.2 ⟨hm.os, hm.tape, hm.output, hm.size, fun k hk hl => hm.low k (Nat.lt_of_lt_of_le hk hsz) hl, hm.cells⟩ (Nat.le_refl _))⟩)
    (fun _ _ _ h _ => h.elim)
    (fun pre x a₁ A A' h hm => ⟨⟨let ⟨v, h1, h2, h3⟩ := h.1.1; ⟨v, boxed_mild h1 hm, owns_mild h2 hm, h3⟩, (Mild.below h.1.2 ⟨hm.os, hm.tape, hm.output, hm.size, fun k hk hl => hm.low k (Nat.lt_of_lt_of_le hk hsz) hl, hm.cells⟩ (Nat.le_refl _))⟩, h.2⟩)
    ⟨⟨_, bO, World.ownsRow_nil _ _ _ _, by simp⟩, hB0⟩ ?_ ?_ ?_ ?_
  · rintro l pre x A₀ A K ⟨⟨v, h1, h2, h3⟩, h4⟩ hb hF hK
    have hm : Mild 0 A₀ A := Mild.of_below hb
    have hI : (∃ v, Boxed A w.heap.size 39 v ∧ A.ownsRow w.heap.size 3 1 v pre.length (vals pre) ∧ (v = .slice none 0 0 ↔ pre = [])) ∧ Below w.heap.size w A := ⟨⟨v, boxed_mild h1 hm, owns_mild h2 hm, h3⟩, h4.trans (hb.mono h4.size)⟩
    clear hm h1 h2 h3 h4 hb
    simp
    gi_wp2
    exact hK _ _ (KeepsFrom.refl _ _) (Kept.refl _) ⟨hI, hF, rfl⟩
  · rintro l pre x a₁ A ⟨⟨⟨v, hv, hrow, hnil⟩, hB⟩, hF, rfl⟩
    have hc := hv.cell
    have hp := PL.out _ _ hF
    gi_wp2_with (gi_at_builtin; refine wpListIn_append_own _ rfl _ _ 39 rfl w.heap.size 3 i0 (.int .i64 0) 1 8 Try.underlying39 hi hz0 hz1 hz2 rfl (by decide) _ _ _ rfl (hrow.alloc _) ⟨A.heap.size, 0, none⟩ 1 1 [.int .i64 x] rfl rfl (cell_one_new _ _ _) (by simp [Value.oneCell']) (by unfold maxLen; omega) (by omega) (by have := hB.size; simp; omega) ?_; intro v' w1 hown' hgrow _; obtain ⟨g', cap', rfl⟩ := ownsRow_succ hown'; obtain ⟨hv1, hv2, hr2, hk2, hb2⟩ := hv.appended (by decide) hrow hB.size (Nat.le_refl _) hown' hgrow; have hc1 := hv1.cell; have hf1 := hv1.frozen)
    exact ⟨hk2.from _, ⟨⟨_, hv2, by simpa [vals] using hr2, by simp⟩, hB.trans hb2⟩, fun _ _ _ _ h => h.elim⟩
  · rintro D xs A hD rfl ⟨⟨v, hv, hrow, hnil⟩, hB⟩ hK
    have hc := hv.cell
    gi_wp2
    refine ⟨by simp, .inl ⟨_, _, rfl, run_takeDeferred hK, ?_⟩⟩
    exact ⟨_, results_tmp rfl _ _ _, v, rfl, ownsRow_putObj hrow _ hK rfl, hnil, hB.trans (belowK_b (w := w) (Nat.le_refl _) A D _ _ (by simp at hD; omega) hK rfl rfl)⟩
  · rintro D pre A _ h _
    exact h.elim
end Go.Proofs.Ytckhfpaicnjknaa.Srt
