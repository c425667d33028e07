/-
  Library functions laid at this dump by the shelf's own tool (lay-plain): sortI.
  slices.Values of ints: what its iterator tells.
  slices.AppendSeq, slices.Collect and slices.Sorted of ints that an iterator tells in order.
  slices.Sorted(slices.Values(xs)) of ints: a new slice, sorted.
  Texts of atoms: each list of atoms that is fine has one of its own, and they stand as the lists do.
-/
import Derived.Shelf.SortM.Plain
import Derived.Shelf.SortM.SortNone
import Derived.Ground.SlgmProg
import Derived.Test.YtnlfcocejkaieaaProg
import Derived.Test.YtnlfcocejkaieaaJ13
import Derived.Test.YtnlfcocejkaieaaJ02
import Derived.RangeFuncBox
import Derived.Maps.AppendAt
import Derived.Shelf.SlIterI.Sorted
import Derived.Test.YtnlfcocejkaieaaJ03
namespace Go.Proofs
open Go.Shelf
def Try.sortI_ren : Go.Shelf.Ren := ⟨fun | 5 => 54 | 8 => 60 | 7 => 59 | 19 => 69 | 20 => 70 | 10 => 61 | 11 => 62 | 12 => 63 | 13 => 64 | 14 => 65 | 15 => 66 | 16 => 56 | 17 => 67 | 18 => 68 | 30 => 71 | 31 => 72 | 32 => 73 | 33 => 74 | 34 => 75 | 35 => 57 | 40 => 76 | n => n, fun | 23 => 51 | 25 => 3 | 3 => 3 | 32 => 82 | 22 => 51 | 0 => 0 | 44 => 106 | 46 => 108 | 4 => 4 | 36 => 100 | 35 => 99 | 41 => 70 | 5 => 5 | 9 => 9 | 53 => 109 | 57 => 113 | 63 => 115 | 64 => 116 | n => n, fun | n => n⟩
theorem Try.sortI : Go.Proofs.SlLaysM.n5 Try.prog Try.sortI_ren := {
  mixed := by kernel_rfl
  f5 := ⟨Try.f54.name, by decide, Try.func54.trans (congrArg some (by kernel_rfl))⟩
  f7 := ⟨Try.f59.name, by decide, Try.func59.trans (congrArg some (by kernel_rfl))⟩
  f8 := Try.func60.trans (congrArg some (by kernel_rfl))
  f10 := ⟨Try.f61.name, by decide, Try.func61.trans (congrArg some (by kernel_rfl))⟩
  f11 := ⟨Try.f62.name, by decide, Try.func62.trans (congrArg some (by kernel_rfl))⟩
  f12 := ⟨Try.f63.name, by decide, Try.func63.trans (congrArg some (by kernel_rfl))⟩
  f13 := ⟨Try.f64.name, by decide, Try.func64.trans (congrArg some (by kernel_rfl))⟩
  f14 := ⟨Try.f65.name, by decide, Try.func65.trans (congrArg some (by kernel_rfl))⟩
  f15 := ⟨Try.f66.name, by decide, Try.func66.trans (congrArg some (by kernel_rfl))⟩
  f16 := ⟨Try.f56.name, by decide, Try.func56.trans (congrArg some (by kernel_rfl))⟩
  f17 := ⟨Try.f67.name, by decide, Try.func67.trans (congrArg some (by kernel_rfl))⟩
  f18 := ⟨Try.f68.name, by decide, Try.func68.trans (congrArg some (by kernel_rfl))⟩
  f19 := Try.func69.trans (congrArg some (by kernel_rfl))
  f20 := Try.func70.trans (congrArg some (by kernel_rfl))
  f30 := ⟨Try.f71.name, by decide, Try.func71.trans (congrArg some (by kernel_rfl))⟩
  f31 := Try.func72.trans (congrArg some (by kernel_rfl))
  f32 := Try.func73.trans (congrArg some (by kernel_rfl))
  f33 := ⟨Try.f74.name, by decide, Try.func74.trans (congrArg some (by kernel_rfl))⟩
  f34 := ⟨Try.f75.name, by decide, Try.func75.trans (congrArg some (by kernel_rfl))⟩
  f35 := ⟨Try.f57.name, by decide, Try.func57.trans (congrArg some (by kernel_rfl))⟩
  f40 := ⟨Try.f76.name, by decide, Try.func76.trans (congrArg some (by kernel_rfl))⟩
  t0 := Try.underlying0
  a0 := Try.isAgg0
  z0 := Try.sizeOf0
  v0 := Try.zeroValue0
  t3 := Try.underlying3
  a3 := Try.isAgg3
  z3 := Try.sizeOf3
  v3 := Try.zeroValue3
  t4 := Try.underlying4
  a4 := Try.isAgg4
  z4 := Try.sizeOf4
  v4 := Try.zeroValue4
  t5 := Try.underlying5
  a5 := Try.isAgg5
  z5 := Try.sizeOf5
  v5 := Try.zeroValue5
  t9 := Try.underlying9
  a9 := Try.isAgg9
  z9 := Try.sizeOf9
  v9 := Try.zeroValue9
  t22 := Try.underlying51
  a22 := Try.isAgg51
  z22 := Try.sizeOf51
  v22 := Try.zeroValue51
  t23 := Try.underlying51
  a23 := Try.isAgg51
  z23 := Try.sizeOf51
  v23 := Try.zeroValue51
  t25 := Try.underlying3
  a25 := Try.isAgg3
  z25 := Try.sizeOf3
  v25 := Try.zeroValue3
  t32 := Try.underlying82
  a32 := Try.isAgg82
  z32 := Try.sizeOf82
  v32 := Try.zeroValue82
  t35 := Try.underlying99
  a35 := Try.isAgg99
  z35 := Try.sizeOf99
  v35 := Try.zeroValue99
  t36 := Try.underlying100
  a36 := Try.isAgg100
  z36 := Try.sizeOf100
  v36 := Try.zeroValue100
  t41 := Try.underlying70
  a41 := Try.isAgg70
  z41 := Try.sizeOf70
  v41 := Try.zeroValue70
  t44 := Try.underlying106
  a44 := Try.isAgg106
  z44 := Try.sizeOf106
  v44 := Try.zeroValue106
  t46 := Try.underlying108
  a46 := Try.isAgg108
  z46 := Try.sizeOf108
  v46 := Try.zeroValue108
  t53 := Try.underlying109
  a53 := Try.isAgg109
  z53 := Try.sizeOf109
  v53 := Try.zeroValue109
  t57 := Try.underlying113
  a57 := Try.isAgg113
  z57 := Try.sizeOf113
  v57 := Try.zeroValue113
  t63 := Try.underlying115
  a63 := Try.isAgg115
  z63 := Try.sizeOf115
  v63 := Try.zeroValue115
  t64 := Try.underlying116
  a64 := Try.isAgg116
  z64 := Try.sizeOf116
  v64 := Try.zeroValue116 }
end Go.Proofs
namespace Go.Proofs.Ytnlfcocejkaieaa.Srt
set_option linter.unusedVariables false
open Go.ChangeShapes Go.WideShapes Go.ChangeAt Go.RowKit Go.Shelf IntS Rng
attribute [local go_sem] Oper.semAt_some
set_option maxRecDepth 100000 in
set_option maxHeartbeats 4000000 in
theorem values (Bs B : Nat) (sv : Value) (zs : List Int) (hl : zs.length ≤ 1000000) :
    Tells Try.prog 55 #[.pointer (some ⟨Bs, 0, none⟩)] (fun x : Int => #[.int .i64 x]) (fun A => A.cell? ⟨Bs, 0, none⟩ = some sv ∧ Row A B sv zs) (fun pre x _ _ => pre ++ [x] <+: zs) (fun xs => xs = zs) (fun _ => False) := by
  intro l J Jx W hS hb hY h0
  obtain ⟨hc, hr⟩ := hS _ _ h0
  obtain ⟨a, cap, off, rfl, h2, h3, hz, h4⟩ := hr
  unfold maxLen at h3
  rcases h4 with rfl | ⟨rfl, h4⟩
  · refine callsIn_of_wp Try.func55 rfl trivial ?_ rfl
    simp only [Try.ntmps55, List.size_toArray, List.length_cons, List.length_nil, Nat.reduceAdd, Nat.reduceSub, Array.replicate_succ, Array.replicate_zero, List.push_toArray, List.append_toArray, List.nil_append, List.cons_append] at hc ⊢
    clear hS hb hY hz
    gi_wp2
    gi_loopw [7] (fun i wr => i = .int .i64 0 ∧ J [] wr) (fun _ _ => 0)
    case atStart => exact ⟨rfl, h0⟩
    case round =>
      obtain ⟨rfl, hJs⟩ := hrel
      gi_wp2
      go_end0
      exact ⟨⟨_, rfl⟩, .inl ⟨_, rfl, hJs⟩⟩
  · obtain ⟨n, en⟩ : ∃ n, zs.length = n := ⟨_, rfl⟩
    have HS : Hid (∀ pre A, J pre A → ∀ (i : Nat) x, zs[i]? = some x → A.cell? ⟨B, off + i, none⟩ = some (.int .i64 x)) := fun pre A hj i x hx => by
      obtain ⟨_, a', cap', off', e1, _, _, _, e2⟩ := hS pre A hj
      rcases e2 with e2 | ⟨e2, e3⟩
      · rw [e2] at hx; simp at hx
      · subst e2
        injection e1 with f1 _ _
        injection f1 with f2
        injection f2 with _ f3 _
        rw [f3]
        exact e3 i x hx
    have EN := hide en
    rw [en] at h2 hl hc
    have HY := hide hY
    clear hS hb hY hz h4 en
    refine callsIn_of_wp Try.func55 rfl trivial ?_ rfl
    simp only [Try.ntmps55, List.size_toArray, List.length_cons, List.length_nil, Nat.reduceAdd, Nat.reduceSub, Array.replicate_succ, Array.replicate_zero, List.push_toArray, List.append_toArray, List.nil_append, List.cons_append]
    gi_wp2
    gi_loopw [7] (fun i wr => ∃ k : Nat, k ≤ n ∧ i = .int .i64 k ∧ J (zs.take k) wr) (fun i _ => n - (intOf i).toNat)
    case atStart => exact ⟨0, Nat.zero_le _, rfl, h0⟩
    case round =>
      obtain ⟨k, hk, rfl, hJs⟩ := hrel
      clear hc
      by_cases hlt : k < n
      · obtain ⟨x, ex⟩ : ∃ x, zs[k]? = some x := ⟨_, List.getElem?_eq_getElem (by rw [EN.out]; exact hlt)⟩
        have hcx := HS.out _ _ hJs k x ex
        have et : zs.take (k + 1) = zs.take k ++ [x] := by rw [List.take_add_one, ex]; rfl
        obtain ⟨fn, tmps, assign, body, hy, hR⟩ := HY.out _ x wr wr hJs (Below.refl _ _) (by rw [← et]; exact List.take_prefix _ _)
        rw [← et] at hR
        have lk : ((k : Nat) : Int) < (n : Nat) := by omega
        clear ex et
        gi_wp2
        refine ⟨rfl, hR.mono ?_⟩
        rintro e W3 (⟨rfl, hJ3, _⟩ | ⟨rfl, hJx3⟩)
        · gi_wp2
          go_roundw
          case rel => exact ⟨k + 1, by omega, by simp, hJ3⟩
          case measure => simp [intOf]; omega
        · gi_wp2
          refine bodyPost_ret (results_none rfl _ _ _) rfl ?_
          exact ⟨⟨_, rfl⟩, .inr ⟨_, hJx3⟩⟩
      · obtain rfl : k = n := by omega
        gi_wp2
        go_end0
        exact ⟨⟨_, rfl⟩, .inl ⟨_, by rw [← EN.out, List.take_length], hJs⟩⟩
end Go.Proofs.Ytnlfcocejkaieaa.Srt
namespace Go.Proofs.Ytnlfcocejkaieaa.Srt
set_option linter.unusedVariables false
open Go.ChangeShapes Go.WideShapes Go.ChangeAt Go.RowKit Go.Shelf IntS Rng
attribute [local go_sem] Oper.semAt_some
theorem owns_mild {B base k size : Nat} {e : TypeId} {A A' : World} {v : Value} {xs : List Value} (h : A.ownsRow base e size v k xs) (hm : Mild B A A') : A'.ownsRow base e size v k xs := by
  obtain ⟨hl, h0 | ⟨g, cap, cur, hv, hb, hh, rest⟩⟩ := h
  · exact ⟨hl, Or.inl h0⟩
  · exact ⟨hl, Or.inr ⟨g, cap, cur, hv, hb, hm.cells _ _ _ _ hh, rest⟩⟩
theorem boxed_mild {B b : Nat} {t : TypeId} {A A' : World} {v : Value} (h : Boxed A b t v) (hm : Mild B A A') : Boxed A' b t v := hm.cells _ _ _ _ h
set_option maxRecDepth 100000 in
set_option maxHeartbeats 4000000 in
theorem appendSeq (g : Nat) (lb : Array Value) (eg : ∀ args w, (callFunc g args).run Try.prog w = .ok (.enter g args) w) (zs : List Int) (hl : zs.length ≤ 1000000) (w : World) (Src : World → Prop)
    (T : Tells Try.prog g lb (fun x : Int => #[.int .i64 x]) Src (fun pre x _ _ => pre ++ [x] <+: zs) (fun xs => xs = zs) (fun _ => False)) (hSrc : ∀ A, Below w.heap.size w A → Src A) :
    CallsIn Fence.wide 0 Try.prog 58 #[.slice none 0 0, .func (.func g) #[] lb] w fun e w' => ∃ v, e = .returned v ∧ w'.ownsRow w.heap.size 3 1 v zs.length (vals zs) ∧ (v = .slice none 0 0 ↔ zs = []) ∧ Below w.heap.size w w' := by
  obtain ⟨i0, hi, hz0, hz1, hz2⟩ := info_int
  refine callsIn_of_wp_marks Try.func58 rfl trivial ?_ rfl
  simp only [Try.ntmps58, List.size_toArray, List.length_cons, List.length_nil, Nat.reduceAdd, Nat.reduceSub, Array.replicate_succ, Array.replicate_zero, List.push_toArray, List.append_toArray, List.nil_append, List.cons_append]
  gi_wp2
  have bO := Boxed.new w 51 (.slice none 0 0)
  have hB0 : Below w.heap.size w (w.alloc (.cells #[.slice none 0 0] 51)) := (Below.refl _ w).alloc (Nat.le_refl _) _
  have hsz : w.heap.size ≤ (w.alloc (.cells #[.slice none 0 0] 51)).heap.size := by simp
  have PL : Hid (∀ (pre : List Int) (x : Int), pre ++ [x] <+: zs → pre.length + 1 ≤ 1000000) := fun pre x h => by
    have := h.length_le
    rw [List.length_append] at this
    simp at this
    omega
  refine range (gf := g) (lb := lb) rfl eg T (fun _ => rfl)
    (fun pre A => (∃ v, Boxed A w.heap.size 51 v ∧ A.ownsRow w.heap.size 3 1 v pre.length (vals pre) ∧ (v = .slice none 0 0 ↔ pre = [])) ∧ Below w.heap.size w A)
    (fun _ _ => False)
    (fun pre x a₁ A => ((∃ v, Boxed A w.heap.size 51 v ∧ A.ownsRow w.heap.size 3 1 v pre.length (vals pre) ∧ (v = .slice none 0 0 ↔ pre = [])) ∧ Below w.heap.size w A) ∧ pre ++ [x] <+: zs ∧
      a₁ = { tmps := #[.slice none 0 0, .func (.func g) #[] lb, .pointer (some ⟨w.heap.size, 0, none⟩), undef, .slice none 0 0, .int .i64 x, .func (.func g) #[] lb, .int .i64 x, undef, undef, undef, undef, undef], defers := [] })
    (fun pre A h => hSrc A h.2)
    (fun pre A A' h hm => ⟨let ⟨v, h1, h2, h3⟩ := h.1; ⟨v, boxed_mild h1 hm, owns_mild h2 hm, h3⟩, (Mild.below h.2 ⟨hm.os, hm.tape, hm.output, hm.size, fun k hk hl => hm.low k (Nat.lt_of_lt_of_le hk hsz) hl, hm.cells⟩ (Nat.le_refl _))⟩)
    (fun _ _ _ h _ => h.elim)
    (fun pre x a₁ A A' h hm => ⟨⟨let ⟨v, h1, h2, h3⟩ := h.1.1; ⟨v, boxed_mild h1 hm, owns_mild h2 hm, h3⟩, (Mild.below h.1.2 ⟨hm.os, hm.tape, hm.output, hm.size, fun k hk hl => hm.low k (Nat.lt_of_lt_of_le hk hsz) hl, hm.cells⟩ (Nat.le_refl _))⟩, h.2⟩)
    ⟨⟨_, bO, World.ownsRow_nil _ _ _ _, by simp⟩, hB0⟩ ?_ ?_ ?_ ?_
  · rintro l pre x A₀ A K ⟨⟨v, h1, h2, h3⟩, h4⟩ hb hF hK
    have hm : Mild 0 A₀ A := Mild.of_below hb
    have hI : (∃ v, Boxed A w.heap.size 51 v ∧ A.ownsRow w.heap.size 3 1 v pre.length (vals pre) ∧ (v = .slice none 0 0 ↔ pre = [])) ∧ Below w.heap.size w A := ⟨⟨v, boxed_mild h1 hm, owns_mild h2 hm, h3⟩, h4.trans (hb.mono h4.size)⟩
    clear hm h1 h2 h3 h4 hb
    simp
    gi_wp2
    exact hK _ _ (KeepsFrom.refl _ _) (Kept.refl _) ⟨hI, hF, rfl⟩
  · rintro l pre x a₁ A ⟨⟨⟨v, hv, hrow, hnil⟩, hB⟩, hF, rfl⟩
    have hc := hv.cell
    have hp := PL.out _ _ hF
    gi_wp2_with (gi_at_builtin; refine wpListIn_append_own _ rfl _ _ 51 rfl w.heap.size 3 i0 (.int .i64 0) 1 8 Try.underlying51 hi hz0 hz1 hz2 rfl (by decide) _ _ _ rfl (hrow.alloc _) ⟨A.heap.size, 0, none⟩ 1 1 [.int .i64 x] rfl rfl (cell_one_new _ _ _) (by simp [Value.oneCell']) (by unfold maxLen; omega) (by omega) (by have := hB.size; simp; omega) ?_; intro v' w1 hown' hgrow _; obtain ⟨g', cap', rfl⟩ := ownsRow_succ hown'; obtain ⟨hv1, hv2, hr2, hk2, hb2⟩ := hv.appended (by decide) hrow hB.size (Nat.le_refl _) hown' hgrow; have hc1 := hv1.cell; have hf1 := hv1.frozen)
    exact ⟨hk2.from _, ⟨⟨_, hv2, by simpa [vals] using hr2, by simp⟩, hB.trans hb2⟩, fun _ _ _ _ h => h.elim⟩
  · rintro D xs A hD rfl ⟨⟨v, hv, hrow, hnil⟩, hB⟩ hK
    have hc := hv.cell
    gi_wp2
    refine ⟨by simp, .inl ⟨_, _, rfl, run_takeDeferred hK, ?_⟩⟩
    exact ⟨_, results_tmp rfl _ _ _, v, rfl, ownsRow_putObj hrow _ hK rfl, hnil, hB.trans (belowK_b (w := w) (Nat.le_refl _) A D _ _ (by simp at hD; omega) hK rfl rfl)⟩
  · rintro D pre A _ h _
    exact h.elim
end Go.Proofs.Ytnlfcocejkaieaa.Srt
namespace Go.Proofs.Ytnlfcocejkaieaa.Srt
set_option linter.unusedVariables false
open Go.ChangeShapes Go.WideShapes Go.ChangeAt Go.RowKit Go.Shelf IntS Rng
attribute [local go_sem] Oper.semAt_some
/-- Sorted, as the library sorts. -/
def sortI (xs : List Int) : List Int := xs.mergeSort fun x y => decide (x ≤ y)
set_option maxRecDepth 100000 in
set_option maxHeartbeats 4000000 in
theorem collect (g : Nat) (lb : Array Value) (eg : ∀ args w, (callFunc g args).run Try.prog w = .ok (.enter g args) w) (zs : List Int) (hl : zs.length ≤ 1000000) (w : World) (Src : World → Prop)
    (T : Tells Try.prog g lb (fun x : Int => #[.int .i64 x]) Src (fun pre x _ _ => pre ++ [x] <+: zs) (fun xs => xs = zs) (fun _ => False)) (hSrc : ∀ A, Below w.heap.size w A → Src A) :
    Calls Try.prog 53 #[.func (.func g) #[] lb] w fun e w' => ∃ v, e = .returned v ∧ w'.ownsRow w.heap.size 3 1 v zs.length (vals zs) ∧ (v = .slice none 0 0 ↔ zs = []) ∧ Below w.heap.size w w' := by
  have C := callsIn_wide.1 (appendSeq g lb eg zs hl w Src T hSrc)
  go_enter Try.func53, Try.ntmps53
  go_wp2_with fail
  refine C.mono ?_
  rintro e w1 ⟨v, rfl, h1, h2, h3⟩
  go_wp2
  go_ret
  exact ⟨v, rfl, h1, h2, h3⟩
set_option maxRecDepth 100000 in
set_option maxHeartbeats 4000000 in
theorem sorted (g : Nat) (lb : Array Value) (eg : ∀ args w, (callFunc g args).run Try.prog w = .ok (.enter g args) w) (zs : List Int) (hl : zs.length ≤ 1000000) (w : World) (Src : World → Prop)
    (T : Tells Try.prog g lb (fun x : Int => #[.int .i64 x]) Src (fun pre x _ _ => pre ++ [x] <+: zs) (fun xs => xs = zs) (fun _ => False)) (hSrc : ∀ A, Below w.heap.size w A → Src A) :
    Calls Try.prog 46 #[.func (.func g) #[] lb] w fun e w' => ∃ v, e = .returned v ∧ w'.ownsRow w.heap.size 3 1 v zs.length (vals (sortI zs)) ∧ (v = .slice none 0 0 ↔ zs = []) ∧ Below w.heap.size w w' := by
  go_enter Try.func46, Try.ntmps46
  go_wp2_with fail
  refine (collect g lb eg zs hl w Src T hSrc).mono ?_
  rintro e w1 ⟨v, rfl, h1, h2, h3⟩
  rcases h1.2 with ⟨rfl, hz⟩ | ⟨gb, cap, cur, rfl, hbase, hgb, r1, r2, r3, r4⟩
  · have hss : zs = [] := List.eq_nil_of_length_eq_zero hz
    subst hss
    go_wp2_with fail
    refine (AnyM.slices_Sort_int_none Try.sortI none 0 w1).mono ?_
    rintro e w2 ⟨rfl, rfl⟩
    have hS : Hid (w2.ownsRow w.heap.size 3 1 (.slice none 0 0) ([] : List Int).length (vals (sortI []))) := hide (by simpa [sortI] using h1)
    clear h1 h2
    go_wp2
    go_ret
    exact ⟨.slice none 0 0, rfl, hS.out, by simp, h3⟩
  · have hH : Sort.Holds encZ w1 gb 0 zs.toArray := holds_of_block_i hgb (by simpa [vals] using r4)
    have hgl : gb < w1.heap.size := (Array.getElem?_eq_some_iff.1 hgb).1
    have cS := AnyM.slices_Sort_int Try.sortI gb 0 cap zs w1 hH hgl (by omega)
    have H1 := hide h1
    have R1 := hide r1
    have R2 := hide r2
    have R3 := hide r3
    clear h1 r1 r2 r3 r4
    go_wp2_with fail
    refine cS.mono ?_
    rintro e w2 ⟨rfl, nn, os, rfl⟩
    have hO := hide (ownsRow_sorted_i (base := w.heap.size) (ss := zs) (ts := sortI zs) (os := os) (n := nn) (by simp [sortI]) hbase hgb R1.out R2.out R3.out)
    have hB := hide (h3.grown (grownBy_sorted_i (w := w1) (g := gb) (n := nn) (os := os) (sortI zs).toArray) h3.size (fun j hj => by cases hj; exact hbase))
    go_wp2
    go_ret
    exact ⟨_, rfl, hO.out, h2, hB.out⟩
set_option maxHeartbeats 4000000 in
theorem valuesOf (a : Option Addr) (len cap : Nat) (w : World) :
    Calls Try.prog 47 #[.slice a len cap] w fun e w' => e = .returned (.func (.func 55) #[] #[.pointer (some ⟨w.heap.size, 0, none⟩)]) ∧ w' = w.alloc (.cells #[.slice a len cap] 51) := by
  go_enter Try.func47, Try.ntmps47
  go_wp2
  go_ret
  exact ⟨rfl, rfl⟩
theorem enterV : ∀ args w, (callFunc 55 args).run Try.prog w = .ok (.enter 55 args) w := enters_of Try.func55 (by kernel_rfl) rfl
theorem sort_len (xs : List Int) : (sortI xs).length = xs.length := by simp [sortI]
theorem sort_mem {xs : List Int} {x : Int} : x ∈ sortI xs ↔ x ∈ xs := by simp [sortI]
/-- slices.Sorted of what slices.Values has made of a slice. -/
theorem sortedOf (xs : List Int) (hl : xs.length ≤ 1000000) (B Bs : Nat) (sv : Value) (w : World) (hc : w.cell? ⟨Bs, 0, none⟩ = some sv) (hr : Row w B sv xs) :
    Calls Try.prog 46 #[.func (.func 55) #[] #[.pointer (some ⟨Bs, 0, none⟩)]] w fun e w' => ∃ v, e = .returned v ∧ IntS.Own w' w.heap.size v (sortI xs) ∧ (v = .slice none 0 0 ↔ xs = []) ∧ Below w.heap.size w w' := by
  refine (sorted _ _ enterV xs hl w _ (values Bs B sv xs hl) (fun A hb => ⟨cell_below hb hc, hr.below hb⟩)).mono ?_
  rintro e w' ⟨v, rfl, h1, h2, h3⟩
  refine ⟨v, rfl, ?_, h2, h3⟩
  unfold IntS.Own
  rw [sort_len]
  exact h1
end Go.Proofs.Ytnlfcocejkaieaa.Srt
namespace Go.Proofs.Ytnlfcocejkaieaa.Pol
def byteOf (a : Int) : UInt8 := UInt8.ofNat a.toNat
/-- The text of atoms: how many they are, and then these. -/
def txt (av : List Int) : List UInt8 := UInt8.ofNat av.length :: av.map byteOf
/-- Atoms that have a text of their own. -/
structure Fine (av : List Int) : Prop where
  at_ : ∀ a ∈ av, 0 ≤ a ∧ a < 256
  len : av.length < 256
theorem Fine.tail {a : Int} {av : List Int} (h : Fine (a :: av)) : Fine av := ⟨fun b hb => h.at_ b (List.mem_cons_of_mem _ hb), by have := h.len; simp at this; omega⟩
theorem Fine.head {a : Int} {av : List Int} (h : Fine (a :: av)) : 0 ≤ a ∧ a < 256 := h.at_ a (List.mem_cons_self ..)
theorem byte_lt {a b : Int} (ha : 0 ≤ a ∧ a < 256) (hb : 0 ≤ b ∧ b < 256) : byteOf a < byteOf b ↔ a < b := by
  unfold byteOf
  rw [UInt8.lt_iff_toNat_lt]
  simp only [UInt8.toNat_ofNat']
  omega
theorem byte_inj {a b : Int} (ha : 0 ≤ a ∧ a < 256) (hb : 0 ≤ b ∧ b < 256) (h : byteOf a = byteOf b) : a = b := by
  have := congrArg UInt8.toNat h
  unfold byteOf at this
  simp only [UInt8.toNat_ofNat'] at this
  omega
theorem bytes_inj : ∀ {av bv : List Int}, (∀ a ∈ av, 0 ≤ a ∧ a < 256) → (∀ a ∈ bv, 0 ≤ a ∧ a < 256) → av.map byteOf = bv.map byteOf → av = bv
  | [], [], _, _, _ => rfl
  | [], b :: bv, _, _, h => by simp at h
  | a :: av, [], _, _, h => by simp at h
  | a :: av, b :: bv, ha, hb, h => by
    simp only [List.map_cons, List.cons.injEq] at h
    rw [byte_inj (ha a (List.mem_cons_self ..)) (hb b (List.mem_cons_self ..)) h.1, bytes_inj (fun x hx => ha x (List.mem_cons_of_mem _ hx)) (fun x hx => hb x (List.mem_cons_of_mem _ hx)) h.2]
theorem txt_inj {av bv : List Int} (ha : Fine av) (hb : Fine bv) (h : txt av = txt bv) : av = bv := by
  unfold txt at h
  simp only [List.cons.injEq] at h
  exact bytes_inj ha.at_ hb.at_ h.2
theorem lex_bytes : ∀ {av bv : List Int}, (∀ a ∈ av, 0 ≤ a ∧ a < 256) → (∀ a ∈ bv, 0 ≤ a ∧ a < 256) → (av.map byteOf < bv.map byteOf ↔ lexI av bv < 0)
  | [], [], _, _ => by simp [lexI]
  | [], b :: bv, _, _ => by simp [lexI]
  | a :: av, [], _, _ => by simp [lexI]
  | a :: av, b :: bv, ha, hb => by
    have h1 := ha a (List.mem_cons_self ..)
    have h2 := hb b (List.mem_cons_self ..)
    have ih := lex_bytes (av := av) (bv := bv) (fun x hx => ha x (List.mem_cons_of_mem _ hx)) (fun x hx => hb x (List.mem_cons_of_mem _ hx))
    rw [List.map_cons, List.map_cons, List.cons_lt_cons_iff, byte_lt h1 h2, ih, lexI]
    by_cases e : a < b
    · simp [e]
    · by_cases e2 : b < a
      · have : byteOf a ≠ byteOf b := fun h => by have := byte_inj h1 h2 h; omega
        simp [e, e2, this]
      · have : a = b := by omega
        subst this
        simp
theorem lex_zero : ∀ {av bv : List Int}, lexI av bv = 0 → av = bv
  | [], [], _ => rfl
  | [], b :: bv, h => by simp [lexI] at h
  | a :: av, [], h => by simp [lexI] at h
  | a :: av, b :: bv, h => by
    rw [lexI] at h
    by_cases e : a < b
    · simp [e] at h
    · by_cases e2 : b < a
      · simp [e, e2] at h
      · have : a = b := by omega
        subst this
        simp at h
        rw [lex_zero h]
theorem ordT_lt {av bv : List Int} (ha : Fine av) (hb : Fine bv) : ordA av bv < 0 ↔ txt av < txt bv := by
  have l1 := ha.len
  have l2 := hb.len
  unfold ordA txt
  rw [List.cons_lt_cons_iff, lex_bytes ha.at_ hb.at_]
  have e1 : (UInt8.ofNat av.length < UInt8.ofNat bv.length) ↔ av.length < bv.length := by
    rw [UInt8.lt_iff_toNat_lt]
    simp only [UInt8.toNat_ofNat']
    omega
  have e2 : (UInt8.ofNat av.length = UInt8.ofNat bv.length) ↔ av.length = bv.length := by
    rw [← UInt8.toNat_inj]
    simp only [UInt8.toNat_ofNat']
    omega
  rw [e1, e2]
  by_cases h1 : av.length < bv.length
  · simp [h1]
  · by_cases h2 : bv.length < av.length
    · simp [h1, h2]; omega
    · simp [h1, h2]; omega
theorem ordT_eq {av bv : List Int} (h : ordA av bv = 0) : av = bv := by
  unfold ordA at h
  by_cases h1 : av.length < bv.length
  · simp [h1] at h
  · by_cases h2 : bv.length < av.length
    · simp [h1, h2] at h
    · simp only [if_neg h1, if_neg h2] at h
      exact lex_zero h
theorem ordT_gt {av bv : List Int} (ha : Fine av) (hb : Fine bv) (h : 0 < ordA av bv) : txt bv < txt av := by
  have h1 : ¬ txt av < txt bv := fun h' => by have := (ordT_lt ha hb).2 h'; omega
  rcases List.le_total (txt av) (txt bv) with h2 | h2
  · have h3 : txt av ≠ txt bv := fun e => by
      have := txt_inj ha hb e
      subst this
      have : ordA av av = 0 := by
        unfold ordA
        rw [if_neg (by omega), if_neg (by omega)]
        clear h h1 h2 e ha hb
        induction av with
        | nil => rfl
        | cons a r ih => rw [lexI, if_neg (by omega), if_neg (by omega)]; exact ih
      omega
    exact absurd ((List.le_antisymm h2 (List.not_lt.1 h1))) h3
  · rcases Classical.em (txt bv < txt av) with h3 | h3
    · exact h3
    · have e := List.le_antisymm (List.not_lt.1 h3) h2
      have := txt_inj ha hb e
      subst this
      have : ordA av av = 0 := by
        unfold ordA
        rw [if_neg (by omega), if_neg (by omega)]
        clear h h1 h2 e ha hb h3
        induction av with
        | nil => rfl
        | cons a r ih => rw [lexI, if_neg (by omega), if_neg (by omega)]; exact ih
      omega
end Go.Proofs.Ytnlfcocejkaieaa.Pol
