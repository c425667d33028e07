/-
  slices.Values of ints: what its iterator tells.
-/
import Derived.Test.YtckhfpaicnjknaaGreatRng
import Derived.Test.YtckhfpaicnjknaaGreatIntA
import Derived.Test.YtckhfpaicnjknaaGreatLays
import Derived.RangeFuncBox
import Derived.Maps.AppendAt
import Derived.Shelf.SlIterI.Sorted
namespace Go.Proofs.YtckhfpaicnjknaaGreat.Srt
set_option linter.unusedVariables false
open Go.ChangeShapes Go.WideShapes Go.ChangeAt Go.RowKit Go.Shelf IntS Rng
attribute [local go_sem] Oper.semAt_some
set_option maxRecDepth 100000 in
set_option maxHeartbeats 4000000 in
theorem values (Bs B : Nat) (sv : Value) (zs : List Int) (hl : zs.length ≤ 1000000) :
    Tells Tryz.prog 77 #[.pointer (some ⟨Bs, 0, none⟩)] (fun x : Int => #[.int .i64 x]) (fun A => A.cell? ⟨Bs, 0, none⟩ = some sv ∧ Row A B sv zs) (fun pre x _ _ => pre ++ [x] <+: zs) (fun xs => xs = zs) (fun _ => False) := by
  intro l J Jx W hS hb hY h0
  obtain ⟨hc, hr⟩ := hS _ _ h0
  obtain ⟨a, cap, off, rfl, h2, h3, hz, h4⟩ := hr
  unfold maxLen at h3
  rcases h4 with rfl | ⟨rfl, h4⟩
  · refine callsIn_of_wp Tryz.func77 rfl trivial ?_ rfl
    simp only [Tryz.ntmps77, List.size_toArray, List.length_cons, List.length_nil, Nat.reduceAdd, Nat.reduceSub, Array.replicate_succ, Array.replicate_zero, List.push_toArray, List.append_toArray, List.nil_append, List.cons_append] at hc ⊢
    clear hS hb hY hz
    gi_wp2
    gi_loopw [7] (fun i wr => i = .int .i64 0 ∧ J [] wr) (fun _ _ => 0)
    case atStart => exact ⟨rfl, h0⟩
    case round =>
      obtain ⟨rfl, hJs⟩ := hrel
      gi_wp2
      go_end0
      exact ⟨⟨_, rfl⟩, .inl ⟨_, rfl, hJs⟩⟩
  · obtain ⟨n, en⟩ : ∃ n, zs.length = n := ⟨_, rfl⟩
    have HS : Hid (∀ pre A, J pre A → ∀ (i : Nat) x, zs[i]? = some x → A.cell? ⟨B, off + i, none⟩ = some (.int .i64 x)) := fun pre A hj i x hx => by
      obtain ⟨_, a', cap', off', e1, _, _, _, e2⟩ := hS pre A hj
      rcases e2 with e2 | ⟨e2, e3⟩
      · rw [e2] at hx; simp at hx
      · subst e2
        injection e1 with f1 _ _
        injection f1 with f2
        injection f2 with _ f3 _
        rw [f3]
        exact e3 i x hx
    have EN := hide en
    rw [en] at h2 hl hc
    have HY := hide hY
    clear hS hb hY hz h4 en
    refine callsIn_of_wp Tryz.func77 rfl trivial ?_ rfl
    simp only [Tryz.ntmps77, List.size_toArray, List.length_cons, List.length_nil, Nat.reduceAdd, Nat.reduceSub, Array.replicate_succ, Array.replicate_zero, List.push_toArray, List.append_toArray, List.nil_append, List.cons_append]
    gi_wp2
    gi_loopw [7] (fun i wr => ∃ k : Nat, k ≤ n ∧ i = .int .i64 k ∧ J (zs.take k) wr) (fun i _ => n - (intOf i).toNat)
    case atStart => exact ⟨0, Nat.zero_le _, rfl, h0⟩
    case round =>
      obtain ⟨k, hk, rfl, hJs⟩ := hrel
      clear hc
      by_cases hlt : k < n
      · obtain ⟨x, ex⟩ : ∃ x, zs[k]? = some x := ⟨_, List.getElem?_eq_getElem (by rw [EN.out]; exact hlt)⟩
        have hcx := HS.out _ _ hJs k x ex
        have et : zs.take (k + 1) = zs.take k ++ [x] := by rw [List.take_add_one, ex]; rfl
        obtain ⟨fn, tmps, assign, body, hy, hR⟩ := HY.out _ x wr wr hJs (Below.refl _ _) (by rw [← et]; exact List.take_prefix _ _)
        rw [← et] at hR
        have lk : ((k : Nat) : Int) < (n : Nat) := by omega
        clear ex et
        gi_wp2
        refine ⟨rfl, hR.mono ?_⟩
        rintro e W3 (⟨rfl, hJ3, _⟩ | ⟨rfl, hJx3⟩)
        · gi_wp2
          go_roundw
          case rel => exact ⟨k + 1, by omega, by simp, hJ3⟩
          case measure => simp [intOf]; omega
        · gi_wp2
          refine bodyPost_ret (results_none rfl _ _ _) rfl ?_
          exact ⟨⟨_, rfl⟩, .inr ⟨_, hJx3⟩⟩
      · obtain rfl : k = n := by omega
        gi_wp2
        go_end0
        exact ⟨⟨_, rfl⟩, .inl ⟨_, by rw [← EN.out, List.take_length], hJs⟩⟩
end Go.Proofs.YtckhfpaicnjknaaGreat.Srt
namespace Go.Proofs.YtckhfpaicnjknaaGreat.Srt
set_option linter.unusedVariables false
open Go.ChangeShapes Go.WideShapes Go.ChangeAt Go.RowKit Go.Shelf IntS Rng
attribute [local go_sem] Oper.semAt_some
theorem owns_mild {B base k size : Nat} {e : TypeId} {A A' : World} {v : Value} {xs : List Value} (h : A.ownsRow base e size v k xs) (hm : Mild B A A') : A'.ownsRow base e size v k xs := by
  obtain ⟨hl, h0 | ⟨g, cap, cur, hv, hb, hh, rest⟩⟩ := h
  · exact ⟨hl, Or.inl h0⟩
  · exact ⟨hl, Or.inr ⟨g, cap, cur, hv, hb, hm.cells _ _ _ _ hh, rest⟩⟩
theorem boxed_mild {B b : Nat} {t : TypeId} {A A' : World} {v : Value} (h : Boxed A b t v) (hm : Mild B A A') : Boxed A' b t v := hm.cells _ _ _ _ h
set_option maxRecDepth 100000 in
set_option maxHeartbeats 4000000 in
theorem appendSeq (g : Nat) (lb : Array Value) (eg : ∀ args w, (callFunc g args).run Tryz.prog w = .ok (.enter g args) w) (zs : List Int) (hl : zs.length ≤ 1000000) (w : World) (Src : World → Prop)
    (T : Tells Tryz.prog g lb (fun x : Int => #[.int .i64 x]) Src (fun pre x _ _ => pre ++ [x] <+: zs) (fun xs => xs = zs) (fun _ => False)) (hSrc : ∀ A, Below w.heap.size w A → Src A) :
    CallsIn Fence.wide 0 Tryz.prog 81 #[.slice none 0 0, .func (.func g) #[] lb] w fun e w' => ∃ v, e = .returned v ∧ w'.ownsRow w.heap.size 3 1 v zs.length (vals zs) ∧ (v = .slice none 0 0 ↔ zs = []) ∧ Below w.heap.size w w' := by
  obtain ⟨i0, hi, hz0, hz1, hz2⟩ := info_int
  refine callsIn_of_wp_marks Tryz.func81 rfl trivial ?_ rfl
  simp only [Tryz.ntmps81, List.size_toArray, List.length_cons, List.length_nil, Nat.reduceAdd, Nat.reduceSub, Array.replicate_succ, Array.replicate_zero, List.push_toArray, List.append_toArray, List.nil_append, List.cons_append]
  gi_wp2
  have bO := Boxed.new w 28 (.slice none 0 0)
  have hB0 : Below w.heap.size w (w.alloc (.cells #[.slice none 0 0] 28)) := (Below.refl _ w).alloc (Nat.le_refl _) _
  have hsz : w.heap.size ≤ (w.alloc (.cells #[.slice none 0 0] 28)).heap.size := by simp
  have PL : Hid (∀ (pre : List Int) (x : Int), pre ++ [x] <+: zs → pre.length + 1 ≤ 1000000) := fun pre x h => by
    have := h.length_le
    rw [List.length_append] at this
    simp at this
    omega
  refine range (gf := g) (lb := lb) rfl eg T (fun _ => rfl)
    (fun pre A => (∃ v, Boxed A w.heap.size 28 v ∧ A.ownsRow w.heap.size 3 1 v pre.length (vals pre) ∧ (v = .slice none 0 0 ↔ pre = [])) ∧ Below w.heap.size w A)
    (fun _ _ => False)
    (fun pre x a₁ A => ((∃ v, Boxed A w.heap.size 28 v ∧ A.ownsRow w.heap.size 3 1 v pre.length (vals pre) ∧ (v = .slice none 0 0 ↔ pre = [])) ∧ Below w.heap.size w A) ∧ pre ++ [x] <+: zs ∧
      a₁ = { tmps := #[.slice none 0 0, .func (.func g) #[] lb, .pointer (some ⟨w.heap.size, 0, none⟩), undef, .slice none 0 0, .int .i64 x, .func (.func g) #[] lb, .int .i64 x, undef, undef, undef, undef, undef], defers := [] })
    (fun pre A h => hSrc A h.2)
    (fun pre A A' h hm => ⟨let ⟨v, h1, h2, h3⟩ := h.1; ⟨v, boxed_mild h1 hm, owns_mild h2 hm, h3⟩, (Mild.below h.2 ⟨hm.os, hm.tape, hm.output, hm.size, fun k hk hl => hm.low k (Nat.lt_of_lt_of_le hk hsz) hl, hm.cells⟩ (Nat.le_refl _))⟩)
    (fun _ _ _ h _ => h.elim)
    (fun pre x a₁ A A' h hm => ⟨⟨let ⟨v, h1, h2, h3⟩ := h.1.1; ⟨v, boxed_mild h1 hm, owns_mild h2 hm, h3⟩, (Mild.below h.1.2 ⟨hm.os, hm.tape, hm.output, hm.size, fun k hk hl => hm.low k (Nat.lt_of_lt_of_le hk hsz) hl, hm.cells⟩ (Nat.le_refl _))⟩, h.2⟩)
    ⟨⟨_, bO, World.ownsRow_nil _ _ _ _, by simp⟩, hB0⟩ ?_ ?_ ?_ ?_
  · rintro l pre x A₀ A K ⟨⟨v, h1, h2, h3⟩, h4⟩ hb hF hK
    have hm : Mild 0 A₀ A := Mild.of_below hb
    have hI : (∃ v, Boxed A w.heap.size 28 v ∧ A.ownsRow w.heap.size 3 1 v pre.length (vals pre) ∧ (v = .slice none 0 0 ↔ pre = [])) ∧ Below w.heap.size w A := ⟨⟨v, boxed_mild h1 hm, owns_mild h2 hm, h3⟩, h4.trans (hb.mono h4.size)⟩
    clear hm h1 h2 h3 h4 hb
    simp
    gi_wp2
    exact hK _ _ (KeepsFrom.refl _ _) (Kept.refl _) ⟨hI, hF, rfl⟩
  · rintro l pre x a₁ A ⟨⟨⟨v, hv, hrow, hnil⟩, hB⟩, hF, rfl⟩
    have hc := hv.cell
    have hp := PL.out _ _ hF
    gi_wp2_with (gi_at_builtin; refine wpListIn_append_own _ rfl _ _ 28 rfl w.heap.size 3 i0 (.int .i64 0) 1 8 Tryz.underlying28 hi hz0 hz1 hz2 rfl (by decide) _ _ _ rfl (hrow.alloc _) ⟨A.heap.size, 0, none⟩ 1 1 [.int .i64 x] rfl rfl (cell_one_new _ _ _) (by simp [Value.oneCell']) (by unfold maxLen; omega) (by omega) (by have := hB.size; simp; omega) ?_; intro v' w1 hown' hgrow _; obtain ⟨g', cap', rfl⟩ := ownsRow_succ hown'; obtain ⟨hv1, hv2, hr2, hk2, hb2⟩ := hv.appended (by decide) hrow hB.size (Nat.le_refl _) hown' hgrow; have hc1 := hv1.cell; have hf1 := hv1.frozen)
    exact ⟨hk2.from _, ⟨⟨_, hv2, by simpa [vals] using hr2, by simp⟩, hB.trans hb2⟩, fun _ _ _ _ h => h.elim⟩
  · rintro D xs A hD rfl ⟨⟨v, hv, hrow, hnil⟩, hB⟩ hK
    have hc := hv.cell
    gi_wp2
    refine ⟨by simp, .inl ⟨_, _, rfl, run_takeDeferred hK, ?_⟩⟩
    exact ⟨_, results_tmp rfl _ _ _, v, rfl, ownsRow_putObj hrow _ hK rfl, hnil, hB.trans (belowK_b (w := w) (Nat.le_refl _) A D _ _ (by simp at hD; omega) hK rfl rfl)⟩
  · rintro D pre A _ h _
    exact h.elim
end Go.Proofs.YtckhfpaicnjknaaGreat.Srt
namespace Go.Proofs.YtckhfpaicnjknaaGreat.Srt
set_option linter.unusedVariables false
open Go.ChangeShapes Go.WideShapes Go.ChangeAt Go.RowKit Go.Shelf IntS Rng
attribute [local go_sem] Oper.semAt_some
/-- Sorted, as the library sorts. -/
def sortI (xs : List Int) : List Int := xs.mergeSort fun x y => decide (x ≤ y)
set_option maxRecDepth 100000 in
set_option maxHeartbeats 4000000 in
theorem collect (g : Nat) (lb : Array Value) (eg : ∀ args w, (callFunc g args).run Tryz.prog w = .ok (.enter g args) w) (zs : List Int) (hl : zs.length ≤ 1000000) (w : World) (Src : World → Prop)
    (T : Tells Tryz.prog g lb (fun x : Int => #[.int .i64 x]) Src (fun pre x _ _ => pre ++ [x] <+: zs) (fun xs => xs = zs) (fun _ => False)) (hSrc : ∀ A, Below w.heap.size w A → Src A) :
    Calls Tryz.prog 75 #[.func (.func g) #[] lb] w fun e w' => ∃ v, e = .returned v ∧ w'.ownsRow w.heap.size 3 1 v zs.length (vals zs) ∧ (v = .slice none 0 0 ↔ zs = []) ∧ Below w.heap.size w w' := by
  have C := callsIn_wide.1 (appendSeq g lb eg zs hl w Src T hSrc)
  go_enter Tryz.func75, Tryz.ntmps75
  go_wp2_with fail
  refine C.mono ?_
  rintro e w1 ⟨v, rfl, h1, h2, h3⟩
  go_wp2
  go_ret
  exact ⟨v, rfl, h1, h2, h3⟩
set_option maxRecDepth 100000 in
set_option maxHeartbeats 4000000 in
theorem sorted (g : Nat) (lb : Array Value) (eg : ∀ args w, (callFunc g args).run Tryz.prog w = .ok (.enter g args) w) (zs : List Int) (hl : zs.length ≤ 1000000) (w : World) (Src : World → Prop)
    (T : Tells Tryz.prog g lb (fun x : Int => #[.int .i64 x]) Src (fun pre x _ _ => pre ++ [x] <+: zs) (fun xs => xs = zs) (fun _ => False)) (hSrc : ∀ A, Below w.heap.size w A → Src A) :
    Calls Tryz.prog 67 #[.func (.func g) #[] lb] w fun e w' => ∃ v, e = .returned v ∧ w'.ownsRow w.heap.size 3 1 v zs.length (vals (sortI zs)) ∧ (v = .slice none 0 0 ↔ zs = []) ∧ Below w.heap.size w w' := by
  go_enter Tryz.func67, Tryz.ntmps67
  go_wp2_with fail
  refine (collect g lb eg zs hl w Src T hSrc).mono ?_
  rintro e w1 ⟨v, rfl, h1, h2, h3⟩
  rcases h1.2 with ⟨rfl, hz⟩ | ⟨gb, cap, cur, rfl, hbase, hgb, r1, r2, r3, r4⟩
  · have hss : zs = [] := List.eq_nil_of_length_eq_zero hz
    subst hss
    go_wp2_with fail
    refine (AnyM.slices_Sort_int_none Tryz.sortI none 0 w1).mono ?_
    rintro e w2 ⟨rfl, rfl⟩
    have hS : Hid (w2.ownsRow w.heap.size 3 1 (.slice none 0 0) ([] : List Int).length (vals (sortI []))) := hide (by simpa [sortI] using h1)
    clear h1 h2
    go_wp2
    go_ret
    exact ⟨.slice none 0 0, rfl, hS.out, by simp, h3⟩
  · have hH : Sort.Holds encZ w1 gb 0 zs.toArray := holds_of_block_i hgb (by simpa [vals] using r4)
    have hgl : gb < w1.heap.size := (Array.getElem?_eq_some_iff.1 hgb).1
    have cS := AnyM.slices_Sort_int Tryz.sortI gb 0 cap zs w1 hH hgl (by omega)
    have H1 := hide h1
    have R1 := hide r1
    have R2 := hide r2
    have R3 := hide r3
    clear h1 r1 r2 r3 r4
    go_wp2_with fail
    refine cS.mono ?_
    rintro e w2 ⟨rfl, nn, os, rfl⟩
    have hO := hide (ownsRow_sorted_i (base := w.heap.size) (ss := zs) (ts := sortI zs) (os := os) (n := nn) (by simp [sortI]) hbase hgb R1.out R2.out R3.out)
    have hB := hide (h3.grown (grownBy_sorted_i (w := w1) (g := gb) (n := nn) (os := os) (sortI zs).toArray) h3.size (fun j hj => by cases hj; exact hbase))
    go_wp2
    go_ret
    exact ⟨_, rfl, hO.out, h2, hB.out⟩
set_option maxHeartbeats 4000000 in
theorem valuesOf (a : Option Addr) (len cap : Nat) (w : World) :
    Calls Tryz.prog 68 #[.slice a len cap] w fun e w' => e = .returned (.func (.func 77) #[] #[.pointer (some ⟨w.heap.size, 0, none⟩)]) ∧ w' = w.alloc (.cells #[.slice a len cap] 28) := by
  go_enter Tryz.func68, Tryz.ntmps68
  go_wp2
  go_ret
  exact ⟨rfl, rfl⟩
theorem enterV : ∀ args w, (callFunc 77 args).run Tryz.prog w = .ok (.enter 77 args) w := enters_of Tryz.func77 (by kernel_rfl) rfl
theorem sort_len (xs : List Int) : (sortI xs).length = xs.length := by simp [sortI]
theorem sort_mem {xs : List Int} {x : Int} : x ∈ sortI xs ↔ x ∈ xs := by simp [sortI]
/-- slices.Sorted of what slices.Values has made of a slice. -/
theorem sortedOf (xs : List Int) (hl : xs.length ≤ 1000000) (B Bs : Nat) (sv : Value) (w : World) (hc : w.cell? ⟨Bs, 0, none⟩ = some sv) (hr : Row w B sv xs) :
    Calls Tryz.prog 67 #[.func (.func 77) #[] #[.pointer (some ⟨Bs, 0, none⟩)]] w fun e w' => ∃ v, e = .returned v ∧ IntS.Own w' w.heap.size v (sortI xs) ∧ (v = .slice none 0 0 ↔ xs = []) ∧ Below w.heap.size w w' := by
  refine (sorted _ _ enterV xs hl w _ (values Bs B sv xs hl) (fun A hb => ⟨cell_below hb hc, hr.below hb⟩)).mono ?_
  rintro e w' ⟨v, rfl, h1, h2, h3⟩
  refine ⟨v, rfl, ?_, h2, h3⟩
  unfold IntS.Own
  rw [sort_len]
  exact h1
end Go.Proofs.YtckhfpaicnjknaaGreat.Srt
