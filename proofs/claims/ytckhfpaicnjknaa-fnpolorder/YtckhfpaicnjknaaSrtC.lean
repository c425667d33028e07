/-
  slices.Sorted(slices.Values(xs)) of ints: a new slice, sorted.
-/
import Derived.Test.YtckhfpaicnjknaaSrtB
import Derived.Shelf.SlIterI.Sorted
namespace Go.Proofs.Ytckhfpaicnjknaa.Srt
set_option linter.unusedVariables false
open Go.ChangeShapes Go.WideShapes Go.ChangeAt Go.RowKit Go.Shelf IntS Rng
attribute [local go_sem] Oper.semAt_some
/-- Sorted, as the library sorts. -/
def sortI (xs : List Int) : List Int := xs.mergeSort fun x y => decide (x ≤ y)
set_option maxRecDepth 100000 in
set_option maxHeartbeats 4000000 in
theorem collect (g : Nat) (lb : Array Value) (eg : ∀ args w, (callFunc g args).run Try.prog w = .ok (.enter g args) w) (zs : List Int) (hl : zs.length ≤ 1000000) (w : World) (Src : World → Prop)
    (T : Tells Try.prog g lb (fun x : Int => #[.int .i64 x]) Src (fun pre x _ _ => pre ++ [x] <+: zs) (fun xs => xs = zs) (fun _ => False)) (hSrc : ∀ A, Below w.heap.size w A → Src A) :
    Calls Try.prog 90 #[.func (.func g) #[] lb] w fun e w' => ∃ v, e = .returned v ∧ w'.ownsRow w.heap.size 3 1 v zs.length (vals zs) ∧ (v = .slice none 0 0 ↔ zs = []) ∧ Below w.heap.size w w' := by
  have C := callsIn_wide.1 (appendSeq g lb eg zs hl w Src T hSrc)
  go_enter Try.func90, Try.ntmps90
  go_wp2_with fail
  refine C.mono ?_
  rintro e w1 ⟨v, rfl, h1, h2, h3⟩
  go_wp2
  go_ret
  exact ⟨v, rfl, h1, h2, h3⟩
set_option maxRecDepth 100000 in
set_option maxHeartbeats 4000000 in
theorem sorted (g : Nat) (lb : Array Value) (eg : ∀ args w, (callFunc g args).run Try.prog w = .ok (.enter g args) w) (zs : List Int) (hl : zs.length ≤ 1000000) (w : World) (Src : World → Prop)
    (T : Tells Try.prog g lb (fun x : Int => #[.int .i64 x]) Src (fun pre x _ _ => pre ++ [x] <+: zs) (fun xs => xs = zs) (fun _ => False)) (hSrc : ∀ A, Below w.heap.size w A → Src A) :
    Calls Try.prog 81 #[.func (.func g) #[] lb] w fun e w' => ∃ v, e = .returned v ∧ w'.ownsRow w.heap.size 3 1 v zs.length (vals (sortI zs)) ∧ (v = .slice none 0 0 ↔ zs = []) ∧ Below w.heap.size w w' := by
  go_enter Try.func81, Try.ntmps81
  go_wp2_with fail
  refine (collect g lb eg zs hl w Src T hSrc).mono ?_
  rintro e w1 ⟨v, rfl, h1, h2, h3⟩
  rcases h1.2 with ⟨rfl, hz⟩ | ⟨gb, cap, cur, rfl, hbase, hgb, r1, r2, r3, r4⟩
  · have hss : zs = [] := List.eq_nil_of_length_eq_zero hz
    subst hss
    go_wp2_with fail
    refine (AnyM.slices_Sort_int_none Try.sortI none 0 w1).mono ?_
    rintro e w2 ⟨rfl, rfl⟩
    have hS : Hid (w2.ownsRow w.heap.size 3 1 (.slice none 0 0) ([] : List Int).length (vals (sortI []))) := hide (by simpa [sortI] using h1)
    clear h1 h2
    go_wp2
    go_ret
    exact ⟨.slice none 0 0, rfl, hS.out, by simp, h3⟩
  · have hH : Sort.Holds encZ w1 gb 0 zs.toArray := holds_of_block_i hgb (by simpa [vals] using r4)
    have hgl : gb < w1.heap.size := (Array.getElem?_eq_some_iff.1 hgb).1
    have cS := AnyM.slices_Sort_int Try.sortI gb 0 cap zs w1 hH hgl (by omega)
    have H1 := hide h1
    have R1 := hide r1
    have R2 := hide r2
    have R3 := hide r3
    clear h1 r1 r2 r3 r4
    go_wp2_with fail
    refine cS.mono ?_
    rintro e w2 ⟨rfl, nn, os, rfl⟩
    have hO := hide (ownsRow_sorted_i (base := w.heap.size) (ss := zs) (ts := sortI zs) (os := os) (n := nn) (by simp [sortI]) hbase hgb R1.out R2.out R3.out)
    have hB := hide (h3.grown (grownBy_sorted_i (w := w1) (g := gb) (n := nn) (os := os) (sortI zs).toArray) h3.size (fun j hj => by cases hj; exact hbase))
    go_wp2
    go_ret
    exact ⟨_, rfl, hO.out, h2, hB.out⟩
set_option maxHeartbeats 4000000 in
theorem valuesOf (a : Option Addr) (len cap : Nat) (w : World) :
    Calls Try.prog 82 #[.slice a len cap] w fun e w' => e = .returned (.func (.func 92) #[] #[.pointer (some ⟨w.heap.size, 0, none⟩)]) ∧ w' = w.alloc (.cells #[.slice a len cap] 39) := by
  go_enter Try.func82, Try.ntmps82
  go_wp2
  go_ret
  exact ⟨rfl, rfl⟩
theorem enterV : ∀ args w, (callFunc 92 args).run Try.prog w = .ok (.enter 92 args) w := enters_of Try.func92 (by kernel_rfl) rfl
theorem sort_len (xs : List Int) : (sortI xs).length = xs.length := by simp [sortI]
theorem sort_mem {xs : List Int} {x : Int} : x ∈ sortI xs ↔ x ∈ xs := by simp [sortI]
/-- slices.Sorted of what slices.Values has made of a slice. -/
theorem sortedOf (xs : List Int) (hl : xs.length ≤ 1000000) (B Bs : Nat) (sv : Value) (w : World) (hc : w.cell? ⟨Bs, 0, none⟩ = some sv) (hr : Row w B sv xs) :
    Calls Try.prog 81 #[.func (.func 92) #[] #[.pointer (some ⟨Bs, 0, none⟩)]] w fun e w' => ∃ v, e = .returned v ∧ IntS.Own w' w.heap.size v (sortI xs) ∧ (v = .slice none 0 0 ↔ xs = []) ∧ Below w.heap.size w w' := by
  refine (sorted _ _ enterV xs hl w _ (values Bs B sv xs hl) (fun A hb => ⟨cell_below hb hc, hr.below hb⟩)).mono ?_
  rintro e w' ⟨v, rfl, h1, h2, h3⟩
  refine ⟨v, rfl, ?_, h2, h3⟩
  unfold IntS.Own
  rw [sort_len]
  exact h1
end Go.Proofs.Ytckhfpaicnjknaa.Srt
