/-
  The program's copied: a list of ints in memory of its own.
-/
import Derived.Test.YtpbpabcokfblfaaMchI
import Derived.Test.YtpbpabcokfblfaaMchF
import Derived.Laws.CopyOwn
namespace Go.Proofs.Ytpbpabcokfblfaa.MchI
open Go.ChangeShapes Go.WideShapes Go.ChangeAt Go.RowKit IntS Mch
theorem sizeInt : (Try.prog.info? 3).map (·.size) = some 1 := by kernel_rfl
theorem made_zero (n : Nat) : madeCells #[.int .i64 0] n = (List.replicate n (Value.int .i64 0)).toArray := by
  apply Array.ext'
  simp [madeCells, Nat.mod_one]
  rw [List.eq_replicate_iff]
  refine ⟨by simp, fun b hb => ?_⟩
  simp at hb
  exact hb.2.symm
theorem made_heap (w : World) (n : Nat) (t : TypeId) : (w.alloc (.cells (madeCells #[.int .i64 0] n) t)).heap[w.heap.size]? = some (.cells (List.replicate n (Value.int .i64 0)).toArray t (0, 0)) := by
  rw [made_zero]
  exact (MapKept.heap_alloc w _).1
theorem own_full {w : World} {g n : Nat} {xs : List Int} (hn : xs.length = n) (hm : n ≤ maxLen) (hg : w.heap[g]? = some (.cells (vals xs).toArray 3 (0, 0))) : Own w g (.slice (some ⟨g, 0, none⟩) n n) xs := by
  subst hn
  refine ⟨by simp [vals], Or.inr ⟨g, xs.length, (vals xs).toArray, rfl, Nat.le_refl _, hg, Nat.le_refl _, hm, by simp [vals], ?_⟩⟩
  rw [List.take_of_length_le (by simp [vals])]
theorem splice_all {xs : List Int} {n : Nat} (hn : xs.length = n) : splice (List.replicate n (Value.int .i64 0)) 0 (vals xs) = vals xs := by
  simp [splice, vals, hn]
theorem one_vals {xs : List Int} : ∀ v ∈ vals xs, v.oneCell' = true := fun v hv => by
  obtain ⟨y, _, rfl⟩ := List.mem_map.1 hv
  rfl
theorem row_src {w : World} {B n cap : Nat} {xs : List Int} {a : Option Addr} (h : Row w B (.slice a n cap) xs) (h0 : 0 < (vals xs).length) : ∃ ad, a = some ad ∧ ∀ j v, (vals xs)[j]? = some v → w.cell? (ad.add j) = some v := by
  obtain ⟨a', cap', off', hv, _, _, _, h4⟩ := h
  cases hv
  rcases h4 with h4 | ⟨h4, h5⟩
  · subst h4; simp [vals] at h0
  · refine ⟨_, h4, fun j v hv => ?_⟩
    rw [Go.WideShapes.add_plain]
    simp only [vals, List.getElem?_map, Option.map_eq_some_iff] at hv
    obtain ⟨y, hy, rfl⟩ := hv
    exact h5 j y hy
set_option maxHeartbeats 2000000 in
set_option maxRecDepth 8000 in
theorem copied (xs : List Int) (B : Nat) (v : Value) (w : World) (h : Row w B v xs) (hn : xs.length ≤ 2000000) :
    Calls Try.prog 16 #[v] w fun e w' => ∃ g : Nat, e = .returned (.slice (some ⟨g, 0, none⟩) xs.length xs.length) ∧ Own w' g (.slice (some ⟨g, 0, none⟩) xs.length xs.length) xs ∧ w.heap.size ≤ g ∧ g < w'.heap.size ∧ Below w.heap.size w w' := by
  have HR := hide h
  obtain ⟨a, cap, off, rfl, h2, h3, hz, h4⟩ := h
  obtain ⟨n, en⟩ : ∃ n, xs.length = n := ⟨_, rfl⟩
  unfold maxLen at h3
  have hmk := run_make_row' (P := Try.prog) 23 3 (.int .i64 0) 8 Try.underlying23 (by kernel_rfl) rfl .i64 .i64 n (by omega) (by omega) w
  have HB := hide ((Below.refl w.heap.size w).alloc (Nat.le_refl _) (.cells (madeCells #[.int .i64 0] n) 3))
  have HG := hide (made_heap w n 3)
  have H4 := hide h4
  have EN := hide en
  rw [en] at h2 hn ⊢
  have HN := hide hn
  clear h4 en hz hn
  go_enter Try.func16, Try.ntmps16
  have L1 : Hid ((vals xs).length = Nat.min n n) := show _ = _ by rw [vals_len, EN.out]; exact (Nat.min_self n).symm
  have L2 : Hid (0 + (vals xs).length ≤ (List.replicate n (Value.int .i64 0)).length) := show _ ≤ _ by rw [vals_len, EN.out]; simp
  have L3 : Hid (0 < (vals xs).length → some (⟨w.heap.size, 0, none⟩ : Addr) = some ⟨w.heap.size, 0, none⟩ ∧ ∃ ad, a = some ad ∧ ∀ j v, (vals xs)[j]? = some v → (w.alloc (.cells (madeCells #[.int .i64 0] n) 3)).cell? (ad.add j) = some v) := fun h0 => ⟨rfl, row_src (HR.out.below HB.out) h0⟩
  go_wp2_with (refine wpList_copy_splice rfl (.tmp 7) (.tmp 8) 23 23 rfl 3 Try.underlying23 sizeInt (some ⟨w.heap.size, 0, none⟩) a n n n cap rfl rfl w.heap.size 0 (List.replicate n (Value.int .i64 0)) 3 HG.out (vals xs) L1.out L3.out L2.out one_vals w.heap.size w HB.out (Nat.le_refl _) ?_; intro w2 HG2 HB2)
  rw [splice_all EN.out] at HG2
  have HO := hide (own_full EN.out (by have := HN.out; unfold maxLen; omega) HG2.out)
  clear HG2 HG HB
  replace HB2 := hide HB2
  go_wp2
  go_ret
  exact ⟨w.heap.size, rfl, HO.out, Nat.le_refl _, HO.out.isT.lt, HB2.out⟩
end Go.Proofs.Ytpbpabcokfblfaa.MchI
