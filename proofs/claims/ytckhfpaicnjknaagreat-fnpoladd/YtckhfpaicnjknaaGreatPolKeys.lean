/-
  slices.Sorted(maps.Keys(ps)): the texts of a map of parts in order.
-/
import Derived.Test.YtckhfpaicnjknaaGreatPolOf
namespace Go.Proofs.YtckhfpaicnjknaaGreat.Pol
set_option linter.unusedVariables false
open Go.ChangeShapes Go.WideShapes Go.ChangeAt Go.RowKit Go.Shelf Go.Maps IntS Rng
theorem sortsS (m : Nat) : AnyZ.SortsIn Tryz.prog Tryz.sortedS_ren Fence.wide m :=
  ⟨fun blk off cap ss W hH hblk hsz => callsIn_wide.2 (AnyM.slices_Sort_string Tryz.sortS blk off cap ss W hH hblk hsz), fun p cap W => callsIn_wide.2 (AnyM.slices_Sort_string_none Tryz.sortS p cap W)⟩
theorem keysOf (mb : Option Nat) (W : World) : Calls Tryz.prog 71 #[.map mb] W fun e w' => e = .returned (.func (.func 80) #[] #[.pointer (some ⟨W.heap.size, 0, none⟩)]) ∧ w' = W.alloc (.cells #[.map mb] 52) :=
  (callsIn_wide (n := 5)).1 (AnyZ.keys_in Tryz.keysM Fence.wide 5 trivial rfl mb W)
set_option maxHeartbeats 2000000 in
theorem sortedKeys (es : List Mono) (b : Nat) (w : World) (hm : MapOf w b es) (hn : es.length ≤ 1000000) :
    Calls Tryz.prog 70 #[.func (.func 80) #[] #[.pointer (some ⟨w.heap.size, 0, none⟩)]] (w.alloc (.cells #[.map (some b)] 52)) fun e w' => ∃ (v : Value) (ks : List (List UInt8)), e = .returned v ∧
      w'.ownsRow (w.alloc (.cells #[.map (some b)] 52)).heap.size 9 1 v ks.length (ks.map encStr) ∧ ks.Pairwise (· < ·) ∧ ks.length ≤ 1000000 ∧ (∀ x, x ∈ ks ↔ ∃ m ∈ es, txt m.2 = x) ∧ Below (w.alloc (.cells #[.map (some b)] 52)).heap.size (w.alloc (.cells #[.map (some b)] 52)) w' := by
  obtain ⟨nn, D0, hown, hnn, hhas, hat⟩ := hm
  have hbl := hown.lt
  have hsz := hown.size_le
  have hseq : SeqGives Fence.wide 2 Tryz.prog 80 #[.pointer (some ⟨w.heap.size, 0, none⟩)] encStr (fun ss => ss.Perm (strKeys D0)) (Maps.size D0) (w.alloc (.cells #[.map (some b)] 52)) :=
    AnyZ.keys_gives (ρ := Tryz.keysM_ren) { Tryz.keysM with } Fence.wide _ trivial rfl (by omega) w.heap.size b nn D0 _ (by simp) (by simp) (by
      obtain ⟨es, clock, hb, Ft, hs, hD⟩ := hown
      exact ⟨es, clock, (Below.heap_alloc _ _ b hbl).trans hb, Ft, hs, hD⟩)
  refine ((callsIn_wide (n := 5)).1 (AnyZ.sorted_in Tryz.sortedS Fence.wide 5 trivial trivial trivial trivial rfl (by omega) (sortsS _) (enters_of Tryz.func79 (by kernel_rfl) rfl) 80 #[.pointer (some ⟨w.heap.size, 0, none⟩)] trivial (enters_of Tryz.func80 (by kernel_rfl) rfl) _ _ (by unfold maxLen; omega) (by omega) _ hseq)).mono ?_
  rintro e w' ⟨v, ss, rfl, hS, hrow, hnil, hb⟩
  obtain ⟨ents, hD, hpw, _⟩ := hown.entries (Maps.string_keyed Tryz.underlying9)
  obtain ⟨ents', hD', hko⟩ := hown.keysOf
  obtain rfl : ents = ents' := by rw [hD] at hD'; simpa using hD'
  subst hD
  have hstr : ∀ p ∈ ents, ∃ x, p.1 = .string x := fun p hp => by
    obtain ⟨u, hu⟩ := hko p hp
    obtain ⟨x, _, hx, _⟩ := Maps.keyOf_str Tryz.underlying9 hu
    exact ⟨x, hx⟩
  have hnd : (strKeys (DataW.map ents)).Nodup := by
    show (ents.map fun p => strOf p.1).Nodup
    refine List.pairwise_map.2 (hpw.imp_of_mem fun {p q} hp' hq' hne e => hne ?_)
    obtain ⟨a, ha⟩ := hstr p hp'
    obtain ⟨b, hb⟩ := hstr q hq'
    rw [ha, hb] at e ⊢
    exact congrArg _ e
  have hmem : ∀ x, x ∈ strKeys (DataW.map ents) ↔ ∃ m ∈ es, txt m.2 = x := fun x => by
    have h1 := hhas x
    rw [has_eq] at h1
    show x ∈ ents.map (fun p => strOf p.1) ↔ _
    rw [List.mem_map]
    constructor
    · rintro ⟨p, hp', e⟩
      obtain ⟨a, ha⟩ := hstr p hp'
      have h2 : ents.any (fun p => p.1.sameKey (.string x)) = true := List.any_eq_true.2 ⟨p, hp', by rw [ha] at e ⊢; simpa [Lit.sameKey, strOf] using e⟩
      rw [h1, List.any_eq_true] at h2
      obtain ⟨m, hm, e2⟩ := h2
      exact ⟨m, hm, of_decide_eq_true e2⟩
    · rintro ⟨m, hm, e⟩
      have h2 : (es.any fun m => decide (txt m.2 = x)) = true := List.any_eq_true.2 ⟨m, hm, decide_eq_true e⟩
      rw [← h1, List.any_eq_true] at h2
      obtain ⟨p, hp', e2⟩ := h2
      obtain ⟨a, ha⟩ := hstr p hp'
      exact ⟨p, hp', by rw [ha] at e2 ⊢; simpa [Lit.sameKey, strOf] using e2⟩
  have hp : (ss.mergeSort (fun x y => decide (x ≤ y))).Perm (strKeys (DataW.map ents)) := (List.mergeSort_perm _ _).trans hS
  refine ⟨v, ss.mergeSort (fun x y => decide (x ≤ y)), rfl, by rw [List.length_mergeSort]; exact hrow, ?_, ?_, fun x => by rw [hp.mem_iff]; exact hmem x, hb⟩
  · have h1 : (ss.mergeSort (fun x y => decide (x ≤ y))).Pairwise (fun a b => decide (a ≤ b) = true) := List.pairwise_mergeSort (fun a b c h1 h2 => by simp only [decide_eq_true_eq] at *; exact List.le_trans h1 h2) (fun a b => by simp only [Bool.or_eq_true, decide_eq_true_eq]; exact List.le_total a b) ss
    have h2 : (ss.mergeSort (fun x y => decide (x ≤ y))).Nodup := hp.nodup_iff.2 hnd
    refine (h1.and h2).imp fun {a b} h => ?_
    have h3 : a ≤ b := of_decide_eq_true h.1
    rcases Classical.em (a < b) with h4 | h4
    · exact h4
    · exact absurd (List.le_antisymm h3 (List.not_lt.1 h4)) h.2
  · rw [hp.length_eq]
    show (ents.map _).length ≤ _
    rw [List.length_map]
    have : Maps.size (DataW.map ents) = ents.length := rfl
    omega
end Go.Proofs.YtckhfpaicnjknaaGreat.Pol
