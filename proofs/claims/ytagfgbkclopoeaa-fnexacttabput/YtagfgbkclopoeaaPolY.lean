/-
  A sum so many times: the specification's PolScale.
-/
import Derived.Test.YtagfgbkclopoeaaPolU
namespace Go.Proofs.Ytagfgbkclopoeaa.Pol
open Go.ChangeShapes Go.WideShapes Go.ChangeAt Go.RowKit IntS
def scaleL (n : Int) : List Mono → List Mono
  | [] => []
  | x :: r => if 0 < x.1 * n % 65536 then (x.1 * n % 65536, x.2) :: scaleL n r else scaleL n r
def scaleP (ps : List Mono) (n : Int) : List Mono := if okP ps = true ∧ Wrd.wok n = true then scaleL n ps else []
theorem scale_no {ps : List Mono} {n : Int} (h : ¬ (okP ps = true ∧ Wrd.wok n = true)) : scaleP ps n = [] := if_neg h
theorem scale_yes {ps : List Mono} {n : Int} (h1 : okP ps = true) (h2 : Wrd.wok n = true) : scaleP ps n = scaleL n ps := if_pos ⟨h1, h2⟩
theorem scale_keep {ps : List Mono} {n : Int} {k : Nat} {x : Mono} (h : ps[k]? = some x) (hc : 0 < x.1 * n % 65536) : scaleL n (ps.drop k) = (x.1 * n % 65536, x.2) :: scaleL n (ps.drop (k + 1)) := by rw [drop_cons h, scaleL, if_pos hc]
theorem scale_drop {ps : List Mono} {n : Int} {k : Nat} {x : Mono} (h : ps[k]? = some x) (hc : ¬ 0 < x.1 * n % 65536) : scaleL n (ps.drop k) = scaleL n (ps.drop (k + 1)) := by rw [drop_cons h, scaleL, if_neg hc]
theorem scale_end {ps : List Mono} {n : Int} {k : Nat} (h : ps.length ≤ k) : scaleL n (ps.drop k) = [] := by rw [List.drop_eq_nil_of_le h]; rfl
theorem scale_mem {n : Int} : ∀ (ps : List Mono) (x : Mono), x ∈ scaleL n ps → ∃ y ∈ ps, x.2 = y.2
  | [], x, h => by simp [scaleL] at h
  | y :: r, x, h => by
    rw [scaleL] at h
    split at h
    · rcases List.mem_cons.1 h with rfl | h
      · exact ⟨y, List.mem_cons_self .., rfl⟩
      · obtain ⟨z, hz, e⟩ := scale_mem r x h
        exact ⟨z, List.mem_cons_of_mem _ hz, e⟩
    · obtain ⟨z, hz, e⟩ := scale_mem r x h
      exact ⟨z, List.mem_cons_of_mem _ hz, e⟩
theorem scale_len {n : Int} : ∀ ps : List Mono, (scaleL n ps).length ≤ ps.length
  | [] => Nat.le_refl _
  | y :: r => by
    rw [scaleL]
    split
    · simp; exact scale_len r
    · exact Nat.le_trans (scale_len r) (by simp)
theorem ok_len {ps : List Mono} (h : okP ps = true) : ps.length ≤ 12 := by
  unfold okP at h
  simp only [Bool.and_eq_true] at h
  exact of_decide_eq_true h.1
theorem ok_atoms {ps : List Mono} (h : okP ps = true) {x : Mono} (hx : x ∈ ps) : x.2.length ≤ 4 := by
  obtain ⟨k, hk⟩ := List.getElem?_of_mem hx
  unfold okP at h
  simp only [Bool.and_eq_true] at h
  have := all_at h.2 (List.getElem?_eq_some_iff.1 hk).1
  unfold partAt at this
  simp only [Bool.and_eq_true] at this
  rw [getD_part hk] at this
  have h2 := this.1
  unfold monoB at h2
  simp only [Bool.and_eq_true] at h2
  exact of_decide_eq_true h2.1.2
/-- A slice of parts that the call made; their atoms are the argument's own lists. -/
structure ShareP (w : World) (lo : Nat) (L : List Mono) (vq : Option Addr) (vc : Nat) (cs : List (Int × Value)) (u : World) : Prop where
  own : OwnM u lo (.slice vq L.length vc) cs
  len : cs.length = L.length
  rows : ∀ (i : Nat) x, L[i]? = some x → ∃ s b, cs[i]? = some (x.1, s) ∧ Row w b s x.2
  bw : Below w.heap.size w u
  lo1 : w.heap.size ≤ lo
  lo2 : lo ≤ u.heap.size
theorem ShareP.below {w u u' : World} {lo : Nat} {L : List Mono} {vq : Option Addr} {vc : Nat} {cs : List (Int × Value)} (h : ShareP w lo L vq vc cs u) (hb : Below u.heap.size u u') : ShareP w lo L vq vc cs u' :=
  ⟨h.own.below hb, h.len, h.rows, h.bw.trans (hb.mono h.bw.size), h.lo1, Nat.le_trans h.lo2 hb.size⟩
theorem ShareP.read {w u : World} {lo : Nat} {L : List Mono} {vq : Option Addr} {vc : Nat} {cs : List (Int × Value)} (h : ShareP w lo L vq vc cs u) : ∃ B, PRow u B (.slice vq L.length vc) L := by
  by_cases hn : (Value.slice vq L.length vc) = .slice none 0 0
  · injection hn with e1 e2 e3
    subst e1 e3
    exact ⟨0, none, 0, 0, rfl, by omega, by unfold maxLen; omega, fun _ => rfl, Or.inl (List.length_eq_zero_iff.1 e2)⟩
  · obtain ⟨G, cap, e⟩ := h.own.form hn
    rw [h.len] at e
    injection e with e1 _ e3
    subst e1 e3
    obtain ⟨_, hc, hm, hb, hI, hcells, hsoft⟩ := h.own.cells
    refine ⟨G, some ⟨G, 0, none⟩, vc, 0, rfl, hc, hm, (fun h => by cases h), Or.inr ⟨rfl, fun i x hx => ?_⟩⟩
    obtain ⟨s, b, k1, k2⟩ := h.rows i x hx
    obtain ⟨c1, c2⟩ := hcells i _ k1
    rw [Nat.zero_add]
    exact ⟨c1, s, b, c2, k2.below h.bw⟩
theorem ShareP.next {w u u' : World} {lo : Nat} {L : List Mono} {vq : Option Addr} {vc G cap b m k : Nat} {cs : List (Int × Value)} {c : Int} {xs : List Int} {q : Option Addr} (h : ShareP w lo L vq vc cs u) (hr : Row w b (.slice q m k) xs)
    (ho : OwnM u' lo (.slice (some ⟨G, 0, none⟩) (cs.length + 1) cap) (cs ++ [(c, .slice q m k)])) (hg : u.grownBy u' (Value.slice vq L.length vc).ownBlock) : ShareP w lo (L ++ [(c, xs)]) (some ⟨G, 0, none⟩) cap (cs ++ [(c, .slice q m k)]) u' := by
  obtain ⟨T, ht, hT, _, _⟩ := ownBlock_turn h.own hg
  have := h.lo1
  refine ⟨by rw [List.length_append, ← h.len]; exact ho, by simp [h.len], fun i x hx => ?_, h.bw.trans (ht.below (by omega) h.bw.size), h.lo1, Nat.le_trans h.lo2 ht.size⟩
  by_cases e : i < L.length
  · rw [List.getElem?_append_left e] at hx
    obtain ⟨s, b2, k1, k2⟩ := h.rows i x hx
    exact ⟨s, b2, by rw [List.getElem?_append_left (by rw [h.len]; exact e)]; exact k1, k2⟩
  · have hi : i = L.length := by
      have := (List.getElem?_eq_some_iff.1 hx).1
      simp at this
      omega
    subst hi
    rw [List.getElem?_append_right (Nat.le_refl _), Nat.sub_self] at hx
    obtain rfl := Option.some.inj (show some (c, xs) = some x from hx)
    exact ⟨.slice q m k, b, by rw [← h.len, List.getElem?_append_right (Nat.le_refl _), Nat.sub_self]; rfl, hr⟩
theorem share_new {w u : World} (hb : Below w.heap.size w u) : ShareP w u.heap.size [] (some ⟨u.heap.size, 0, none⟩) 0 [] (u.alloc (.cells #[] 88)) :=
  ⟨⟨rfl, Or.inr ⟨u.heap.size, 0, #[], rfl, Nat.le_refl _, (MapKept.heap_alloc u _).1, Nat.le_refl _, by unfold maxLen; omega, rfl, rfl⟩⟩, rfl, fun i x hx => by simp at hx, hb.alloc hb.size _, hb.size, by simp⟩
end Go.Proofs.Ytagfgbkclopoeaa.Pol
