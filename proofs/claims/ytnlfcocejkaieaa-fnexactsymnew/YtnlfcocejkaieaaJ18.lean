/-
  The specification's l4Copy: the same parts in new memory.
  The specification's l4Copy: the same parts in new memory.
  A sum so many times: the specification's PolScale.
  The specification's l5Twin and l5Copy: an atom, and atoms, in new memory.
  The specification's l5Copy: atoms in new memory.
  One atom more: the specification's l5Put and TabPut.
  Lists of words: the program's allWords and the specification's l1Words.
-/
import Derived.Test.YtnlfcocejkaieaaJ17
import Derived.Test.YtnlfcocejkaieaaJ10
import Derived.Test.YtnlfcocejkaieaaJ16
import Derived.Test.YtnlfcocejkaieaaJ05
namespace Go.Proofs.Ytnlfcocejkaieaa.Pol
set_option linter.unusedSimpArgs false
set_option linter.unusedVariables false
open Go.ChangeShapes Go.WideShapes Go.ChangeAt Go.RowKit IntS
theorem wp_copyA {w : World} {o : Oper} {a : Act} {K : Act → World → Prop} {Q : Exit → Act → World → Prop} (s x : Operand)
    (ho : o.op = .call { callee := .builtin .append, args := #[s, x], argTypes := #[51, 51] })
    (g : Nat) (hg : w.heap[g]? = some (.cells #[] 3 (0, 0))) (hs : a.eval s = .slice (some ⟨g, 0, none⟩) 0 0)
    (v : Value) (B : Nat) (xs : List Int) (hx : a.eval x = v) (hr : Row w B v xs) (hl : xs.length ≤ 1000000000000)
    (h : ∀ (g' cap' : Nat) (w' : World), IntS.Own w' g (.slice (some ⟨g', 0, none⟩) xs.length cap') xs → WRow w' g' (.slice (some ⟨g', 0, none⟩) xs.length cap') xs → g ≤ g' → g' < w'.heap.size → Turn g w w' →
      K (a.put o.dst (.slice (some ⟨g', 0, none⟩) xs.length cap')) w') : o.wp Try.prog a w K Q := by
  obtain ⟨i0, hi, hz, hsz, hby⟩ := info_int
  have hown := own_empty hg
  have hlt : g < w.heap.size := by
    rcases Nat.lt_or_ge g w.heap.size with h' | h'
    · exact h'
    · rw [Array.getElem?_eq_none h'] at hg; cases hg
  have key (ad : Addr) (m c : Nat) (hv : v = .slice (some ad) m c) (hm : xs.length = m) (hc : ∀ j u, (vals xs)[j]? = some u → w.cell? (ad.add j) = some u) : o.wp Try.prog a w K Q := by
    subst hm
    refine wp_append_own w s x 51 ho g 3 i0 (.int .i64 0) 1 8 Try.underlying51 hi hz hsz hby rfl (by decide) (.slice (some ⟨g, 0, none⟩) 0 0) 0 [] hs hown ad xs.length c (vals xs) (hx.trans hv) (by rw [vals_len]; omega) hc (fun u hu => ?_) (by unfold maxLen; omega) (by omega) (Nat.le_of_lt hlt) (fun v' w' h1 h2 h3 => ?_)
    · obtain ⟨y, _, rfl⟩ := List.mem_map.1 hu
      rfl
    · have hne : ¬ v' = .slice none 0 0 := fun e => by cases (h3.1 e).1
      have h1' : IntS.Own w' g v' xs := by
        unfold IntS.Own
        rw [Nat.zero_add, List.nil_append] at h1
        exact h1
      obtain ⟨g', cap', rfl, k1, k2, k3⟩ := h1'.form hne
      exact h g' cap' w' h1' k3 k1 k2 (Turn.of_grown h2)
  obtain ⟨a0, cap, off, hv, h2, h3, hz0, h4⟩ := hr
  cases a0 with
  | none =>
    have hc0 := hz0 rfl
    subst hc0
    have hx0 : xs = [] := List.length_eq_zero_iff.1 (by omega)
    subst hx0
    have hrun := run_append_owned_none (P := Try.prog) (w := w) g 51 o.type 3 i0 1 Try.underlying51 hi (.slice (some ⟨g, 0, none⟩) 0 0) 0 [] hown
    obtain ⟨g', cap', e, k1, k2, k3⟩ := hown.form (fun e => by cases e)
    cases e
    have hh := h g 0 w hown k3 k1 k2 (Turn.refl _ _)
    unfold Oper.wp
    simp [execOp, ho, resolve, invoke, builtin, hs, hx.trans hv, hrun, Result.andThen]
    simpa [Oper.upon] using hh
  | some ad =>
    rcases h4 with h4 | ⟨h4, h5⟩
    · subst h4
      exact key ad 0 cap hv rfl (fun j u hu => by simp [vals] at hu)
    · refine key ad xs.length cap hv rfl (fun j u hu => ?_)
      cases h4
      rw [Go.WideShapes.add_plain]
      simp only [vals, List.getElem?_map, Option.map_eq_some_iff] at hu
      obtain ⟨y, hy, rfl⟩ := hu
      exact h5 j y hy
theorem wp_pushM {w : World} {o : Oper} {a : Act} {K : Act → World → Prop} {Q : Exit → Act → World → Prop} (s x : Operand)
    (ho : o.op = .call { callee := .builtin .append, args := #[s, x], argTypes := #[33, 33] })
    (lo : Nat) (v : Value) (cs : List (Int × Value)) (hs : a.eval s = v) (hown : OwnM w lo v cs) (hlo : lo ≤ w.heap.size)
    (ad : Addr) (c : Int) (q : Option Addr) (m k : Nat) (hx : a.eval x = .slice (some ad) 1 1) (hc : w.cell? (ad.add 0) = some (.int .i64 c)) (hc2 : w.cell? (ad.add 1) = some (.slice q m k)) (hl : cs.length ≤ 1000000)
    (h : ∀ (G cap : Nat) (w' : World), OwnM w' lo (.slice (some ⟨G, 0, none⟩) (cs.length + 1) cap) (cs ++ [(c, .slice q m k)]) → w.grownBy w' v.ownBlock → K (a.put o.dst (.slice (some ⟨G, 0, none⟩) (cs.length + 1) cap)) w') : o.wp Try.prog a w K Q := by
  obtain ⟨i, hi, hz, hsz, hby⟩ := infoMono
  refine wp_append_own w s x 33 ho lo 53 i _ 2 32 Try.underlying33 hi hz hsz hby rfl (by decide) v cs.length (flat cs) hs hown ad 1 1 [.int .i64 c, .slice q m k] hx rfl (fun j u hu => ?_) (fun u hu => by simp at hu; rcases hu with rfl | rfl <;> rfl) (by unfold maxLen; omega) (by omega) hlo fun v' w' h1 h2 h3 => ?_
  · match j, hu with
    | 0, hu => cases hu; exact hc
    | 1, hu => cases hu; exact hc2
    | j + 2, hu => simp at hu
  · have e : flat cs ++ [.int .i64 c, .slice q m k] = flat (cs ++ [(c, .slice q m k)]) := by rw [flat_app]; rfl
    rw [e] at h1
    have g1 : OwnM w' lo v' (cs ++ [(c, .slice q m k)]) := by
      unfold OwnM
      rw [List.length_append]
      exact h1
    obtain ⟨G, cap, rfl⟩ := g1.form (fun e2 => by have := (h3.1 e2).2; omega)
    rw [List.length_append] at g1
    have := h G cap w' g1 h2
    simpa using this
theorem ownBlock_turn {w w' : World} {vq : Option Addr} {vn vc base : Nat} {cs : List (Int × Value)} (h : OwnM w base (.slice vq vn vc) cs) (hg : w.grownBy w' (Value.slice vq vn vc).ownBlock) : ∃ T, Turn T w w' ∧ base ≤ T ∧ (∀ b, IsT w b 3 → b ≠ T) ∧ (T < w.heap.size → IsT w T 53) := by
  have mi : (53 : TypeId) ≠ 3 := by decide
  obtain ⟨hl, h0 | ⟨G, cap, cur, hv, hb, hh, rest⟩⟩ := h
  · cases h0.1
    refine ⟨w.heap.size + base, ⟨hg.os, hg.tape, hg.output, hg.size, fun k hk _ => hg.block k hk (by simp [Value.ownBlock])⟩, by omega, fun b hb e => by have := hb.lt; omega, fun h => by omega⟩
  · cases hv
    refine ⟨G, Turn.of_grown hg, hb, fun b hb2 e => ?_, fun _ => ⟨cur, _, hh⟩⟩
    exact (IsT.ne (⟨cur, _, hh⟩ : IsT w G 53) hb2 mi) e.symm
/-- Where a copy is: so many parts are there. -/
structure CopyP (w : World) (ps : List Mono) (k : Nat) (vq : Option Addr) (vc : Nat) (cs : List (Int × Value)) (g cp : Nat → Nat) (u : World) : Prop where
  res : Rec w.heap.size [.slice none 0 0] u
  p : Rec (w.heap.size + 1) [.slice vq k vc] u
  own : OwnM u (w.heap.size + 2) (.slice vq k vc) cs
  len : cs.length = k
  rows : ∀ (i : Nat) x, i < k → ps[i]? = some x → cs[i]? = some (x.1, .slice (some ⟨g i, 0, none⟩) x.2.length (cp i)) ∧ WRow u (g i) (.slice (some ⟨g i, 0, none⟩) x.2.length (cp i)) x.2 ∧ IsT u (g i) 3 ∧ w.heap.size + 2 ≤ g i
  inc : ∀ i j, i < j → j < k → g i < g j
  bw : Below w.heap.size w u
theorem OwnM.lt {w : World} {base G n cap : Nat} {cs : List (Int × Value)} (h : OwnM w base (.slice (some ⟨G, 0, none⟩) n cap) cs) : G < w.heap.size := h.cells.2.2.2.2.1.lt
theorem CopyP.turn {w u u' : World} {ps : List Mono} {k vc T : Nat} {vq : Option Addr} {cs : List (Int × Value)} {g cp : Nat → Nat} (h : CopyP w ps k vq vc cs g cp u) (ht : Turn T u u') (hT : u.heap.size ≤ T) : CopyP w ps k vq vc cs g cp u' := by
  have a := h.res.lt
  have b := h.p.lt
  refine ⟨h.res.turn ht (by omega), h.p.turn ht (by omega), h.own.turn ht (fun G n cap e => by have := h.own; rw [e] at this; have := this.lt; omega), h.len, fun i x hi hx => ?_, h.inc, h.bw.trans (ht.below (by omega) h.bw.size)⟩
  obtain ⟨k1, k2, k3, k4⟩ := h.rows i x hi hx
  have := k3.lt
  exact ⟨k1, k2.turn ht (by omega), k3.turn ht (by omega), k4⟩
theorem CopyP.below {w u u' : World} {ps : List Mono} {k vc : Nat} {vq : Option Addr} {cs : List (Int × Value)} {g cp : Nat → Nat} (h : CopyP w ps k vq vc cs g cp u) (hb : Below u.heap.size u u') : CopyP w ps k vq vc cs g cp u' := h.turn (T := u.heap.size) (Turn.of_below hb) (Nat.le_refl _)
theorem CopyP.next {w u u' : World} {ps : List Mono} {k vc G cap g' cp' : Nat} {vq : Option Addr} {cs : List (Int × Value)} {g cp : Nat → Nat} {x : Mono} (h : CopyP w ps k vq vc cs g cp u) (hx : ps[k]? = some x) (hg : ∀ i, i < k → g i < g') (hR : WRow u g' (.slice (some ⟨g', 0, none⟩) x.2.length cp') x.2) (hI : IsT u g' 3) (hlo : w.heap.size + 2 ≤ g')
    (ho : OwnM u' (w.heap.size + 2) (.slice (some ⟨G, 0, none⟩) (k + 1) cap) (cs ++ [(x.1, .slice (some ⟨g', 0, none⟩) x.2.length cp')])) (hgr : u.grownBy u' (Value.slice vq k vc).ownBlock) :
    CopyP w ps (k + 1) (some ⟨G, 0, none⟩) cap (cs ++ [(x.1, .slice (some ⟨g', 0, none⟩) x.2.length cp')]) (fun i => if i < k then g i else g') (fun i => if i < k then cp i else cp') (u'.setCell ⟨w.heap.size + 1, 0, none⟩ (.slice (some ⟨G, 0, none⟩) (k + 1) cap)) := by
  obtain ⟨T, ht, hT, hTi, _⟩ := ownBlock_turn h.own hgr
  have hG := ho.cells.2.2.2.1
  refine ⟨(h.res.turn ht (by omega)).other _ _ (by show w.heap.size + 1 ≠ w.heap.size; omega), (h.p.turn ht (by omega)).set 0 _ (by simp) rfl, ho.turn ((Turn.refl (w.heap.size + 1) u').setCell (p := ⟨w.heap.size + 1, 0, none⟩) rfl _) (fun G' n c e => by cases e; omega), by simp [h.len], fun i z hi hz => ?_, fun i j hij hj => ?_, (h.bw.trans (ht.below (by omega) h.bw.size)).setCell (by show w.heap.size ≤ w.heap.size + 1; omega) _⟩
  · by_cases e : i < k
    · simp only [if_pos e]
      obtain ⟨k1, k2, k3, k4⟩ := h.rows i z e hz
      exact ⟨by rw [List.getElem?_append_left (by rw [h.len]; exact e)]; exact k1, other_row (k2.turn ht (hTi _ k3)) _ _ (by show w.heap.size + 1 ≠ g i; omega), (k3.turn ht (hTi _ k3)).set _ _, k4⟩
    · obtain rfl : i = k := by omega
      rw [hx] at hz
      obtain rfl := Option.some.inj hz
      simp only [if_neg e]
      exact ⟨by rw [List.getElem?_append_right (by rw [h.len]; omega), h.len, Nat.sub_self]; rfl, other_row (hR.turn ht (hTi _ hI)) _ _ (by show w.heap.size + 1 ≠ g'; omega), (hI.turn ht (hTi _ hI)).set _ _, hlo⟩
  · by_cases e : j < k
    · simp only [if_pos e, if_pos (show i < k by omega)]
      exact h.inc i j hij e
    · simp only [if_neg e, if_pos (show i < k by omega)]
      exact hg i (by omega)
theorem CopyP.whole {w u : World} {ps : List Mono} {vc : Nat} {vq : Option Addr} {cs : List (Int × Value)} {g cp : Nat → Nat} (h : CopyP w ps ps.length vq vc cs g cp u) (hne : ps ≠ []) : WPoly u (w.heap.size + 2) u.heap.size (.slice vq ps.length vc) ps := by
  have hn : ¬ (Value.slice vq ps.length vc) = .slice none 0 0 := fun e => by
    have : ps.length = 0 := by injection e
    exact hne (List.length_eq_zero_iff.1 this)
  obtain ⟨G, cap, e⟩ := h.own.form hn
  rw [h.len] at e
  injection e with e1 _ e3
  subst e1 e3
  obtain ⟨_, hc, hm, hb, hI, hcells, hsoft⟩ := h.own.cells
  have mi : (53 : TypeId) ≠ 3 := by decide
  refine ⟨_, G, vc, g, fun i => .slice (some ⟨g i, 0, none⟩) (ps.getD i (0, [])).2.length (cp i), rfl, hc, hm, (fun h => by cases h), Or.inr ⟨rfl, by omega, hI.lt, hI.lt⟩, fun i x hx => ?_, fun i j x y hij hx hy => ?_⟩
  · have hi := (List.getElem?_eq_some_iff.1 hx).1
    obtain ⟨k1, k2, k3, k4⟩ := h.rows i x hi hx
    obtain ⟨c1, c2⟩ := hcells i _ k1
    simp only [getD_part hx]
    exact ⟨c1, hsoft _, c2, k2, Or.inr ⟨by omega, k3.lt, fun e => (IsT.ne hI k3 mi) e.symm⟩⟩
  · have := h.inc i j hij (List.getElem?_eq_some_iff.1 hy).1
    exact Or.inr (Or.inr (by omega))
end Go.Proofs.Ytnlfcocejkaieaa.Pol
namespace Go.Proofs.Ytnlfcocejkaieaa.Pol
set_option linter.unusedSimpArgs false
set_option linter.unusedVariables false
open Go.ChangeShapes Go.WideShapes Go.ChangeAt Go.RowKit IntS
theorem heap_new (u : World) (t : TypeId) : (u.alloc (.cells #[] t)).heap[u.heap.size]? = some (.cells #[] t (0, 0)) := (MapKept.heap_alloc u _).1
end Go.Proofs.Ytnlfcocejkaieaa.Pol
namespace Go.Proofs.Ytnlfcocejkaieaa.Pol
open Go.ChangeShapes Go.WideShapes Go.ChangeAt Go.RowKit IntS
def scaleL (n : Int) : List Mono → List Mono
  | [] => []
  | x :: r => if 0 < x.1 * n % 65536 then (x.1 * n % 65536, x.2) :: scaleL n r else scaleL n r
def scaleP (ps : List Mono) (n : Int) : List Mono := if okP ps = true ∧ Wrd.wok n = true then scaleL n ps else []
theorem scale_no {ps : List Mono} {n : Int} (h : ¬ (okP ps = true ∧ Wrd.wok n = true)) : scaleP ps n = [] := if_neg h
theorem scale_yes {ps : List Mono} {n : Int} (h1 : okP ps = true) (h2 : Wrd.wok n = true) : scaleP ps n = scaleL n ps := if_pos ⟨h1, h2⟩
theorem scale_keep {ps : List Mono} {n : Int} {k : Nat} {x : Mono} (h : ps[k]? = some x) (hc : 0 < x.1 * n % 65536) : scaleL n (ps.drop k) = (x.1 * n % 65536, x.2) :: scaleL n (ps.drop (k + 1)) := by rw [drop_cons h, scaleL, if_pos hc]
theorem scale_drop {ps : List Mono} {n : Int} {k : Nat} {x : Mono} (h : ps[k]? = some x) (hc : ¬ 0 < x.1 * n % 65536) : scaleL n (ps.drop k) = scaleL n (ps.drop (k + 1)) := by rw [drop_cons h, scaleL, if_neg hc]
theorem scale_end {ps : List Mono} {n : Int} {k : Nat} (h : ps.length ≤ k) : scaleL n (ps.drop k) = [] := by rw [List.drop_eq_nil_of_le h]; rfl
theorem scale_mem {n : Int} : ∀ (ps : List Mono) (x : Mono), x ∈ scaleL n ps → ∃ y ∈ ps, x.2 = y.2
  | [], x, h => by simp [scaleL] at h
  | y :: r, x, h => by
    rw [scaleL] at h
    split at h
    · rcases List.mem_cons.1 h with rfl | h
      · exact ⟨y, List.mem_cons_self .., rfl⟩
      · obtain ⟨z, hz, e⟩ := scale_mem r x h
        exact ⟨z, List.mem_cons_of_mem _ hz, e⟩
    · obtain ⟨z, hz, e⟩ := scale_mem r x h
      exact ⟨z, List.mem_cons_of_mem _ hz, e⟩
theorem scale_len {n : Int} : ∀ ps : List Mono, (scaleL n ps).length ≤ ps.length
  | [] => Nat.le_refl _
  | y :: r => by
    rw [scaleL]
    split
    · simp; exact scale_len r
    · exact Nat.le_trans (scale_len r) (by simp)
theorem ok_len {ps : List Mono} (h : okP ps = true) : ps.length ≤ 12 := by
  unfold okP at h
  simp only [Bool.and_eq_true] at h
  exact of_decide_eq_true h.1
theorem ok_atoms {ps : List Mono} (h : okP ps = true) {x : Mono} (hx : x ∈ ps) : x.2.length ≤ 4 := by
  obtain ⟨k, hk⟩ := List.getElem?_of_mem hx
  unfold okP at h
  simp only [Bool.and_eq_true] at h
  have := all_at h.2 (List.getElem?_eq_some_iff.1 hk).1
  unfold partAt at this
  simp only [Bool.and_eq_true] at this
  rw [getD_part hk] at this
  have h2 := this.1
  unfold monoB at h2
  simp only [Bool.and_eq_true] at h2
  exact of_decide_eq_true h2.1.2
/-- A slice of parts that the call made; their atoms are the argument's own lists. -/
structure ShareP (w : World) (lo : Nat) (L : List Mono) (vq : Option Addr) (vc : Nat) (cs : List (Int × Value)) (u : World) : Prop where
  own : OwnM u lo (.slice vq L.length vc) cs
  len : cs.length = L.length
  rows : ∀ (i : Nat) x, L[i]? = some x → ∃ s b, cs[i]? = some (x.1, s) ∧ Row w b s x.2
  bw : Below w.heap.size w u
  lo1 : w.heap.size ≤ lo
  lo2 : lo ≤ u.heap.size
theorem ShareP.below {w u u' : World} {lo : Nat} {L : List Mono} {vq : Option Addr} {vc : Nat} {cs : List (Int × Value)} (h : ShareP w lo L vq vc cs u) (hb : Below u.heap.size u u') : ShareP w lo L vq vc cs u' :=
  ⟨h.own.below hb, h.len, h.rows, h.bw.trans (hb.mono h.bw.size), h.lo1, Nat.le_trans h.lo2 hb.size⟩
theorem ShareP.read {w u : World} {lo : Nat} {L : List Mono} {vq : Option Addr} {vc : Nat} {cs : List (Int × Value)} (h : ShareP w lo L vq vc cs u) : ∃ B, PRow u B (.slice vq L.length vc) L := by
  by_cases hn : (Value.slice vq L.length vc) = .slice none 0 0
  · injection hn with e1 e2 e3
    subst e1 e3
    exact ⟨0, none, 0, 0, rfl, by omega, by unfold maxLen; omega, fun _ => rfl, Or.inl (List.length_eq_zero_iff.1 e2)⟩
  · obtain ⟨G, cap, e⟩ := h.own.form hn
    rw [h.len] at e
    injection e with e1 _ e3
    subst e1 e3
    obtain ⟨_, hc, hm, hb, hI, hcells, hsoft⟩ := h.own.cells
    refine ⟨G, some ⟨G, 0, none⟩, vc, 0, rfl, hc, hm, (fun h => by cases h), Or.inr ⟨rfl, fun i x hx => ?_⟩⟩
    obtain ⟨s, b, k1, k2⟩ := h.rows i x hx
    obtain ⟨c1, c2⟩ := hcells i _ k1
    rw [Nat.zero_add]
    exact ⟨c1, s, b, c2, k2.below h.bw⟩
theorem ShareP.next {w u u' : World} {lo : Nat} {L : List Mono} {vq : Option Addr} {vc G cap b m k : Nat} {cs : List (Int × Value)} {c : Int} {xs : List Int} {q : Option Addr} (h : ShareP w lo L vq vc cs u) (hr : Row w b (.slice q m k) xs)
    (ho : OwnM u' lo (.slice (some ⟨G, 0, none⟩) (cs.length + 1) cap) (cs ++ [(c, .slice q m k)])) (hg : u.grownBy u' (Value.slice vq L.length vc).ownBlock) : ShareP w lo (L ++ [(c, xs)]) (some ⟨G, 0, none⟩) cap (cs ++ [(c, .slice q m k)]) u' := by
  obtain ⟨T, ht, hT, _, _⟩ := ownBlock_turn h.own hg
  have := h.lo1
  refine ⟨by rw [List.length_append, ← h.len]; exact ho, by simp [h.len], fun i x hx => ?_, h.bw.trans (ht.below (by omega) h.bw.size), h.lo1, Nat.le_trans h.lo2 ht.size⟩
  by_cases e : i < L.length
  · rw [List.getElem?_append_left e] at hx
    obtain ⟨s, b2, k1, k2⟩ := h.rows i x hx
    exact ⟨s, b2, by rw [List.getElem?_append_left (by rw [h.len]; exact e)]; exact k1, k2⟩
  · have hi : i = L.length := by
      have := (List.getElem?_eq_some_iff.1 hx).1
      simp at this
      omega
    subst hi
    rw [List.getElem?_append_right (Nat.le_refl _), Nat.sub_self] at hx
    obtain rfl := Option.some.inj (show some (c, xs) = some x from hx)
    exact ⟨.slice q m k, b, by rw [← h.len, List.getElem?_append_right (Nat.le_refl _), Nat.sub_self]; rfl, hr⟩
theorem share_new {w u : World} (hb : Below w.heap.size w u) : ShareP w u.heap.size [] (some ⟨u.heap.size, 0, none⟩) 0 [] (u.alloc (.cells #[] 53)) :=
  ⟨⟨rfl, Or.inr ⟨u.heap.size, 0, #[], rfl, Nat.le_refl _, (MapKept.heap_alloc u _).1, Nat.le_refl _, by unfold maxLen; omega, rfl, rfl⟩⟩, rfl, fun i x hx => by simp at hx, hb.alloc hb.size _, hb.size, by simp⟩
end Go.Proofs.Ytnlfcocejkaieaa.Pol
namespace Go.Proofs.Ytnlfcocejkaieaa.Tab
set_option linter.unusedVariables false
set_option linter.unusedSimpArgs false
open Go.ChangeShapes Go.WideShapes Go.ChangeAt Go.RowKit IntS Pol Push
theorem fine_of {t : At} {n : Int} (h : atomB t n = true) : FineA t := by
  have k := atom_kok h
  have h1 := ok_len k.x
  have h2 := ok_len k.y
  exact ⟨by omega, by omega, fun m hm => by have := ok_atoms k.x hm; omega, fun m hm => by have := ok_atoms k.y hm; omega⟩
/-- Where a copy of atoms is. -/
structure CopyT (w : World) (v : Value) (ts : List At) (k : Nat) (q : Option Addr) (cap : Nat) (cs : List C4) (l m h : Nat → Nat) (u : World) : Prop where
  a : Rec w.heap.size [v] u
  z : Rec (w.heap.size + 1) [.slice none 0 0] u
  x : Rec (w.heap.size + 1 + 1) [.slice q k cap] u
  tab : OTab u (w.heap.size + 3) q cap cs l m h (ts.take k)
  bw : Below w.heap.size w u
theorem CopyT.below {w u u' : World} {v : Value} {ts : List At} {k cap : Nat} {q : Option Addr} {cs : List C4} {l m h : Nat → Nat} (H : CopyT w v ts k q cap cs l m h u) (hb : Below u.heap.size u u') : CopyT w v ts k q cap cs l m h u' :=
  ⟨H.a.below hb, H.z.below hb, H.x.below hb, H.tab.below hb, H.bw.trans (hb.mono H.bw.size)⟩
theorem take_len {ts : List At} {k : Nat} (h : k ≤ ts.length) : (ts.take k).length = k := by rw [List.length_take]; omega
theorem take_next {ts : List At} {k : Nat} {t : At} (h : ts[k]? = some t) : ts.take k ++ [t] = ts.take (k + 1) := by rw [List.take_add_one, h]; rfl
/-- One more atom is copied: u ahead of its copy, u1 behind it, u2 with the row of one, u3 with all. -/
theorem CopyT.next {w u u1 u3 : World} {v : Value} {ts : List At} {k cap : Nat} {q : Option Addr} {cs : List C4} {l m h : Nat → Nat} (H : CopyT w v ts k q cap cs l m h u) {t : At} (ht : ts[k]? = some t) (hb : Below u.heap.size u u1) {ax : Option Addr} {nx kx : Nat} {ay : Option Addr} {ny ky mid : Nat}
    (wx : WPoly u1 u.heap.size mid (.slice ax nx kx) t.x) (wy : WPoly u1 mid u1.heap.size (.slice ay ny ky) t.y) (m1 : u.heap.size ≤ mid) (m2 : mid ≤ u1.heap.size) {o : Obj} {G' cap' : Nat} (ho : OwnT u3 (w.heap.size + 3) (.slice (some ⟨G', 0, none⟩) (k + 1) cap') (cs ++ [⟨t.kd, t.k, .slice ax nx kx, .slice ay ny ky⟩]))
    (hg : (Value.slice q k cap).ownBlock = some G' ∨ (u1.alloc o).heap.size ≤ G') (gr : (u1.alloc o).grownBy u3 (Value.slice q k cap).ownBlock) :
    CopyT w v ts (k + 1) (some ⟨G', 0, none⟩) cap' (cs ++ [⟨t.kd, t.k, .slice ax nx kx, .slice ay ny ky⟩]) (fun i => if i < (ts.take k).length then l i else u.heap.size) (fun i => if i < (ts.take k).length then m i else mid) (fun i => if i < (ts.take k).length then h i else u1.heap.size) (u3.setCell ⟨w.heap.size + 1 + 1, 0, none⟩ (.slice (some ⟨G', 0, none⟩) (k + 1) cap')) := by
  have hk : k ≤ ts.length := Nat.le_of_lt (List.getElem?_eq_some_iff.1 ht).1
  have el := take_len hk
  have hx := H.x.lt
  have bA : Below u1.heap.size u1 (u1.alloc o) := (Below.refl _ _).alloc (Nat.le_refl _) o
  have H1 := (H.below hb).below bA
  have sz : (u1.alloc o).heap.size = u1.heap.size + 1 := by simp
  have T2 : OTab u3 (w.heap.size + 3) (some ⟨G', 0, none⟩) cap' (cs ++ [⟨t.kd, t.k, .slice ax nx kx, .slice ay ny ky⟩]) (fun i => if i < (ts.take k).length then l i else u.heap.size) (fun i => if i < (ts.take k).length then m i else mid) (fun i => if i < (ts.take k).length then h i else u1.heap.size) (ts.take k ++ [t]) :=
    OTab.next H1.tab (wx.below bA) (wy.below bA) (by omega) m1 m2 (by omega) (fun i hi => by
      obtain ⟨z, hz⟩ : ∃ z, (ts.take k)[i]? = some z := ⟨_, List.getElem?_eq_getElem hi⟩
      obtain ⟨_, _, _, _, _, _, _, _, k7, _⟩ := H.tab.rows i z hz
      exact k7) (fun G e => (H.tab.q_lt e).2) (by rw [el]; exact ho) (by rw [el]; exact hg) (by rw [el]; exact gr)
  have gl : ∀ G, q = some ⟨G, 0, none⟩ → w.heap.size + 3 ≤ G := fun G e => (H.tab.q_lt e).1
  have kp : ∃ T, Turn T (u1.alloc o) u3 ∧ w.heap.size + 3 ≤ T := by
    rcases H.tab.q_form with ⟨rfl, rfl, _⟩ | ⟨G, rfl⟩
    · exact ⟨(u1.alloc o).heap.size, ⟨gr.os, gr.tape, gr.output, gr.size, fun k hk _ => gr.block k hk (by simp [Value.ownBlock])⟩, by have := H1.x.lt; omega⟩
    · exact ⟨G, Turn.of_grown gr, gl G rfl⟩
  obtain ⟨T, tn, tl⟩ := kp
  have t2 : Turn (w.heap.size + 1 + 1) u3 (u3.setCell ⟨w.heap.size + 1 + 1, 0, none⟩ (.slice (some ⟨G', 0, none⟩) (k + 1) cap')) := (Turn.refl _ _).setCell (p := ⟨w.heap.size + 1 + 1, 0, none⟩) rfl _
  refine ⟨(H1.a.turn tn (by omega)).turn t2 (by omega), (H1.z.turn tn (by omega)).turn t2 (by omega), (H1.x.turn tn (by omega)).set 0 _ (by simp) rfl, ?_, (H1.bw.trans (tn.below (by omega) H1.bw.size)).trans (t2.below (by omega) ?_)⟩
  · rw [← take_next ht]
    exact T2.turn t2 (Or.inl (by omega))
  · exact (H1.bw.trans (tn.below (by omega) H1.bw.size)).size
end Go.Proofs.Ytnlfcocejkaieaa.Tab
namespace Go.Proofs.Ytnlfcocejkaieaa.Tab
set_option linter.unusedVariables false
set_option linter.unusedSimpArgs false
open Go.ChangeShapes Go.WideShapes Go.ChangeAt Go.RowKit IntS Pol Push
theorem OTab.mono {w : World} {lo lo' cap : Nat} {q : Option Addr} {cs : List C4} {l m h : Nat → Nat} {ts : List At} (H : OTab w lo q cap cs l m h ts) (hl : lo' ≤ lo) : OTab w lo' q cap cs l m h ts := by
  refine ⟨owns_mono H.own hl, H.len, fun i t hi => ?_, H.inc⟩
  obtain ⟨sx, sy, k1, k2, k3, k4, r⟩ := H.rows i t hi
  exact ⟨sx, sy, k1, k2, k3, Nat.le_trans hl k4, r⟩
end Go.Proofs.Ytnlfcocejkaieaa.Tab
namespace Go.Proofs.Ytnlfcocejkaieaa.Tab
set_option linter.unusedVariables false
set_option linter.unusedSimpArgs false
open Go.ChangeShapes Go.WideShapes Go.ChangeAt Go.RowKit IntS Pol Push
/-- Whether an atom is there. -/
def thereB (ts : List At) (a : At) : Bool := ts.any fun s => sameB s a
def putT (ts : List At) (a : At) : List At := if atomB a ts.length = true ∧ thereB ts a = false ∧ ts.length ≠ 200 then ts ++ [a] else ts
def putN (ts : List At) (a : At) : Int := if atomB a ts.length = true then (if thereB ts a = true then (ts.findIdx fun s => sameB s a) else if ts.length = 200 then -1 else ts.length) else -1
theorem put_bad {ts : List At} {a : At} (h : atomB a ts.length = false) : putT ts a = ts ∧ putN ts a = -1 := by
  unfold putT putN
  rw [h]
  simp
theorem put_there {ts : List At} {a s : At} {k : Nat} (h : atomB a ts.length = true) (hs : ts[k]? = some s) (he : sameB s a = true) (hno : ∀ (j : Nat) s', j < k → ts[j]? = some s' → sameB s' a = false) : putT ts a = ts ∧ putN ts a = k := by
  have ht : thereB ts a = true := List.any_eq_true.2 ⟨s, List.mem_of_getElem? hs, he⟩
  obtain ⟨hk, rfl⟩ := List.getElem?_eq_some_iff.1 hs
  have hi : (ts.findIdx fun s => sameB s a) = k := by
    refine (List.findIdx_eq hk).2 ⟨he, fun j hj => ?_⟩
    exact hno j _ hj (List.getElem?_eq_getElem (by omega))
  unfold putT putN
  rw [h, ht, hi]
  simp
theorem there_no {ts : List At} {a : At} (hno : ∀ (j : Nat) s', j < ts.length → ts[j]? = some s' → sameB s' a = false) : thereB ts a = false := by
  unfold thereB
  rw [List.any_eq_false]
  intro s hs
  obtain ⟨j, hj⟩ := List.getElem?_of_mem hs
  rw [hno j s (List.getElem?_eq_some_iff.1 hj).1 hj]
  decide
theorem put_full {ts : List At} {a : At} (h : atomB a ts.length = true) (hno : thereB ts a = false) (hl : ts.length = 200) : putT ts a = ts ∧ putN ts a = -1 := by
  unfold putT putN
  rw [h, hno, hl]
  simp
theorem put_new {ts : List At} {a : At} (h : atomB a ts.length = true) (hno : thereB ts a = false) (hl : ts.length ≠ 200) : putT ts a = ts ++ [a] ∧ putN ts a = ts.length := by
  unfold putT putN
  rw [h, hno]
  simp [hl]
theorem OTab.apart {w w' : World} {lo cap T : Nat} {q : Option Addr} {cs : List C4} {l m h : Nat → Nat} {ts : List At} (H : OTab w lo q cap cs l m h ts) (ht : Turn T w w') (hG : ∀ G, q = some ⟨G, 0, none⟩ → G ≠ T) (hR : ∀ i, i < ts.length → T < l i ∨ h i ≤ T) : OTab w' lo q cap cs l m h ts := by
  refine ⟨?_, H.len, fun i t hi => ?_, H.inc⟩
  · obtain ⟨h1, h0 | ⟨g, cap', cur, hv, hb, hh, rest⟩⟩ := H.own
    · exact ⟨h1, Or.inl h0⟩
    · have hg : g < w.heap.size := by rcases Nat.lt_or_ge g w.heap.size with h' | h'; exact h'; rw [Array.getElem?_eq_none h'] at hh; cases hh
      injection hv with e1 e2 e3
      exact ⟨h1, Or.inr ⟨g, cap', cur, by rw [e1, e2, e3], hb, (ht.block g hg (hG g e1)).trans hh, rest⟩⟩
  · obtain ⟨sx, sy, k1, k2, k3, k4, k5, k6, k7, k8⟩ := H.rows i t hi
    have := hR i (List.getElem?_eq_some_iff.1 hi).1
    exact ⟨sx, sy, k1, k2.keep (Keep.of_turn ht) (fun b h1 h2 (h3 : b = _) => by omega), k3.keep (Keep.of_turn ht) (fun b h1 h2 (h3 : b = _) => by omega), k4, k5, k6, Nat.le_trans k7 ht.size, k8⟩
theorem OTab.hi {w : World} {lo cap : Nat} {q : Option Addr} {cs : List C4} {l m h : Nat → Nat} {ts : List At} (H : OTab w lo q cap cs l m h ts) {i : Nat} (hi : i < ts.length) : h i ≤ w.heap.size := by
  obtain ⟨sx, sy, k1, k2, k3, k4, k5, k6, k7, k8⟩ := H.rows i _ (List.getElem?_eq_getElem hi)
  exact k7
/-- A block that is none of a table's. -/
def Away (b : Nat) (q : Option Addr) (l h : Nat → Nat) (n : Nat) : Prop := (∀ G, q = some ⟨G, 0, none⟩ → G ≠ b) ∧ ∀ i, i < n → b < l i ∨ h i ≤ b
def putP (ts : List At) (a : At) : List At := if tabB ts = true then putT ts a else []
def putK (ts : List At) (a : At) : Int := if tabB ts = true then putN ts a else -1
end Go.Proofs.Ytnlfcocejkaieaa.Tab
namespace Go.Proofs.Ytnlfcocejkaieaa.Pol
open Go.ChangeShapes Go.WideShapes Go.ChangeAt Go.RowKit IntS
def wordsB (xs : List Int) : Bool := xs.all Wrd.wok
theorem words_no {xs : List Int} {k : Nat} {x : Int} (hx : xs[k]? = some x) (h : Wrd.wok x = false) : wordsB xs = false := by
  unfold wordsB
  rw [List.all_eq_false]
  exact ⟨x, List.mem_of_getElem? hx, by simp [h]⟩
theorem words_yes {xs : List Int} (h : ∀ (k : Nat) x, xs[k]? = some x → Wrd.wok x = true) : wordsB xs = true := by
  unfold wordsB
  rw [List.all_eq_true]
  intro x hx
  obtain ⟨k, hk⟩ := List.getElem?_of_mem hx
  exact h k x hk
theorem words_mem {xs : List Int} (h : wordsB xs = true) (x : Int) (hx : x ∈ xs) : 0 ≤ x ∧ x < 65536 := by
  unfold wordsB at h
  rw [List.all_eq_true] at h
  have := h x hx
  unfold Wrd.wok at this
  exact of_decide_eq_true this
end Go.Proofs.Ytnlfcocejkaieaa.Pol
