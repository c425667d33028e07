/-
  The specification's l4Copy: the same parts in new memory.
-/
import Derived.Test.YtckhfpaicnjknaaGreatPolS
import Derived.Test.YtckhfpaicnjknaaGreatPhase
namespace Go.Proofs.YtckhfpaicnjknaaGreat.Pol
set_option linter.unusedSimpArgs false
set_option linter.unusedVariables false
open Go.ChangeShapes Go.WideShapes Go.ChangeAt Go.RowKit IntS
theorem wp_copyA {w : World} {o : Oper} {a : Act} {K : Act → World → Prop} {Q : Exit → Act → World → Prop} (s x : Operand)
    (ho : o.op = .call { callee := .builtin .append, args := #[s, x], argTypes := #[28, 28] })
    (g : Nat) (hg : w.heap[g]? = some (.cells #[] 3 (0, 0))) (hs : a.eval s = .slice (some ⟨g, 0, none⟩) 0 0)
    (v : Value) (B : Nat) (xs : List Int) (hx : a.eval x = v) (hr : Row w B v xs) (hl : xs.length ≤ 1000000000000)
    (h : ∀ (g' cap' : Nat) (w' : World), IntS.Own w' g (.slice (some ⟨g', 0, none⟩) xs.length cap') xs → WRow w' g' (.slice (some ⟨g', 0, none⟩) xs.length cap') xs → g ≤ g' → g' < w'.heap.size → Turn g w w' →
      K (a.put o.dst (.slice (some ⟨g', 0, none⟩) xs.length cap')) w') : o.wp Tryz.prog a w K Q := by
  obtain ⟨i0, hi, hz, hsz, hby⟩ := info_int
  have hown := own_empty hg
  have hlt : g < w.heap.size := by
    rcases Nat.lt_or_ge g w.heap.size with h' | h'
    · exact h'
    · rw [Array.getElem?_eq_none h'] at hg; cases hg
  have key (ad : Addr) (m c : Nat) (hv : v = .slice (some ad) m c) (hm : xs.length = m) (hc : ∀ j u, (vals xs)[j]? = some u → w.cell? (ad.add j) = some u) : o.wp Tryz.prog a w K Q := by
    subst hm
    refine wp_append_own w s x 28 ho g 3 i0 (.int .i64 0) 1 8 Tryz.underlying28 hi hz hsz hby rfl (by decide) (.slice (some ⟨g, 0, none⟩) 0 0) 0 [] hs hown ad xs.length c (vals xs) (hx.trans hv) (by rw [vals_len]; omega) hc (fun u hu => ?_) (by unfold maxLen; omega) (by omega) (Nat.le_of_lt hlt) (fun v' w' h1 h2 h3 => ?_)
    · obtain ⟨y, _, rfl⟩ := List.mem_map.1 hu
      rfl
    · have hne : ¬ v' = .slice none 0 0 := fun e => by cases (h3.1 e).1
      have h1' : IntS.Own w' g v' xs := by
        unfold IntS.Own
        rw [Nat.zero_add, List.nil_append] at h1
        exact h1
      obtain ⟨g', cap', rfl, k1, k2, k3⟩ := h1'.form hne
      exact h g' cap' w' h1' k3 k1 k2 (Turn.of_grown h2)
  obtain ⟨a0, cap, off, hv, h2, h3, hz0, h4⟩ := hr
  cases a0 with
  | none =>
    have hc0 := hz0 rfl
    subst hc0
    have hx0 : xs = [] := List.length_eq_zero_iff.1 (by omega)
    subst hx0
    have hrun := run_append_owned_none (P := Tryz.prog) (w := w) g 28 o.type 3 i0 1 Tryz.underlying28 hi (.slice (some ⟨g, 0, none⟩) 0 0) 0 [] hown
    obtain ⟨g', cap', e, k1, k2, k3⟩ := hown.form (fun e => by cases e)
    cases e
    have hh := h g 0 w hown k3 k1 k2 (Turn.refl _ _)
    unfold Oper.wp
    simp [execOp, ho, resolve, invoke, builtin, hs, hx.trans hv, hrun, Result.andThen]
    simpa [Oper.upon] using hh
  | some ad =>
    rcases h4 with h4 | ⟨h4, h5⟩
    · subst h4
      exact key ad 0 cap hv rfl (fun j u hu => by simp [vals] at hu)
    · refine key ad xs.length cap hv rfl (fun j u hu => ?_)
      cases h4
      rw [Go.WideShapes.add_plain]
      simp only [vals, List.getElem?_map, Option.map_eq_some_iff] at hu
      obtain ⟨y, hy, rfl⟩ := hu
      exact h5 j y hy
theorem wp_pushM {w : World} {o : Oper} {a : Act} {K : Act → World → Prop} {Q : Exit → Act → World → Prop} (s x : Operand)
    (ho : o.op = .call { callee := .builtin .append, args := #[s, x], argTypes := #[23, 23] })
    (lo : Nat) (v : Value) (cs : List (Int × Value)) (hs : a.eval s = v) (hown : OwnM w lo v cs) (hlo : lo ≤ w.heap.size)
    (ad : Addr) (c : Int) (q : Option Addr) (m k : Nat) (hx : a.eval x = .slice (some ad) 1 1) (hc : w.cell? (ad.add 0) = some (.int .i64 c)) (hc2 : w.cell? (ad.add 1) = some (.slice q m k)) (hl : cs.length ≤ 1000000000)
    (h : ∀ (G cap : Nat) (w' : World), OwnM w' lo (.slice (some ⟨G, 0, none⟩) (cs.length + 1) cap) (cs ++ [(c, .slice q m k)]) → w.grownBy w' v.ownBlock → K (a.put o.dst (.slice (some ⟨G, 0, none⟩) (cs.length + 1) cap)) w') : o.wp Tryz.prog a w K Q := by
  obtain ⟨i, hi, hz, hsz, hby⟩ := infoMono
  refine wp_append_own w s x 23 ho lo 55 i _ 2 32 Tryz.underlying23 hi hz hsz hby rfl (by decide) v cs.length (flat cs) hs hown ad 1 1 [.int .i64 c, .slice q m k] hx rfl (fun j u hu => ?_) (fun u hu => by simp at hu; rcases hu with rfl | rfl <;> rfl) (by unfold maxLen; omega) (by omega) hlo fun v' w' h1 h2 h3 => ?_
  · match j, hu with
    | 0, hu => cases hu; exact hc
    | 1, hu => cases hu; exact hc2
    | j + 2, hu => simp at hu
  · have e : flat cs ++ [.int .i64 c, .slice q m k] = flat (cs ++ [(c, .slice q m k)]) := by rw [flat_app]; rfl
    rw [e] at h1
    have g1 : OwnM w' lo v' (cs ++ [(c, .slice q m k)]) := by
      unfold OwnM
      rw [List.length_append]
      exact h1
    obtain ⟨G, cap, rfl⟩ := g1.form (fun e2 => by have := (h3.1 e2).2; omega)
    rw [List.length_append] at g1
    have := h G cap w' g1 h2
    simpa using this
theorem ownBlock_turn {w w' : World} {vq : Option Addr} {vn vc base : Nat} {cs : List (Int × Value)} (h : OwnM w base (.slice vq vn vc) cs) (hg : w.grownBy w' (Value.slice vq vn vc).ownBlock) : ∃ T, Turn T w w' ∧ base ≤ T ∧ (∀ b, IsT w b 3 → b ≠ T) ∧ (T < w.heap.size → IsT w T 55) := by
  have mi : (55 : TypeId) ≠ 3 := by decide
  obtain ⟨hl, h0 | ⟨G, cap, cur, hv, hb, hh, rest⟩⟩ := h
  · cases h0.1
    refine ⟨w.heap.size + base, ⟨hg.os, hg.tape, hg.output, hg.size, fun k hk _ => hg.block k hk (by simp [Value.ownBlock])⟩, by omega, fun b hb e => by have := hb.lt; omega, fun h => by omega⟩
  · cases hv
    refine ⟨G, Turn.of_grown hg, hb, fun b hb2 e => ?_, fun _ => ⟨cur, _, hh⟩⟩
    exact (IsT.ne (⟨cur, _, hh⟩ : IsT w G 55) hb2 mi) e.symm
/-- Where a copy is: so many parts are there. -/
structure CopyP (w : World) (ps : List Mono) (k : Nat) (vq : Option Addr) (vc : Nat) (cs : List (Int × Value)) (g cp : Nat → Nat) (u : World) : Prop where
  res : Rec w.heap.size [.slice none 0 0] u
  p : Rec (w.heap.size + 1) [.slice vq k vc] u
  own : OwnM u (w.heap.size + 2) (.slice vq k vc) cs
  len : cs.length = k
  rows : ∀ (i : Nat) x, i < k → ps[i]? = some x → cs[i]? = some (x.1, .slice (some ⟨g i, 0, none⟩) x.2.length (cp i)) ∧ WRow u (g i) (.slice (some ⟨g i, 0, none⟩) x.2.length (cp i)) x.2 ∧ IsT u (g i) 3 ∧ w.heap.size + 2 ≤ g i
  inc : ∀ i j, i < j → j < k → g i < g j
  bw : Below w.heap.size w u
theorem OwnM.lt {w : World} {base G n cap : Nat} {cs : List (Int × Value)} (h : OwnM w base (.slice (some ⟨G, 0, none⟩) n cap) cs) : G < w.heap.size := h.cells.2.2.2.2.1.lt
/-- A slice of parts that the call made, whatever lies in it; the atoms lie in blocks of ints that the call made. -/
def Mine (w : World) (lo : Nat) (v : Value) : Prop := ∃ cs, OwnM w lo v cs ∧ ∀ c ∈ cs, ∀ b o n k, c.2 = .slice (some ⟨b, o, none⟩) n k → lo ≤ b ∧ IsT w b 3
theorem Mine.nil (w : World) (lo : Nat) : Mine w lo (.slice none 0 0) := ⟨[], ⟨rfl, Or.inl ⟨rfl, rfl⟩⟩, fun c hc => absurd hc (by simp)⟩
theorem Mine.turn {w w' : World} {lo B : Nat} {v : Value} (h : Mine w lo v) (ht : Turn B w w') (hB : B < lo) : Mine w' lo v := by
  obtain ⟨cs, h, hi⟩ := h
  refine ⟨cs, h.turn ht (fun G n cap e => ?_), fun c hc b o n k e => ?_⟩
  · rw [e] at h
    have := h.cells.2.2.2.1
    omega
  · obtain ⟨h1, h2⟩ := hi c hc b o n k e
    exact ⟨h1, h2.turn ht (by omega)⟩
theorem Mine.mono {w : World} {lo lo' : Nat} {v : Value} (h : Mine w lo v) (hl : lo' ≤ lo) : Mine w lo' v := by
  obtain ⟨cs, ⟨h1, h2⟩, hi⟩ := h
  exact ⟨cs, ⟨h1, h2.imp id fun ⟨g, cap, cur, k1, k2, r⟩ => ⟨g, cap, cur, k1, Nat.le_trans hl k2, r⟩⟩, fun c hc b o n k e => ⟨Nat.le_trans hl (hi c hc b o n k e).1, (hi c hc b o n k e).2⟩⟩
theorem CopyP.mine {w u : World} {ps : List Mono} {k vc : Nat} {vq : Option Addr} {cs : List (Int × Value)} {g cp : Nat → Nat} (h : CopyP w ps k vq vc cs g cp u) (hk : k ≤ ps.length) : Mine u (w.heap.size + 2) (.slice vq k vc) := by
  refine ⟨cs, h.own, fun c hc b o n m e => ?_⟩
  obtain ⟨i, hi⟩ := List.getElem?_of_mem hc
  have hl : i < k := by rw [← h.len]; exact (List.getElem?_eq_some_iff.1 hi).1
  obtain ⟨h1, _, h3, h4⟩ := h.rows i _ hl (List.getElem?_eq_getElem (by omega))
  rw [hi] at h1
  obtain rfl := Option.some.inj h1
  cases e
  exact ⟨h4, h3⟩
theorem CopyP.turn {w u u' : World} {ps : List Mono} {k vc T : Nat} {vq : Option Addr} {cs : List (Int × Value)} {g cp : Nat → Nat} (h : CopyP w ps k vq vc cs g cp u) (ht : Turn T u u') (hT : u.heap.size ≤ T) : CopyP w ps k vq vc cs g cp u' := by
  have a := h.res.lt
  have b := h.p.lt
  refine ⟨h.res.turn ht (by omega), h.p.turn ht (by omega), h.own.turn ht (fun G n cap e => by have := h.own; rw [e] at this; have := this.lt; omega), h.len, fun i x hi hx => ?_, h.inc, h.bw.trans (ht.below (by omega) h.bw.size)⟩
  obtain ⟨k1, k2, k3, k4⟩ := h.rows i x hi hx
  have := k3.lt
  exact ⟨k1, k2.turn ht (by omega), k3.turn ht (by omega), k4⟩
theorem CopyP.below {w u u' : World} {ps : List Mono} {k vc : Nat} {vq : Option Addr} {cs : List (Int × Value)} {g cp : Nat → Nat} (h : CopyP w ps k vq vc cs g cp u) (hb : Below u.heap.size u u') : CopyP w ps k vq vc cs g cp u' := h.turn (T := u.heap.size) (Turn.of_below hb) (Nat.le_refl _)
theorem CopyP.next {w u u' : World} {ps : List Mono} {k vc G cap g' cp' : Nat} {vq : Option Addr} {cs : List (Int × Value)} {g cp : Nat → Nat} {x : Mono} (h : CopyP w ps k vq vc cs g cp u) (hx : ps[k]? = some x) (hg : ∀ i, i < k → g i < g') (hR : WRow u g' (.slice (some ⟨g', 0, none⟩) x.2.length cp') x.2) (hI : IsT u g' 3) (hlo : w.heap.size + 2 ≤ g')
    (ho : OwnM u' (w.heap.size + 2) (.slice (some ⟨G, 0, none⟩) (k + 1) cap) (cs ++ [(x.1, .slice (some ⟨g', 0, none⟩) x.2.length cp')])) (hgr : u.grownBy u' (Value.slice vq k vc).ownBlock) :
    CopyP w ps (k + 1) (some ⟨G, 0, none⟩) cap (cs ++ [(x.1, .slice (some ⟨g', 0, none⟩) x.2.length cp')]) (fun i => if i < k then g i else g') (fun i => if i < k then cp i else cp') (u'.setCell ⟨w.heap.size + 1, 0, none⟩ (.slice (some ⟨G, 0, none⟩) (k + 1) cap)) := by
  obtain ⟨T, ht, hT, hTi, _⟩ := ownBlock_turn h.own hgr
  have hG := ho.cells.2.2.2.1
  refine ⟨(h.res.turn ht (by omega)).other _ _ (by show w.heap.size + 1 ≠ w.heap.size; omega), (h.p.turn ht (by omega)).set 0 _ (by simp) rfl, ho.turn ((Turn.refl (w.heap.size + 1) u').setCell (p := ⟨w.heap.size + 1, 0, none⟩) rfl _) (fun G' n c e => by cases e; omega), by simp [h.len], fun i z hi hz => ?_, fun i j hij hj => ?_, (h.bw.trans (ht.below (by omega) h.bw.size)).setCell (by show w.heap.size ≤ w.heap.size + 1; omega) _⟩
  · by_cases e : i < k
    · simp only [if_pos e]
      obtain ⟨k1, k2, k3, k4⟩ := h.rows i z e hz
      exact ⟨by rw [List.getElem?_append_left (by rw [h.len]; exact e)]; exact k1, other_row (k2.turn ht (hTi _ k3)) _ _ (by show w.heap.size + 1 ≠ g i; omega), (k3.turn ht (hTi _ k3)).set _ _, k4⟩
    · obtain rfl : i = k := by omega
      rw [hx] at hz
      obtain rfl := Option.some.inj hz
      simp only [if_neg e]
      exact ⟨by rw [List.getElem?_append_right (by rw [h.len]; omega), h.len, Nat.sub_self]; rfl, other_row (hR.turn ht (hTi _ hI)) _ _ (by show w.heap.size + 1 ≠ g'; omega), (hI.turn ht (hTi _ hI)).set _ _, hlo⟩
  · by_cases e : j < k
    · simp only [if_pos e, if_pos (show i < k by omega)]
      exact h.inc i j hij e
    · simp only [if_neg e, if_pos (show i < k by omega)]
      exact hg i (by omega)
theorem CopyP.whole {w u : World} {ps : List Mono} {vc : Nat} {vq : Option Addr} {cs : List (Int × Value)} {g cp : Nat → Nat} (h : CopyP w ps ps.length vq vc cs g cp u) (hne : ps ≠ []) : WPoly u (w.heap.size + 2) u.heap.size (.slice vq ps.length vc) ps := by
  have hn : ¬ (Value.slice vq ps.length vc) = .slice none 0 0 := fun e => by
    have : ps.length = 0 := by injection e
    exact hne (List.length_eq_zero_iff.1 this)
  obtain ⟨G, cap, e⟩ := h.own.form hn
  rw [h.len] at e
  injection e with e1 _ e3
  subst e1 e3
  obtain ⟨_, hc, hm, hb, hI, hcells, hsoft⟩ := h.own.cells
  have mi : (55 : TypeId) ≠ 3 := by decide
  refine ⟨_, G, vc, g, fun i => .slice (some ⟨g i, 0, none⟩) (ps.getD i (0, [])).2.length (cp i), rfl, hc, hm, (fun h => by cases h), Or.inr ⟨rfl, by omega, hI.lt, hI.lt⟩, fun i x hx => ?_, fun i j x y hij hx hy => ?_⟩
  · have hi := (List.getElem?_eq_some_iff.1 hx).1
    obtain ⟨k1, k2, k3, k4⟩ := h.rows i x hi hx
    obtain ⟨c1, c2⟩ := hcells i _ k1
    simp only [getD_part hx]
    exact ⟨c1, hsoft _, c2, k2, Or.inr ⟨by omega, k3.lt, fun e => (IsT.ne hI k3 mi) e.symm⟩⟩
  · have := h.inc i j hij (List.getElem?_eq_some_iff.1 hy).1
    exact Or.inr (Or.inr (by omega))
end Go.Proofs.YtckhfpaicnjknaaGreat.Pol
