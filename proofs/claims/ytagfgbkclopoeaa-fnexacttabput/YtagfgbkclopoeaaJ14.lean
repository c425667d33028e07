/-
  The specification's l4Copy: the same parts in new memory.
  The specification's l4Copy: the same parts in new memory.
  A sum so many times: the specification's PolScale.
-/
import Derived.Test.YtagfgbkclopoeaaJ13
namespace Go.Proofs.Ytagfgbkclopoeaa.Pol
set_option linter.unusedSimpArgs false
set_option linter.unusedVariables false
open Go.ChangeShapes Go.WideShapes Go.ChangeAt Go.RowKit IntS
theorem wp_copyA {w : World} {o : Oper} {a : Act} {K : Act → World → Prop} {Q : Exit → Act → World → Prop} (s x : Operand)
    (ho : o.op = .call { callee := .builtin .append, args := #[s, x], argTypes := #[49, 49] })
    (g : Nat) (hg : w.heap[g]? = some (.cells #[] 3 (0, 0))) (hs : a.eval s = .slice (some ⟨g, 0, none⟩) 0 0)
    (v : Value) (B : Nat) (xs : List Int) (hx : a.eval x = v) (hr : Row w B v xs) (hl : xs.length ≤ 1000000000000)
    (h : ∀ (g' cap' : Nat) (w' : World), IntS.Own w' g (.slice (some ⟨g', 0, none⟩) xs.length cap') xs → WRow w' g' (.slice (some ⟨g', 0, none⟩) xs.length cap') xs → g ≤ g' → g' < w'.heap.size → Turn g w w' →
      K (a.put o.dst (.slice (some ⟨g', 0, none⟩) xs.length cap')) w') : o.wp Try.prog a w K Q := by
  obtain ⟨i0, hi, hz, hsz, hby⟩ := info_int
  have hown := own_empty hg
  have hlt : g < w.heap.size := by
    rcases Nat.lt_or_ge g w.heap.size with h' | h'
    · exact h'
    · rw [Array.getElem?_eq_none h'] at hg; cases hg
  have key (ad : Addr) (m c : Nat) (hv : v = .slice (some ad) m c) (hm : xs.length = m) (hc : ∀ j u, (vals xs)[j]? = some u → w.cell? (ad.add j) = some u) : o.wp Try.prog a w K Q := by
    subst hm
    refine wp_append_own w s x 49 ho g 3 i0 (.int .i64 0) 1 8 Try.underlying49 hi hz hsz hby rfl (by decide) (.slice (some ⟨g, 0, none⟩) 0 0) 0 [] hs hown ad xs.length c (vals xs) (hx.trans hv) (by rw [vals_len]; omega) hc (fun u hu => ?_) (by unfold maxLen; omega) (by omega) (Nat.le_of_lt hlt) (fun v' w' h1 h2 h3 => ?_)
    · obtain ⟨y, _, rfl⟩ := List.mem_map.1 hu
      rfl
    · have hne : ¬ v' = .slice none 0 0 := fun e => by cases (h3.1 e).1
      have h1' : IntS.Own w' g v' xs := by
        unfold IntS.Own
        rw [Nat.zero_add, List.nil_append] at h1
        exact h1
      obtain ⟨g', cap', rfl, k1, k2, k3⟩ := h1'.form hne
      exact h g' cap' w' h1' k3 k1 k2 (Turn.of_grown h2)
  obtain ⟨a0, cap, off, hv, h2, h3, hz0, h4⟩ := hr
  cases a0 with
  | none =>
    have hc0 := hz0 rfl
    subst hc0
    have hx0 : xs = [] := List.length_eq_zero_iff.1 (by omega)
    subst hx0
    have hrun := run_append_owned_none (P := Try.prog) (w := w) g 49 o.type 3 i0 1 Try.underlying49 hi (.slice (some ⟨g, 0, none⟩) 0 0) 0 [] hown
    obtain ⟨g', cap', e, k1, k2, k3⟩ := hown.form (fun e => by cases e)
    cases e
    have hh := h g 0 w hown k3 k1 k2 (Turn.refl _ _)
    unfold Oper.wp
    simp [execOp, ho, resolve, invoke, builtin, hs, hx.trans hv, hrun, Result.andThen]
    simpa [Oper.upon] using hh
  | some ad =>
    rcases h4 with h4 | ⟨h4, h5⟩
    · subst h4
      exact key ad 0 cap hv rfl (fun j u hu => by simp [vals] at hu)
    · refine key ad xs.length cap hv rfl (fun j u hu => ?_)
      cases h4
      rw [Go.WideShapes.add_plain]
      simp only [vals, List.getElem?_map, Option.map_eq_some_iff] at hu
      obtain ⟨y, hy, rfl⟩ := hu
      exact h5 j y hy
theorem wp_pushM {w : World} {o : Oper} {a : Act} {K : Act → World → Prop} {Q : Exit → Act → World → Prop} (s x : Operand)
    (ho : o.op = .call { callee := .builtin .append, args := #[s, x], argTypes := #[38, 38] })
    (lo : Nat) (v : Value) (cs : List (Int × Value)) (hs : a.eval s = v) (hown : OwnM w lo v cs) (hlo : lo ≤ w.heap.size)
    (ad : Addr) (c : Int) (q : Option Addr) (m k : Nat) (hx : a.eval x = .slice (some ad) 1 1) (hc : w.cell? (ad.add 0) = some (.int .i64 c)) (hc2 : w.cell? (ad.add 1) = some (.slice q m k)) (hl : cs.length ≤ 1000000)
    (h : ∀ (G cap : Nat) (w' : World), OwnM w' lo (.slice (some ⟨G, 0, none⟩) (cs.length + 1) cap) (cs ++ [(c, .slice q m k)]) → w.grownBy w' v.ownBlock → K (a.put o.dst (.slice (some ⟨G, 0, none⟩) (cs.length + 1) cap)) w') : o.wp Try.prog a w K Q := by
  obtain ⟨i, hi, hz, hsz, hby⟩ := infoMono
  refine wp_append_own w s x 38 ho lo 88 i _ 2 32 Try.underlying38 hi hz hsz hby rfl (by decide) v cs.length (flat cs) hs hown ad 1 1 [.int .i64 c, .slice q m k] hx rfl (fun j u hu => ?_) (fun u hu => by simp at hu; rcases hu with rfl | rfl <;> rfl) (by unfold maxLen; omega) (by omega) hlo fun v' w' h1 h2 h3 => ?_
  · match j, hu with
    | 0, hu => cases hu; exact hc
    | 1, hu => cases hu; exact hc2
    | j + 2, hu => simp at hu
  · have e : flat cs ++ [.int .i64 c, .slice q m k] = flat (cs ++ [(c, .slice q m k)]) := by rw [flat_app]; rfl
    rw [e] at h1
    have g1 : OwnM w' lo v' (cs ++ [(c, .slice q m k)]) := by
      unfold OwnM
      rw [List.length_append]
      exact h1
    obtain ⟨G, cap, rfl⟩ := g1.form (fun e2 => by have := (h3.1 e2).2; omega)
    rw [List.length_append] at g1
    have := h G cap w' g1 h2
    simpa using this
theorem ownBlock_turn {w w' : World} {vq : Option Addr} {vn vc base : Nat} {cs : List (Int × Value)} (h : OwnM w base (.slice vq vn vc) cs) (hg : w.grownBy w' (Value.slice vq vn vc).ownBlock) : ∃ T, Turn T w w' ∧ base ≤ T ∧ (∀ b, IsT w b 3 → b ≠ T) ∧ (T < w.heap.size → IsT w T 88) := by
  have mi : (88 : TypeId) ≠ 3 := by decide
  obtain ⟨hl, h0 | ⟨G, cap, cur, hv, hb, hh, rest⟩⟩ := h
  · cases h0.1
    refine ⟨w.heap.size + base, ⟨hg.os, hg.tape, hg.output, hg.size, fun k hk _ => hg.block k hk (by simp [Value.ownBlock])⟩, by omega, fun b hb e => by have := hb.lt; omega, fun h => by omega⟩
  · cases hv
    refine ⟨G, Turn.of_grown hg, hb, fun b hb2 e => ?_, fun _ => ⟨cur, _, hh⟩⟩
    exact (IsT.ne (⟨cur, _, hh⟩ : IsT w G 88) hb2 mi) e.symm
/-- Where a copy is: so many parts are there. -/
structure CopyP (w : World) (ps : List Mono) (k : Nat) (vq : Option Addr) (vc : Nat) (cs : List (Int × Value)) (g cp : Nat → Nat) (u : World) : Prop where
  res : Rec w.heap.size [.slice none 0 0] u
  p : Rec (w.heap.size + 1) [.slice vq k vc] u
  own : OwnM u (w.heap.size + 2) (.slice vq k vc) cs
  len : cs.length = k
  rows : ∀ (i : Nat) x, i < k → ps[i]? = some x → cs[i]? = some (x.1, .slice (some ⟨g i, 0, none⟩) x.2.length (cp i)) ∧ WRow u (g i) (.slice (some ⟨g i, 0, none⟩) x.2.length (cp i)) x.2 ∧ IsT u (g i) 3 ∧ w.heap.size + 2 ≤ g i
  inc : ∀ i j, i < j → j < k → g i < g j
  bw : Below w.heap.size w u
theorem OwnM.lt {w : World} {base G n cap : Nat} {cs : List (Int × Value)} (h : OwnM w base (.slice (some ⟨G, 0, none⟩) n cap) cs) : G < w.heap.size := h.cells.2.2.2.2.1.lt
theorem CopyP.turn {w u u' : World} {ps : List Mono} {k vc T : Nat} {vq : Option Addr} {cs : List (Int × Value)} {g cp : Nat → Nat} (h : CopyP w ps k vq vc cs g cp u) (ht : Turn T u u') (hT : u.heap.size ≤ T) : CopyP w ps k vq vc cs g cp u' := by
  have a := h.res.lt
  have b := h.p.lt
  refine ⟨h.res.turn ht (by omega), h.p.turn ht (by omega), h.own.turn ht (fun G n cap e => by have := h.own; rw [e] at this; have := this.lt; omega), h.len, fun i x hi hx => ?_, h.inc, h.bw.trans (ht.below (by omega) h.bw.size)⟩
  obtain ⟨k1, k2, k3, k4⟩ := h.rows i x hi hx
  have := k3.lt
  exact ⟨k1, k2.turn ht (by omega), k3.turn ht (by omega), k4⟩
theorem CopyP.below {w u u' : World} {ps : List Mono} {k vc : Nat} {vq : Option Addr} {cs : List (Int × Value)} {g cp : Nat → Nat} (h : CopyP w ps k vq vc cs g cp u) (hb : Below u.heap.size u u') : CopyP w ps k vq vc cs g cp u' := h.turn (T := u.heap.size) (Turn.of_below hb) (Nat.le_refl _)
theorem CopyP.next {w u u' : World} {ps : List Mono} {k vc G cap g' cp' : Nat} {vq : Option Addr} {cs : List (Int × Value)} {g cp : Nat → Nat} {x : Mono} (h : CopyP w ps k vq vc cs g cp u) (hx : ps[k]? = some x) (hg : ∀ i, i < k → g i < g') (hR : WRow u g' (.slice (some ⟨g', 0, none⟩) x.2.length cp') x.2) (hI : IsT u g' 3) (hlo : w.heap.size + 2 ≤ g')
    (ho : OwnM u' (w.heap.size + 2) (.slice (some ⟨G, 0, none⟩) (k + 1) cap) (cs ++ [(x.1, .slice (some ⟨g', 0, none⟩) x.2.length cp')])) (hgr : u.grownBy u' (Value.slice vq k vc).ownBlock) :
    CopyP w ps (k + 1) (some ⟨G, 0, none⟩) cap (cs ++ [(x.1, .slice (some ⟨g', 0, none⟩) x.2.length cp')]) (fun i => if i < k then g i else g') (fun i => if i < k then cp i else cp') (u'.setCell ⟨w.heap.size + 1, 0, none⟩ (.slice (some ⟨G, 0, none⟩) (k + 1) cap)) := by
  obtain ⟨T, ht, hT, hTi, _⟩ := ownBlock_turn h.own hgr
  have hG := ho.cells.2.2.2.1
  refine ⟨(h.res.turn ht (by omega)).other _ _ (by show w.heap.size + 1 ≠ w.heap.size; omega), (h.p.turn ht (by omega)).set 0 _ (by simp) rfl, ho.turn ((Turn.refl (w.heap.size + 1) u').setCell (p := ⟨w.heap.size + 1, 0, none⟩) rfl _) (fun G' n c e => by cases e; omega), by simp [h.len], fun i z hi hz => ?_, fun i j hij hj => ?_, (h.bw.trans (ht.below (by omega) h.bw.size)).setCell (by show w.heap.size ≤ w.heap.size + 1; omega) _⟩
  · by_cases e : i < k
    · simp only [if_pos e]
      obtain ⟨k1, k2, k3, k4⟩ := h.rows i z e hz
      exact ⟨by rw [List.getElem?_append_left (by rw [h.len]; exact e)]; exact k1, other_row (k2.turn ht (hTi _ k3)) _ _ (by show w.heap.size + 1 ≠ g i; omega), (k3.turn ht (hTi _ k3)).set _ _, k4⟩
    · obtain rfl : i = k := by omega
      rw [hx] at hz
      obtain rfl := Option.some.inj hz
      simp only [if_neg e]
      exact ⟨by rw [List.getElem?_append_right (by rw [h.len]; omega), h.len, Nat.sub_self]; rfl, other_row (hR.turn ht (hTi _ hI)) _ _ (by show w.heap.size + 1 ≠ g'; omega), (hI.turn ht (hTi _ hI)).set _ _, hlo⟩
  · by_cases e : j < k
    · simp only [if_pos e, if_pos (show i < k by omega)]
      exact h.inc i j hij e
    · simp only [if_neg e, if_pos (show i < k by omega)]
      exact hg i (by omega)
theorem CopyP.whole {w u : World} {ps : List Mono} {vc : Nat} {vq : Option Addr} {cs : List (Int × Value)} {g cp : Nat → Nat} (h : CopyP w ps ps.length vq vc cs g cp u) (hne : ps ≠ []) : WPoly u (w.heap.size + 2) u.heap.size (.slice vq ps.length vc) ps := by
  have hn : ¬ (Value.slice vq ps.length vc) = .slice none 0 0 := fun e => by
    have : ps.length = 0 := by injection e
    exact hne (List.length_eq_zero_iff.1 this)
  obtain ⟨G, cap, e⟩ := h.own.form hn
  rw [h.len] at e
  injection e with e1 _ e3
  subst e1 e3
  obtain ⟨_, hc, hm, hb, hI, hcells, hsoft⟩ := h.own.cells
  have mi : (88 : TypeId) ≠ 3 := by decide
  refine ⟨_, G, vc, g, fun i => .slice (some ⟨g i, 0, none⟩) (ps.getD i (0, [])).2.length (cp i), rfl, hc, hm, (fun h => by cases h), Or.inr ⟨rfl, by omega, hI.lt, hI.lt⟩, fun i x hx => ?_, fun i j x y hij hx hy => ?_⟩
  · have hi := (List.getElem?_eq_some_iff.1 hx).1
    obtain ⟨k1, k2, k3, k4⟩ := h.rows i x hi hx
    obtain ⟨c1, c2⟩ := hcells i _ k1
    simp only [getD_part hx]
    exact ⟨c1, hsoft _, c2, k2, Or.inr ⟨by omega, k3.lt, fun e => (IsT.ne hI k3 mi) e.symm⟩⟩
  · have := h.inc i j hij (List.getElem?_eq_some_iff.1 hy).1
    exact Or.inr (Or.inr (by omega))
end Go.Proofs.Ytagfgbkclopoeaa.Pol
namespace Go.Proofs.Ytagfgbkclopoeaa.Pol
set_option linter.unusedSimpArgs false
set_option linter.unusedVariables false
open Go.ChangeShapes Go.WideShapes Go.ChangeAt Go.RowKit IntS
theorem heap_new (u : World) (t : TypeId) : (u.alloc (.cells #[] t)).heap[u.heap.size]? = some (.cells #[] t (0, 0)) := (MapKept.heap_alloc u _).1
set_option maxRecDepth 8000 in
set_option maxHeartbeats 8000000 in
theorem l4Copy (ps : List Mono) (B : Nat) (v : Value) (w : World) (h : PRow w B v ps) (hl : ps.length ≤ 1000) (ha : ∀ x ∈ ps, x.2.length ≤ 1000000) :
    Calls Try.prog 77 #[v] w fun e w' => ∃ a l c, e = .returned (.agg #[.slice a l c]) ∧ WPoly w' w.heap.size w'.heap.size (.slice a l c) ps ∧ Below w.heap.size w w' := by
  have bV : Below w.heap.size w ((w.alloc (.cells #[.slice none 0 0] 40)).alloc (.cells #[.slice none 0 0] 40)) := ((Below.refl _ _).alloc (Nat.le_refl _) _).alloc (by simp) _
  have P0 := Rec.new (w.alloc (.cells #[.slice none 0 0] 40)) [.slice none 0 0] 40
  rw [show (w.alloc (.cells #[.slice none 0 0] 40)).heap.size = w.heap.size + 1 by simp] at P0
  have N0 : Hid (CopyP w ps 0 none 0 [] (fun _ => 0) (fun _ => 0) ((w.alloc (.cells #[.slice none 0 0] 40)).alloc (.cells #[.slice none 0 0] 40))) :=
    ⟨(Rec.new w [.slice none 0 0] 40).alloc _, P0, ⟨rfl, Or.inl ⟨rfl, rfl⟩⟩, rfl, fun i x hi => by omega, fun i j _ hj => by omega, bV⟩
  have H := hide h
  obtain ⟨a, cap, off, rfl, h2, h3, _, h4⟩ := h
  unfold maxLen at h3
  have HA := hide ha
  clear bV P0 ha
  obtain ⟨n, en⟩ : ∃ n, ps.length = n := ⟨_, rfl⟩
  have EN := hide en
  rw [en] at h2 hl H ⊢
  have H4 := hide h4
  clear en h4
  go_enter Try.func77, Try.ntmps77
  go_wp2_with fail
  generalize ((w.alloc (.cells #[.slice none 0 0] 40)).alloc (.cells #[.slice none 0 0] 40)) = V at N0 ⊢
  by_cases n0 : n = 0
  · subst n0
    have e0 := List.length_eq_zero_iff.1 EN.out
    have p0 := N0.out.p.cell 0 _ rfl
    have r0 := N0.out.res.cell 0 _ rfl
    have s0 := N0.out.res.soft 0
    have B0 := hide (N0.out.bw.setCell (p := ⟨w.heap.size, 0, none⟩) (Nat.le_refl _) (.slice none 0 0))
    have Z0 := hide (N0.out.res.set 0 (.slice none 0 0) (by simp) rfl)
    have E0 := hide e0
    clear e0
    go_wp2
    refine wp_loop_rounds 1 ?_
    rw [rounds_succ]
    go_wp2
    generalize V.setCell ⟨w.heap.size, 0, none⟩ (.slice none 0 0) = U at B0 Z0 ⊢
    have z0 := Z0.out.cell 0 _ rfl
    exact bodyPost_ret (v := .agg #[.slice none 0 0]) (by simp [results, Try.results77, go_sem, z0]) rfl ⟨none, 0, 0, rfl, by rw [E0.out]; exact WPoly.nil _ _ _, B0.out⟩
  obtain ⟨rfl, hc⟩ := H4.out.resolve_left (fun e => n0 (by rw [← EN.out, e]; rfl))
  have HC := hide hc
  clear hc H4 H
  go_wp2
  go_loopw [4] (fun i wr => ∃ k : Nat, k ≤ n ∧ i = .int .i64 k ∧ Hid (∃ vq vc cs g cp, CopyP w ps k vq vc cs g cp wr)) (fun i _ => n - (intOf i).toNat)
  case atStart => exact ⟨0, by omega, rfl, ⟨_, _, _, _, _, N0.out⟩⟩
  case round =>
    obtain ⟨k, hk, rfl, HCP⟩ := hrel
    obtain ⟨vq, vc, cs, g, cp, CP0⟩ := HCP.out
    clear HCP N0
    have CP := hide CP0
    clear CP0
    by_cases hlt : k < n
    case neg =>
      obtain rfl : k = n := by omega
      have p0 := CP.out.p.cell 0 _ rfl
      have r0 := CP.out.res.cell 0 _ rfl
      have s0 := CP.out.res.soft 0
      have B0 := hide (CP.out.bw.setCell (p := ⟨w.heap.size, 0, none⟩) (Nat.le_refl _) (.slice vq k vc))
      have Z0 := hide (CP.out.res.set 0 (.slice vq k vc) (by simp) rfl)
      have CW : CopyP w ps ps.length vq vc cs g cp wr := by rw [EN.out]; exact CP.out
      have W0 := CW.whole (fun e => n0 (by rw [← EN.out, e]; rfl))
      rw [EN.out] at W0
      have W1 := W0.keep (w' := wr.setCell ⟨w.heap.size, 0, none⟩ (.slice vq k vc)) (Keep.of_turn ((Turn.refl w.heap.size wr).setCell (p := ⟨w.heap.size, 0, none⟩) rfl _)) (fun b h1 _ (h2 : b = _) => by omega)
      have W2 := hide (W1.wide (lo' := w.heap.size) (hi' := (wr.setCell ⟨w.heap.size, 0, none⟩ (.slice vq k vc)).heap.size) (by omega) (by simp [World.setCell]))
      clear CW W0 W1
      go_wp2
      generalize wr.setCell ⟨w.heap.size, 0, none⟩ (.slice vq k vc) = U at B0 Z0 W2 ⊢
      have z0 := Z0.out.cell 0 _ rfl
      exact bodyPost_ret (v := .agg #[.slice vq k vc]) (by simp [results, Try.results77, go_sem, z0]) rfl ⟨vq, k, vc, rfl, W2.out, B0.out⟩
    · obtain ⟨x, ex⟩ : ∃ x, ps[k]? = some x := ⟨_, List.getElem?_eq_getElem (by rw [EN.out]; exact hlt)⟩
      have LA := hide (HA.out x (List.mem_of_getElem? ex))
      obtain ⟨c, at_⟩ := x
      obtain ⟨g1, s, b, g2, g3⟩ := HC.out k _ ex
      have DR : Below wr.heap.size wr wr.drew := (Below.refl _ _).drew
      have cx := cell_below CP.out.bw g1
      have sx := cell_below CP.out.bw g2
      have RX := hide ((g3.below CP.out.bw).below DR)
      have EX := hide ex
      obtain ⟨qa, ca, _, rfl, _⟩ := g3
      simp only [] at cx sx RX LA
      have lk : ((k : Nat) : Int) < (n : Nat) := by omega
      have pz := CP.out.p.cell 0 _ rfl
      go_wp2_with fail
      have CPW := CP
      have BN : Hid (B < w.heap.size) := World.block_lt_of_cell? w _ g1
      have WL : Hid (w.heap.size ≤ wr.heap.size) := CP.out.bw.size
      have WL2 : Hid (w.heap.size + 2 ≤ wr.heap.size) := by have := CP.out.p.lt; show _ ≤ _; omega
      replace CP := hide (CP.out.below DR)
      clear ex g1 g2 DR
      refine Phase.region (S := fun v => (v.cell? ⟨w.heap.size + 1, 0, none⟩ = some (.slice vq k vc) ∧ v.cell? ⟨B, off + k * 2, none⟩ = some (.int .i64 c) ∧ v.cell? ⟨B, off + k * 2 + 1, none⟩ = some (.slice qa at_.length ca))) 17 (by kernel_rfl) ?_
      have hHeld : wr.drew.cell? ⟨w.heap.size + 1, 0, none⟩ = some (.slice vq k vc) ∧ wr.drew.cell? ⟨B, off + k * 2, none⟩ = some (.int .i64 c) ∧ wr.drew.cell? ⟨B, off + k * 2 + 1, none⟩ = some (.slice qa at_.length ca) := ⟨pz, cx, sx⟩
      have hH2 := hHeld.2
      clear pz cx sx
      refine Phase.take (i := 0) (v := ?_) rfl (by kernel_rfl) (by omega) (by kernel_rfl) (by kernel_rfl) (by kernel_rfl) (fun _ _ _ h => h) (Or.inl ⟨by kernel_rfl, ?_⟩) hHeld ?_
      rotate_left
      · intro w' hSw
        (try dsimp only at hSw)
        go_simp
        first | done | with_reducible rfl
      try simp only [Act.put, List.getElem_toArray, List.getElem_cons_succ, List.getElem_cons_zero, List.setIfInBounds_toArray, List.set]
      refine Phase.take (i := 1) (v := ?_) rfl (by kernel_rfl) (by omega) (by kernel_rfl) (by kernel_rfl) (by kernel_rfl) (fun _ _ _ h => h) (Or.inl ⟨by kernel_rfl, ?_⟩) hHeld ?_
      rotate_left
      · intro w' hSw
        (try dsimp only at hSw)
        go_simp
        first | done | with_reducible rfl
      try simp only [Act.put, List.getElem_toArray, List.getElem_cons_succ, List.getElem_cons_zero, List.setIfInBounds_toArray, List.set]
      refine Phase.take (i := 2) (v := ?_) rfl (by kernel_rfl) (by omega) (by kernel_rfl) (by kernel_rfl) (by kernel_rfl) (fun _ _ _ h => h) (Or.inl ⟨by kernel_rfl, ?_⟩) hHeld ?_
      rotate_left
      · intro w' hSw
        (try dsimp only at hSw)
        go_simp
        first | done | with_reducible rfl
      try simp only [Act.put, List.getElem_toArray, List.getElem_cons_succ, List.getElem_cons_zero, List.setIfInBounds_toArray, List.set]
      refine Phase.take (i := 3) (v := ?_) rfl (by kernel_rfl) (by omega) (by kernel_rfl) (by kernel_rfl) (by kernel_rfl) (fun _ _ _ h => h) (Or.inl ⟨by kernel_rfl, ?_⟩) hHeld ?_
      rotate_left
      · intro w' hSw
        (try dsimp only at hSw)
        go_simp
        first | done | with_reducible rfl
      try simp only [Act.put, List.getElem_toArray, List.getElem_cons_succ, List.getElem_cons_zero, List.setIfInBounds_toArray, List.set]
      refine Phase.take (i := 4) (v := ?_) rfl (by kernel_rfl) (by omega) (by kernel_rfl) (by kernel_rfl) (by kernel_rfl) (fun _ _ _ h => h) (Or.inl ⟨by kernel_rfl, ?_⟩) hHeld ?_
      rotate_left
      · intro w' hSw
        (try dsimp only at hSw)
        go_simp
        first | done | with_reducible rfl
      try simp only [Act.put, List.getElem_toArray, List.getElem_cons_succ, List.getElem_cons_zero, List.setIfInBounds_toArray, List.set]
      refine Phase.take (i := 5) (v := ?_) rfl (by kernel_rfl) (by omega) (by kernel_rfl) (by kernel_rfl) (by kernel_rfl) (fun _ _ _ h => h) (Or.inl ⟨by kernel_rfl, ?_⟩) hHeld ?_
      rotate_left
      · intro w' hSw
        (try dsimp only at hSw)
        go_simp
        first | done | with_reducible rfl
      try simp only [Act.put, List.getElem_toArray, List.getElem_cons_succ, List.getElem_cons_zero, List.setIfInBounds_toArray, List.set]
      refine Phase.take (i := 6) (v := ?_) rfl (by kernel_rfl) (by omega) (by kernel_rfl) (by kernel_rfl) (by kernel_rfl) (fun _ _ _ h => h) (Or.inl ⟨by kernel_rfl, ?_⟩) hHeld ?_
      rotate_left
      · intro w' hSw
        (try dsimp only at hSw)
        go_simp
        first | done | with_reducible rfl
      try simp only [Act.put, List.getElem_toArray, List.getElem_cons_succ, List.getElem_cons_zero, List.setIfInBounds_toArray, List.set]
      refine Phase.take (i := 8) (v := ?_) rfl (by kernel_rfl) (by omega) (by kernel_rfl) (by kernel_rfl) (by kernel_rfl) (fun _ _ _ h => h) (Or.inl ⟨by kernel_rfl, ?_⟩) hHeld ?_
      rotate_left
      · intro w' hSw
        (try dsimp only at hSw)
        go_simp
        first | done | with_reducible rfl
      try simp only [Act.put, List.getElem_toArray, List.getElem_cons_succ, List.getElem_cons_zero, List.setIfInBounds_toArray, List.set]
      refine Phase.take (i := 9) (v := ?_) rfl (by kernel_rfl) (by omega) (by kernel_rfl) (by kernel_rfl) (by kernel_rfl) (fun _ _ _ h => h) (Or.inl ⟨by kernel_rfl, ?_⟩) hHeld ?_
      rotate_left
      · intro w' hSw
        (try dsimp only at hSw)
        go_simp
        first | done | with_reducible rfl
      try simp only [Act.put, List.getElem_toArray, List.getElem_cons_succ, List.getElem_cons_zero, List.setIfInBounds_toArray, List.set]
      refine Phase.take (i := 10) (v := ?_) rfl (by kernel_rfl) (by omega) (by kernel_rfl) (by kernel_rfl) (by kernel_rfl) (fun _ _ _ h => h) (Or.inl ⟨by kernel_rfl, ?_⟩) hHeld ?_
      rotate_left
      · intro w' hSw
        (try dsimp only at hSw)
        go_simp
        first | done | with_reducible rfl
      try simp only [Act.put, List.getElem_toArray, List.getElem_cons_succ, List.getElem_cons_zero, List.setIfInBounds_toArray, List.set]
      refine Phase.take (i := 11) (v := ?_) rfl (by kernel_rfl) (by omega) (by kernel_rfl) (by kernel_rfl) (by kernel_rfl) (fun _ _ _ h => h) (Or.inl ⟨by kernel_rfl, ?_⟩) hHeld ?_
      rotate_left
      · intro w' hSw
        (try dsimp only at hSw)
        go_simp
        first | done | with_reducible rfl
      try simp only [Act.put, List.getElem_toArray, List.getElem_cons_succ, List.getElem_cons_zero, List.setIfInBounds_toArray, List.set]
      refine Phase.take (i := 12) (v := ?_) rfl (by kernel_rfl) (by omega) (by kernel_rfl) (by kernel_rfl) (by kernel_rfl) (fun _ _ _ h => h) (Or.inl ⟨by kernel_rfl, ?_⟩) hHeld ?_
      rotate_left
      · intro w' hSw
        (try dsimp only at hSw)
        go_simp
        first | done | with_reducible rfl
      try simp only [Act.put, List.getElem_toArray, List.getElem_cons_succ, List.getElem_cons_zero, List.setIfInBounds_toArray, List.set]
      refine Phase.ready (rs := [7]) (by kernel_rfl) (by simp) ?_
      refine Phase.AllQ.cons rfl (fun K hK => ?_) Phase.AllQ.nil
      go_simp
      show K _ (wr.drew.alloc (.cells #[] 3))
      have b7 : Below wr.drew.heap.size wr.drew (wr.drew.alloc (.cells #[] 3)) := (Below.refl _ _).alloc (Nat.le_refl _) _
      have HG := hide (heap_new wr.drew 3)
      replace CP := hide (CP.out.below b7)
      replace RX := hide (RX.out.below b7)
      clear hHeld
      have hHeld : (wr.drew.alloc (.cells #[] 3)).cell? ⟨w.heap.size + 1, 0, none⟩ = some (.slice vq k vc) ∧ (wr.drew.alloc (.cells #[] 3)).cell? ⟨B, off + k * 2, none⟩ = some (.int .i64 c) ∧ (wr.drew.alloc (.cells #[] 3)).cell? ⟨B, off + k * 2 + 1, none⟩ = some (.slice qa at_.length ca) := ⟨CP.out.p.cell 0 _ rfl, cell_below b7 hH2.1, cell_below b7 hH2.2⟩
      have hH3 := hHeld.2
      clear hH2
      have hH2 := hH3
      clear hH3
      refine hK.out _ _ (fun _ => hHeld) ?_
      clear hK K
      try simp only [Act.put, List.getElem_toArray, List.getElem_cons_succ, List.getElem_cons_zero, List.setIfInBounds_toArray, List.set]
      have LU : Hid (wr.heap.size < (wr.drew.alloc (.cells #[] 3)).heap.size) := (Array.getElem?_eq_some_iff.1 HG.out).1
      replace HG : Hid ((wr.drew.alloc (.cells #[] 3)).heap[wr.heap.size]? = some (.cells #[] 3 (0, 0))) := HG.out
      have CPT : Hid (∀ u, Turn wr.heap.size (wr.drew.alloc (.cells #[] 3)) u → CopyP w ps k vq vc cs g cp u) := fun u ht => CopyP.turn (u := wr) CPW.out ⟨ht.os, ht.tape, ht.output, Nat.le_of_lt (Nat.lt_of_lt_of_le LU.out ht.size), fun j hj hn => (ht.block j (Nat.lt_trans hj LU.out) hn).trans (b7.block j hj)⟩ (Nat.le_refl _)
      generalize wr.drew.alloc (.cells #[] 3) = U at CP RX HG hHeld hH2 LU CPT ⊢
      clear b7
      refine Phase.ready (rs := [13]) (by kernel_rfl) (by simp) ?_
      refine Phase.AllQ.cons rfl (fun K hK => ?_) Phase.AllQ.nil
      rw [if_pos (by kernel_rfl)]
      refine wp_copyA (.tmp 19) (.tmp 24) rfl wr.heap.size HG.out rfl _ b at_ rfl RX.out (Nat.le_trans LA.out (by omega)) ?_
      intro g' cap' u13 hO hW hge hlt' hT
      have LW : Hid (wr.heap.size ≤ g') := hge
      replace hW := hide hW
      have IT := hide hO.isT
      have CP1 : Hid (CopyP w ps k vq vc cs g cp wr) := CPW
      have LG : Hid (∀ i, i < k → g i < g') := fun i hi => by
        obtain ⟨y, ey⟩ : ∃ y, ps[i]? = some y := ⟨_, List.getElem?_eq_getElem (by rw [EN.out]; omega)⟩
        have := (CP1.out.rows i y hi ey).2.2.1.lt
        have := LW.out
        omega
      replace CP := hide (CPT.out u13 hT)
      clear hHeld CP1
      have hHeld : u13.cell? ⟨w.heap.size + 1, 0, none⟩ = some (.slice vq k vc) ∧ u13.cell? ⟨B, off + k * 2, none⟩ = some (.int .i64 c) ∧ u13.cell? ⟨B, off + k * 2 + 1, none⟩ = some (.slice qa at_.length ca) := ⟨CP.out.p.cell 0 _ rfl, (hT.cell (p := ⟨B, off + k * 2, none⟩) (World.block_lt_of_cell? U _ hH2.1) (by have := BN.out; have := WL.out; show B ≠ wr.heap.size; omega)).trans hH2.1, (hT.cell (p := ⟨B, off + k * 2 + 1, none⟩) (World.block_lt_of_cell? U _ hH2.2) (by have := BN.out; have := WL.out; show B ≠ wr.heap.size; omega)).trans hH2.2⟩
      clear hH2
      have hH2 := hHeld.2
      clear hT hO hge hlt' RX HG CPT
      refine hK.out _ _ (fun _ => hHeld) ?_
      clear hK K
      try simp only [Act.put, List.getElem_toArray, List.getElem_cons_succ, List.getElem_cons_zero, List.setIfInBounds_toArray, List.set]
      refine Phase.take (i := 14) (v := ?_) rfl (by kernel_rfl) (by omega) (by kernel_rfl) (by kernel_rfl) (by kernel_rfl) (fun _ _ _ h => h) (Or.inl ⟨by kernel_rfl, ?_⟩) hHeld ?_
      rotate_left
      · intro w' hSw
        (try dsimp only at hSw)
        go_simp
        first | done | with_reducible rfl
      try simp only [Act.put, List.getElem_toArray, List.getElem_cons_succ, List.getElem_cons_zero, List.setIfInBounds_toArray, List.set]
      refine Phase.ready (rs := [15]) (by kernel_rfl) (by simp) ?_
      refine Phase.AllQ.cons rfl (fun K hK => ?_) Phase.AllQ.nil
      go_simp
      show K _ (u13.alloc (.cells #[.int .i64 c, .slice (some ⟨g', 0, none⟩) at_.length cap'] 88))
      have b15 : Below u13.heap.size u13 (u13.alloc (.cells #[.int .i64 c, .slice (some ⟨g', 0, none⟩) at_.length cap'] 88)) := (Below.refl _ _).alloc (Nat.le_refl _) _
      have AD := hide (Rec.new u13 [.int .i64 c, .slice (some ⟨g', 0, none⟩) at_.length cap'] 88)
      replace CP := hide (CP.out.below b15)
      replace hW := hide (hW.out.below b15)
      replace IT := hide (IT.out.below b15)
      clear hHeld
      have hHeld : (u13.alloc (.cells #[.int .i64 c, .slice (some ⟨g', 0, none⟩) at_.length cap'] 88)).cell? ⟨w.heap.size + 1, 0, none⟩ = some (.slice vq k vc) ∧ (u13.alloc (.cells #[.int .i64 c, .slice (some ⟨g', 0, none⟩) at_.length cap'] 88)).cell? ⟨B, off + k * 2, none⟩ = some (.int .i64 c) ∧ (u13.alloc (.cells #[.int .i64 c, .slice (some ⟨g', 0, none⟩) at_.length cap'] 88)).cell? ⟨B, off + k * 2 + 1, none⟩ = some (.slice qa at_.length ca) := ⟨CP.out.p.cell 0 _ rfl, cell_below b15 hH2.1, cell_below b15 hH2.2⟩
      have hH3 := hHeld.2
      clear hH2 b15
      have hH2 := hH3
      clear hH3
      refine hK.out _ _ (fun _ => hHeld) ?_
      clear hK K
      try simp only [Act.put, List.getElem_toArray, List.getElem_cons_succ, List.getElem_cons_zero, List.setIfInBounds_toArray, List.set]
      generalize u13.alloc (.cells #[.int .i64 c, .slice (some ⟨g', 0, none⟩) at_.length cap'] 88) = U15 at CP hW IT AD hHeld hH2 ⊢
      refine Phase.ready (rs := [16]) (by kernel_rfl) (by simp) ?_
      refine Phase.AllQ.cons rfl (fun K hK => ?_) Phase.AllQ.nil
      rw [if_pos (by kernel_rfl)]
      refine wp_pushM (.tmp 13) (.tmp 27) rfl (w.heap.size + 2) (.slice vq k vc) cs rfl CP.out.own (by have := CP.out.p.lt; omega) ⟨u13.heap.size, 0, none⟩ c (some ⟨g', 0, none⟩) at_.length cap' rfl (by rw [Go.WideShapes.add_plain]; exact AD.out.cell 0 _ rfl) (by rw [Go.WideShapes.add_plain]; exact AD.out.cell 1 _ rfl) (by rw [CP.out.len]; omega) ?_
      intro G cap16 u16 hO16 hgr
      rw [CP.out.len] at hO16 ⊢
      obtain ⟨T, hT, hTl, _, _⟩ := ownBlock_turn CP.out.own hgr
      have NX := hide (CP.out.next (x := (c, at_)) EX.out LG.out hW.out IT.out (by have := LW.out; have := WL2.out; omega) hO16 hgr)
      have PB := CP.out.p.turn hT (by omega)
      have p0 := PB.cell 0 _ rfl
      have f0 := PB.soft 0
      clear hHeld
      have hHeld : u16.cell? ⟨w.heap.size + 1, 0, none⟩ = some (.slice vq k vc) ∧ u16.cell? ⟨B, off + k * 2, none⟩ = some (.int .i64 c) ∧ u16.cell? ⟨B, off + k * 2 + 1, none⟩ = some (.slice qa at_.length ca) := ⟨p0, (hT.cell (p := ⟨B, off + k * 2, none⟩) (World.block_lt_of_cell? U15 _ hH2.1) (by have := BN.out; show B ≠ T; omega)).trans hH2.1, (hT.cell (p := ⟨B, off + k * 2 + 1, none⟩) (World.block_lt_of_cell? U15 _ hH2.2) (by have := BN.out; show B ≠ T; omega)).trans hH2.2⟩
      refine hK.out _ _ (fun _ => hHeld) ?_
      clear hK K
      try simp only [Act.put, List.getElem_toArray, List.getElem_cons_succ, List.getElem_cons_zero, List.setIfInBounds_toArray, List.set]
      simp only [] at NX
      clear hHeld hH2 hT hTl hgr hO16 CP PB hW IT AD
      refine Phase.takeW (i := 17) (v := ?_) rfl (by omega) (by kernel_rfl) (by kernel_rfl) (by kernel_rfl) (fun _ _ _ h => h) (Or.inl ⟨by kernel_rfl, ?_⟩) ?_
      rotate_left
      · intro w' _
        go_simp
        first | done | with_reducible rfl
      try simp only [Act.put, List.getElem_toArray, List.getElem_cons_succ, List.getElem_cons_zero, List.setIfInBounds_toArray, List.set]
      refine Phase.ready (rs := [18]) (by kernel_rfl) (by simp) ?_
      refine Phase.AllQ.cons rfl (fun K hK => ?_) Phase.AllQ.nil
      go_simp
      refine hK.out _ _ (fun h => absurd h (by omega)) ?_
      clear hK K p0 f0
      try simp only [Act.put, List.getElem_toArray, List.getElem_cons_succ, List.getElem_cons_zero, List.setIfInBounds_toArray, List.set]
      refine Phase.done (by kernel_rfl) ?_ _
      generalize u16.setCell ⟨w.heap.size + 1, 0, none⟩ (.slice (some ⟨G, 0, none⟩) (k + 1) cap16) = U18 at NX ⊢
      have NE : Hid (∃ vq vc cs g cp, CopyP w ps (k + 1) vq vc cs g cp U18) := ⟨_, _, _, _, _, NX.out⟩
      clear NX
      go_wp2
      exact ⟨⟨k + 1, by omega, by go_num, NE⟩, by simp [intOf]; omega⟩
end Go.Proofs.Ytagfgbkclopoeaa.Pol
namespace Go.Proofs.Ytagfgbkclopoeaa.Pol
open Go.ChangeShapes Go.WideShapes Go.ChangeAt Go.RowKit IntS
def scaleL (n : Int) : List Mono → List Mono
  | [] => []
  | x :: r => if 0 < x.1 * n % 65536 then (x.1 * n % 65536, x.2) :: scaleL n r else scaleL n r
def scaleP (ps : List Mono) (n : Int) : List Mono := if okP ps = true ∧ Wrd.wok n = true then scaleL n ps else []
theorem scale_no {ps : List Mono} {n : Int} (h : ¬ (okP ps = true ∧ Wrd.wok n = true)) : scaleP ps n = [] := if_neg h
theorem scale_yes {ps : List Mono} {n : Int} (h1 : okP ps = true) (h2 : Wrd.wok n = true) : scaleP ps n = scaleL n ps := if_pos ⟨h1, h2⟩
theorem scale_keep {ps : List Mono} {n : Int} {k : Nat} {x : Mono} (h : ps[k]? = some x) (hc : 0 < x.1 * n % 65536) : scaleL n (ps.drop k) = (x.1 * n % 65536, x.2) :: scaleL n (ps.drop (k + 1)) := by rw [drop_cons h, scaleL, if_pos hc]
theorem scale_drop {ps : List Mono} {n : Int} {k : Nat} {x : Mono} (h : ps[k]? = some x) (hc : ¬ 0 < x.1 * n % 65536) : scaleL n (ps.drop k) = scaleL n (ps.drop (k + 1)) := by rw [drop_cons h, scaleL, if_neg hc]
theorem scale_end {ps : List Mono} {n : Int} {k : Nat} (h : ps.length ≤ k) : scaleL n (ps.drop k) = [] := by rw [List.drop_eq_nil_of_le h]; rfl
theorem scale_mem {n : Int} : ∀ (ps : List Mono) (x : Mono), x ∈ scaleL n ps → ∃ y ∈ ps, x.2 = y.2
  | [], x, h => by simp [scaleL] at h
  | y :: r, x, h => by
    rw [scaleL] at h
    split at h
    · rcases List.mem_cons.1 h with rfl | h
      · exact ⟨y, List.mem_cons_self .., rfl⟩
      · obtain ⟨z, hz, e⟩ := scale_mem r x h
        exact ⟨z, List.mem_cons_of_mem _ hz, e⟩
    · obtain ⟨z, hz, e⟩ := scale_mem r x h
      exact ⟨z, List.mem_cons_of_mem _ hz, e⟩
theorem scale_len {n : Int} : ∀ ps : List Mono, (scaleL n ps).length ≤ ps.length
  | [] => Nat.le_refl _
  | y :: r => by
    rw [scaleL]
    split
    · simp; exact scale_len r
    · exact Nat.le_trans (scale_len r) (by simp)
theorem ok_len {ps : List Mono} (h : okP ps = true) : ps.length ≤ 12 := by
  unfold okP at h
  simp only [Bool.and_eq_true] at h
  exact of_decide_eq_true h.1
theorem ok_atoms {ps : List Mono} (h : okP ps = true) {x : Mono} (hx : x ∈ ps) : x.2.length ≤ 4 := by
  obtain ⟨k, hk⟩ := List.getElem?_of_mem hx
  unfold okP at h
  simp only [Bool.and_eq_true] at h
  have := all_at h.2 (List.getElem?_eq_some_iff.1 hk).1
  unfold partAt at this
  simp only [Bool.and_eq_true] at this
  rw [getD_part hk] at this
  have h2 := this.1
  unfold monoB at h2
  simp only [Bool.and_eq_true] at h2
  exact of_decide_eq_true h2.1.2
/-- A slice of parts that the call made; their atoms are the argument's own lists. -/
structure ShareP (w : World) (lo : Nat) (L : List Mono) (vq : Option Addr) (vc : Nat) (cs : List (Int × Value)) (u : World) : Prop where
  own : OwnM u lo (.slice vq L.length vc) cs
  len : cs.length = L.length
  rows : ∀ (i : Nat) x, L[i]? = some x → ∃ s b, cs[i]? = some (x.1, s) ∧ Row w b s x.2
  bw : Below w.heap.size w u
  lo1 : w.heap.size ≤ lo
  lo2 : lo ≤ u.heap.size
theorem ShareP.below {w u u' : World} {lo : Nat} {L : List Mono} {vq : Option Addr} {vc : Nat} {cs : List (Int × Value)} (h : ShareP w lo L vq vc cs u) (hb : Below u.heap.size u u') : ShareP w lo L vq vc cs u' :=
  ⟨h.own.below hb, h.len, h.rows, h.bw.trans (hb.mono h.bw.size), h.lo1, Nat.le_trans h.lo2 hb.size⟩
theorem ShareP.read {w u : World} {lo : Nat} {L : List Mono} {vq : Option Addr} {vc : Nat} {cs : List (Int × Value)} (h : ShareP w lo L vq vc cs u) : ∃ B, PRow u B (.slice vq L.length vc) L := by
  by_cases hn : (Value.slice vq L.length vc) = .slice none 0 0
  · injection hn with e1 e2 e3
    subst e1 e3
    exact ⟨0, none, 0, 0, rfl, by omega, by unfold maxLen; omega, fun _ => rfl, Or.inl (List.length_eq_zero_iff.1 e2)⟩
  · obtain ⟨G, cap, e⟩ := h.own.form hn
    rw [h.len] at e
    injection e with e1 _ e3
    subst e1 e3
    obtain ⟨_, hc, hm, hb, hI, hcells, hsoft⟩ := h.own.cells
    refine ⟨G, some ⟨G, 0, none⟩, vc, 0, rfl, hc, hm, (fun h => by cases h), Or.inr ⟨rfl, fun i x hx => ?_⟩⟩
    obtain ⟨s, b, k1, k2⟩ := h.rows i x hx
    obtain ⟨c1, c2⟩ := hcells i _ k1
    rw [Nat.zero_add]
    exact ⟨c1, s, b, c2, k2.below h.bw⟩
theorem ShareP.next {w u u' : World} {lo : Nat} {L : List Mono} {vq : Option Addr} {vc G cap b m k : Nat} {cs : List (Int × Value)} {c : Int} {xs : List Int} {q : Option Addr} (h : ShareP w lo L vq vc cs u) (hr : Row w b (.slice q m k) xs)
    (ho : OwnM u' lo (.slice (some ⟨G, 0, none⟩) (cs.length + 1) cap) (cs ++ [(c, .slice q m k)])) (hg : u.grownBy u' (Value.slice vq L.length vc).ownBlock) : ShareP w lo (L ++ [(c, xs)]) (some ⟨G, 0, none⟩) cap (cs ++ [(c, .slice q m k)]) u' := by
  obtain ⟨T, ht, hT, _, _⟩ := ownBlock_turn h.own hg
  have := h.lo1
  refine ⟨by rw [List.length_append, ← h.len]; exact ho, by simp [h.len], fun i x hx => ?_, h.bw.trans (ht.below (by omega) h.bw.size), h.lo1, Nat.le_trans h.lo2 ht.size⟩
  by_cases e : i < L.length
  · rw [List.getElem?_append_left e] at hx
    obtain ⟨s, b2, k1, k2⟩ := h.rows i x hx
    exact ⟨s, b2, by rw [List.getElem?_append_left (by rw [h.len]; exact e)]; exact k1, k2⟩
  · have hi : i = L.length := by
      have := (List.getElem?_eq_some_iff.1 hx).1
      simp at this
      omega
    subst hi
    rw [List.getElem?_append_right (Nat.le_refl _), Nat.sub_self] at hx
    obtain rfl := Option.some.inj (show some (c, xs) = some x from hx)
    exact ⟨.slice q m k, b, by rw [← h.len, List.getElem?_append_right (Nat.le_refl _), Nat.sub_self]; rfl, hr⟩
theorem share_new {w u : World} (hb : Below w.heap.size w u) : ShareP w u.heap.size [] (some ⟨u.heap.size, 0, none⟩) 0 [] (u.alloc (.cells #[] 88)) :=
  ⟨⟨rfl, Or.inr ⟨u.heap.size, 0, #[], rfl, Nat.le_refl _, (MapKept.heap_alloc u _).1, Nat.le_refl _, by unfold maxLen; omega, rfl, rfl⟩⟩, rfl, fun i x hx => by simp at hx, hb.alloc hb.size _, hb.size, by simp⟩
end Go.Proofs.Ytagfgbkclopoeaa.Pol
