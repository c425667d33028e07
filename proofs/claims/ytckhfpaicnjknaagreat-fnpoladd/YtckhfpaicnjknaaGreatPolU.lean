/-
  The specification's l4Copy: the same parts in new memory.
-/
import Derived.Test.YtckhfpaicnjknaaGreatPolT
namespace Go.Proofs.YtckhfpaicnjknaaGreat.Pol
set_option linter.unusedSimpArgs false
set_option linter.unusedVariables false
open Go.ChangeShapes Go.WideShapes Go.ChangeAt Go.RowKit IntS
theorem heap_new (u : World) (t : TypeId) : (u.alloc (.cells #[] t)).heap[u.heap.size]? = some (.cells #[] t (0, 0)) := (MapKept.heap_alloc u _).1
set_option maxRecDepth 8000 in
set_option maxHeartbeats 8000000 in
theorem l4CopyO (ps : List Mono) (B : Nat) (v : Value) (w : World) (h : PRow w B v ps) (hl : ps.length ≤ 2000000) (ha : ∀ x ∈ ps, x.2.length ≤ 2000000) :
    Calls Tryz.prog 48 #[v] w fun e w' => ∃ a l c, e = .returned (.agg #[.slice a l c]) ∧ WPoly w' w.heap.size w'.heap.size (.slice a l c) ps ∧ Mine w' w.heap.size (.slice a l c) ∧ Below w.heap.size w w' := by
  have bV : Below w.heap.size w ((w.alloc (.cells #[.slice none 0 0] 25)).alloc (.cells #[.slice none 0 0] 25)) := ((Below.refl _ _).alloc (Nat.le_refl _) _).alloc (by simp) _
  have P0 := Rec.new (w.alloc (.cells #[.slice none 0 0] 25)) [.slice none 0 0] 25
  rw [show (w.alloc (.cells #[.slice none 0 0] 25)).heap.size = w.heap.size + 1 by simp] at P0
  have N0 : Hid (CopyP w ps 0 none 0 [] (fun _ => 0) (fun _ => 0) ((w.alloc (.cells #[.slice none 0 0] 25)).alloc (.cells #[.slice none 0 0] 25))) :=
    ⟨(Rec.new w [.slice none 0 0] 25).alloc _, P0, ⟨rfl, Or.inl ⟨rfl, rfl⟩⟩, rfl, fun i x hi => by omega, fun i j _ hj => by omega, bV⟩
  have H := hide h
  obtain ⟨a, cap, off, rfl, h2, h3, _, h4⟩ := h
  unfold maxLen at h3
  have HA := hide ha
  clear bV P0 ha
  obtain ⟨n, en⟩ : ∃ n, ps.length = n := ⟨_, rfl⟩
  have EN := hide en
  rw [en] at h2 hl H ⊢
  have H4 := hide h4
  clear en h4
  go_enter Tryz.func48, Tryz.ntmps48
  go_wp2_with fail
  generalize ((w.alloc (.cells #[.slice none 0 0] 25)).alloc (.cells #[.slice none 0 0] 25)) = V at N0 ⊢
  by_cases n0 : n = 0
  · subst n0
    have e0 := List.length_eq_zero_iff.1 EN.out
    have p0 := N0.out.p.cell 0 _ rfl
    have r0 := N0.out.res.cell 0 _ rfl
    have s0 := N0.out.res.soft 0
    have B0 := hide (N0.out.bw.setCell (p := ⟨w.heap.size, 0, none⟩) (Nat.le_refl _) (.slice none 0 0))
    have Z0 := hide (N0.out.res.set 0 (.slice none 0 0) (by simp) rfl)
    have E0 := hide e0
    clear e0
    go_wp2
    refine wp_loop_rounds 1 ?_
    rw [rounds_succ]
    go_wp2
    generalize V.setCell ⟨w.heap.size, 0, none⟩ (.slice none 0 0) = U at B0 Z0 ⊢
    have z0 := Z0.out.cell 0 _ rfl
    exact bodyPost_ret (v := .agg #[.slice none 0 0]) (by simp [results, Tryz.results48, go_sem, z0]) rfl ⟨none, 0, 0, rfl, by rw [E0.out]; exact WPoly.nil _ _ _, Mine.nil _ _, B0.out⟩
  obtain ⟨rfl, hc⟩ := H4.out.resolve_left (fun e => n0 (by rw [← EN.out, e]; rfl))
  have HC := hide hc
  clear hc H4 H
  go_wp2
  go_loopw [4] (fun i wr => ∃ k : Nat, k ≤ n ∧ i = .int .i64 k ∧ Hid (∃ vq vc cs g cp, CopyP w ps k vq vc cs g cp wr)) (fun i _ => n - (intOf i).toNat)
  case atStart => exact ⟨0, by omega, rfl, ⟨_, _, _, _, _, N0.out⟩⟩
  case round =>
    obtain ⟨k, hk, rfl, HCP⟩ := hrel
    obtain ⟨vq, vc, cs, g, cp, CP0⟩ := HCP.out
    clear HCP N0
    have CP := hide CP0
    clear CP0
    by_cases hlt : k < n
    case neg =>
      obtain rfl : k = n := by omega
      have p0 := CP.out.p.cell 0 _ rfl
      have r0 := CP.out.res.cell 0 _ rfl
      have s0 := CP.out.res.soft 0
      have B0 := hide (CP.out.bw.setCell (p := ⟨w.heap.size, 0, none⟩) (Nat.le_refl _) (.slice vq k vc))
      have Z0 := hide (CP.out.res.set 0 (.slice vq k vc) (by simp) rfl)
      have CW : CopyP w ps ps.length vq vc cs g cp wr := by rw [EN.out]; exact CP.out
      have W0 := CW.whole (fun e => n0 (by rw [← EN.out, e]; rfl))
      rw [EN.out] at W0
      have W1 := W0.keep (w' := wr.setCell ⟨w.heap.size, 0, none⟩ (.slice vq k vc)) (Keep.of_turn ((Turn.refl w.heap.size wr).setCell (p := ⟨w.heap.size, 0, none⟩) rfl _)) (fun b h1 _ (h2 : b = _) => by omega)
      have W2 := hide (W1.wide (lo' := w.heap.size) (hi' := (wr.setCell ⟨w.heap.size, 0, none⟩ (.slice vq k vc)).heap.size) (by omega) (by simp [World.setCell]))
      have MM : Hid (Mine (wr.setCell ⟨w.heap.size, 0, none⟩ (.slice vq k vc)) w.heap.size (.slice vq k vc)) := (Mine.turn (CP.out.mine (by rw [EN.out]; exact Nat.le_refl _)) ((Turn.refl w.heap.size wr).setCell (p := ⟨w.heap.size, 0, none⟩) rfl _) (by omega)).mono (by omega)
      clear CW W0 W1
      go_wp2
      generalize wr.setCell ⟨w.heap.size, 0, none⟩ (.slice vq k vc) = U at B0 Z0 W2 MM ⊢
      have z0 := Z0.out.cell 0 _ rfl
      exact bodyPost_ret (v := .agg #[.slice vq k vc]) (by simp [results, Tryz.results48, go_sem, z0]) rfl ⟨vq, k, vc, rfl, W2.out, MM.out, B0.out⟩
    · obtain ⟨x, ex⟩ : ∃ x, ps[k]? = some x := ⟨_, List.getElem?_eq_getElem (by rw [EN.out]; exact hlt)⟩
      have LA := hide (HA.out x (List.mem_of_getElem? ex))
      obtain ⟨c, at_⟩ := x
      obtain ⟨g1, s, b, g2, g3⟩ := HC.out k _ ex
      have DR : Below wr.heap.size wr wr.drew := (Below.refl _ _).drew
      have cx := cell_below CP.out.bw g1
      have sx := cell_below CP.out.bw g2
      have RX := hide ((g3.below CP.out.bw).below DR)
      have EX := hide ex
      obtain ⟨qa, ca, _, rfl, _⟩ := g3
      simp only [] at cx sx RX LA
      have lk : ((k : Nat) : Int) < (n : Nat) := by omega
      have pz := CP.out.p.cell 0 _ rfl
      go_wp2_with fail
      have CPW := CP
      have BN : Hid (B < w.heap.size) := World.block_lt_of_cell? w _ g1
      have WL : Hid (w.heap.size ≤ wr.heap.size) := CP.out.bw.size
      have WL2 : Hid (w.heap.size + 2 ≤ wr.heap.size) := by have := CP.out.p.lt; show _ ≤ _; omega
      replace CP := hide (CP.out.below DR)
      clear ex g1 g2 DR
      refine Phase.region (S := fun v => (v.cell? ⟨w.heap.size + 1, 0, none⟩ = some (.slice vq k vc) ∧ v.cell? ⟨B, off + k * 2, none⟩ = some (.int .i64 c) ∧ v.cell? ⟨B, off + k * 2 + 1, none⟩ = some (.slice qa at_.length ca))) 17 (by kernel_rfl) ?_
      have hHeld : wr.drew.cell? ⟨w.heap.size + 1, 0, none⟩ = some (.slice vq k vc) ∧ wr.drew.cell? ⟨B, off + k * 2, none⟩ = some (.int .i64 c) ∧ wr.drew.cell? ⟨B, off + k * 2 + 1, none⟩ = some (.slice qa at_.length ca) := ⟨pz, cx, sx⟩
      have hH2 := hHeld.2
      clear pz cx sx
      refine Phase.take (i := 0) (v := ?_) rfl (by kernel_rfl) (by omega) (by kernel_rfl) (by kernel_rfl) (by kernel_rfl) (fun _ _ _ h => h) (Or.inl ⟨by kernel_rfl, ?_⟩) hHeld ?_
      rotate_left
      · intro w' hSw
        (try dsimp only at hSw)
        go_simp
        first | done | with_reducible rfl
      try simp only [Act.put, List.getElem_toArray, List.getElem_cons_succ, List.getElem_cons_zero, List.setIfInBounds_toArray, List.set]
      refine Phase.take (i := 1) (v := ?_) rfl (by kernel_rfl) (by omega) (by kernel_rfl) (by kernel_rfl) (by kernel_rfl) (fun _ _ _ h => h) (Or.inl ⟨by kernel_rfl, ?_⟩) hHeld ?_
      rotate_left
      · intro w' hSw
        (try dsimp only at hSw)
        go_simp
        first | done | with_reducible rfl
      try simp only [Act.put, List.getElem_toArray, List.getElem_cons_succ, List.getElem_cons_zero, List.setIfInBounds_toArray, List.set]
      refine Phase.take (i := 2) (v := ?_) rfl (by kernel_rfl) (by omega) (by kernel_rfl) (by kernel_rfl) (by kernel_rfl) (fun _ _ _ h => h) (Or.inl ⟨by kernel_rfl, ?_⟩) hHeld ?_
      rotate_left
      · intro w' hSw
        (try dsimp only at hSw)
        go_simp
        first | done | with_reducible rfl
      try simp only [Act.put, List.getElem_toArray, List.getElem_cons_succ, List.getElem_cons_zero, List.setIfInBounds_toArray, List.set]
      refine Phase.take (i := 3) (v := ?_) rfl (by kernel_rfl) (by omega) (by kernel_rfl) (by kernel_rfl) (by kernel_rfl) (fun _ _ _ h => h) (Or.inl ⟨by kernel_rfl, ?_⟩) hHeld ?_
      rotate_left
      · intro w' hSw
        (try dsimp only at hSw)
        go_simp
        first | done | with_reducible rfl
      try simp only [Act.put, List.getElem_toArray, List.getElem_cons_succ, List.getElem_cons_zero, List.setIfInBounds_toArray, List.set]
      refine Phase.take (i := 4) (v := ?_) rfl (by kernel_rfl) (by omega) (by kernel_rfl) (by kernel_rfl) (by kernel_rfl) (fun _ _ _ h => h) (Or.inl ⟨by kernel_rfl, ?_⟩) hHeld ?_
      rotate_left
      · intro w' hSw
        (try dsimp only at hSw)
        go_simp
        first | done | with_reducible rfl
      try simp only [Act.put, List.getElem_toArray, List.getElem_cons_succ, List.getElem_cons_zero, List.setIfInBounds_toArray, List.set]
      refine Phase.take (i := 5) (v := ?_) rfl (by kernel_rfl) (by omega) (by kernel_rfl) (by kernel_rfl) (by kernel_rfl) (fun _ _ _ h => h) (Or.inl ⟨by kernel_rfl, ?_⟩) hHeld ?_
      rotate_left
      · intro w' hSw
        (try dsimp only at hSw)
        go_simp
        first | done | with_reducible rfl
      try simp only [Act.put, List.getElem_toArray, List.getElem_cons_succ, List.getElem_cons_zero, List.setIfInBounds_toArray, List.set]
      refine Phase.take (i := 6) (v := ?_) rfl (by kernel_rfl) (by omega) (by kernel_rfl) (by kernel_rfl) (by kernel_rfl) (fun _ _ _ h => h) (Or.inl ⟨by kernel_rfl, ?_⟩) hHeld ?_
      rotate_left
      · intro w' hSw
        (try dsimp only at hSw)
        go_simp
        first | done | with_reducible rfl
      try simp only [Act.put, List.getElem_toArray, List.getElem_cons_succ, List.getElem_cons_zero, List.setIfInBounds_toArray, List.set]
      refine Phase.take (i := 8) (v := ?_) rfl (by kernel_rfl) (by omega) (by kernel_rfl) (by kernel_rfl) (by kernel_rfl) (fun _ _ _ h => h) (Or.inl ⟨by kernel_rfl, ?_⟩) hHeld ?_
      rotate_left
      · intro w' hSw
        (try dsimp only at hSw)
        go_simp
        first | done | with_reducible rfl
      try simp only [Act.put, List.getElem_toArray, List.getElem_cons_succ, List.getElem_cons_zero, List.setIfInBounds_toArray, List.set]
      refine Phase.take (i := 9) (v := ?_) rfl (by kernel_rfl) (by omega) (by kernel_rfl) (by kernel_rfl) (by kernel_rfl) (fun _ _ _ h => h) (Or.inl ⟨by kernel_rfl, ?_⟩) hHeld ?_
      rotate_left
      · intro w' hSw
        (try dsimp only at hSw)
        go_simp
        first | done | with_reducible rfl
      try simp only [Act.put, List.getElem_toArray, List.getElem_cons_succ, List.getElem_cons_zero, List.setIfInBounds_toArray, List.set]
      refine Phase.take (i := 10) (v := ?_) rfl (by kernel_rfl) (by omega) (by kernel_rfl) (by kernel_rfl) (by kernel_rfl) (fun _ _ _ h => h) (Or.inl ⟨by kernel_rfl, ?_⟩) hHeld ?_
      rotate_left
      · intro w' hSw
        (try dsimp only at hSw)
        go_simp
        first | done | with_reducible rfl
      try simp only [Act.put, List.getElem_toArray, List.getElem_cons_succ, List.getElem_cons_zero, List.setIfInBounds_toArray, List.set]
      refine Phase.take (i := 11) (v := ?_) rfl (by kernel_rfl) (by omega) (by kernel_rfl) (by kernel_rfl) (by kernel_rfl) (fun _ _ _ h => h) (Or.inl ⟨by kernel_rfl, ?_⟩) hHeld ?_
      rotate_left
      · intro w' hSw
        (try dsimp only at hSw)
        go_simp
        first | done | with_reducible rfl
      try simp only [Act.put, List.getElem_toArray, List.getElem_cons_succ, List.getElem_cons_zero, List.setIfInBounds_toArray, List.set]
      refine Phase.take (i := 12) (v := ?_) rfl (by kernel_rfl) (by omega) (by kernel_rfl) (by kernel_rfl) (by kernel_rfl) (fun _ _ _ h => h) (Or.inl ⟨by kernel_rfl, ?_⟩) hHeld ?_
      rotate_left
      · intro w' hSw
        (try dsimp only at hSw)
        go_simp
        first | done | with_reducible rfl
      try simp only [Act.put, List.getElem_toArray, List.getElem_cons_succ, List.getElem_cons_zero, List.setIfInBounds_toArray, List.set]
      refine Phase.ready (rs := [7]) (by kernel_rfl) (by simp) ?_
      refine Phase.AllQ.cons rfl (fun K hK => ?_) Phase.AllQ.nil
      go_simp
      show K _ (wr.drew.alloc (.cells #[] 3))
      have b7 : Below wr.drew.heap.size wr.drew (wr.drew.alloc (.cells #[] 3)) := (Below.refl _ _).alloc (Nat.le_refl _) _
      have HG := hide (heap_new wr.drew 3)
      replace CP := hide (CP.out.below b7)
      replace RX := hide (RX.out.below b7)
      clear hHeld
      have hHeld : (wr.drew.alloc (.cells #[] 3)).cell? ⟨w.heap.size + 1, 0, none⟩ = some (.slice vq k vc) ∧ (wr.drew.alloc (.cells #[] 3)).cell? ⟨B, off + k * 2, none⟩ = some (.int .i64 c) ∧ (wr.drew.alloc (.cells #[] 3)).cell? ⟨B, off + k * 2 + 1, none⟩ = some (.slice qa at_.length ca) := ⟨CP.out.p.cell 0 _ rfl, cell_below b7 hH2.1, cell_below b7 hH2.2⟩
      have hH3 := hHeld.2
      clear hH2
      have hH2 := hH3
      clear hH3
      refine hK.out _ _ (fun _ => hHeld) ?_
      clear hK K
      try simp only [Act.put, List.getElem_toArray, List.getElem_cons_succ, List.getElem_cons_zero, List.setIfInBounds_toArray, List.set]
      have LU : Hid (wr.heap.size < (wr.drew.alloc (.cells #[] 3)).heap.size) := (Array.getElem?_eq_some_iff.1 HG.out).1
      replace HG : Hid ((wr.drew.alloc (.cells #[] 3)).heap[wr.heap.size]? = some (.cells #[] 3 (0, 0))) := HG.out
      have CPT : Hid (∀ u, Turn wr.heap.size (wr.drew.alloc (.cells #[] 3)) u → CopyP w ps k vq vc cs g cp u) := fun u ht => CopyP.turn (u := wr) CPW.out ⟨ht.os, ht.tape, ht.output, Nat.le_of_lt (Nat.lt_of_lt_of_le LU.out ht.size), fun j hj hn => (ht.block j (Nat.lt_trans hj LU.out) hn).trans (b7.block j hj)⟩ (Nat.le_refl _)
      generalize wr.drew.alloc (.cells #[] 3) = U at CP RX HG hHeld hH2 LU CPT ⊢
      clear b7
      refine Phase.ready (rs := [13]) (by kernel_rfl) (by simp) ?_
      refine Phase.AllQ.cons rfl (fun K hK => ?_) Phase.AllQ.nil
      rw [if_pos (by kernel_rfl)]
      refine wp_copyA (.tmp 19) (.tmp 24) rfl wr.heap.size HG.out rfl _ b at_ rfl RX.out (Nat.le_trans LA.out (by omega)) ?_
      intro g' cap' u13 hO hW hge hlt' hT
      have LW : Hid (wr.heap.size ≤ g') := hge
      replace hW := hide hW
      have IT := hide hO.isT
      have CP1 : Hid (CopyP w ps k vq vc cs g cp wr) := CPW
      have LG : Hid (∀ i, i < k → g i < g') := fun i hi => by
        obtain ⟨y, ey⟩ : ∃ y, ps[i]? = some y := ⟨_, List.getElem?_eq_getElem (by rw [EN.out]; omega)⟩
        have := (CP1.out.rows i y hi ey).2.2.1.lt
        have := LW.out
        omega
      replace CP := hide (CPT.out u13 hT)
      clear hHeld CP1
      have hHeld : u13.cell? ⟨w.heap.size + 1, 0, none⟩ = some (.slice vq k vc) ∧ u13.cell? ⟨B, off + k * 2, none⟩ = some (.int .i64 c) ∧ u13.cell? ⟨B, off + k * 2 + 1, none⟩ = some (.slice qa at_.length ca) := ⟨CP.out.p.cell 0 _ rfl, (hT.cell (p := ⟨B, off + k * 2, none⟩) (World.block_lt_of_cell? U _ hH2.1) (by have := BN.out; have := WL.out; show B ≠ wr.heap.size; omega)).trans hH2.1, (hT.cell (p := ⟨B, off + k * 2 + 1, none⟩) (World.block_lt_of_cell? U _ hH2.2) (by have := BN.out; have := WL.out; show B ≠ wr.heap.size; omega)).trans hH2.2⟩
      clear hH2
      have hH2 := hHeld.2
      clear hT hO hge hlt' RX HG CPT
      refine hK.out _ _ (fun _ => hHeld) ?_
      clear hK K
      try simp only [Act.put, List.getElem_toArray, List.getElem_cons_succ, List.getElem_cons_zero, List.setIfInBounds_toArray, List.set]
      refine Phase.take (i := 14) (v := ?_) rfl (by kernel_rfl) (by omega) (by kernel_rfl) (by kernel_rfl) (by kernel_rfl) (fun _ _ _ h => h) (Or.inl ⟨by kernel_rfl, ?_⟩) hHeld ?_
      rotate_left
      · intro w' hSw
        (try dsimp only at hSw)
        go_simp
        first | done | with_reducible rfl
      try simp only [Act.put, List.getElem_toArray, List.getElem_cons_succ, List.getElem_cons_zero, List.setIfInBounds_toArray, List.set]
      refine Phase.ready (rs := [15]) (by kernel_rfl) (by simp) ?_
      refine Phase.AllQ.cons rfl (fun K hK => ?_) Phase.AllQ.nil
      go_simp
      show K _ (u13.alloc (.cells #[.int .i64 c, .slice (some ⟨g', 0, none⟩) at_.length cap'] 55))
      have b15 : Below u13.heap.size u13 (u13.alloc (.cells #[.int .i64 c, .slice (some ⟨g', 0, none⟩) at_.length cap'] 55)) := (Below.refl _ _).alloc (Nat.le_refl _) _
      have AD := hide (Rec.new u13 [.int .i64 c, .slice (some ⟨g', 0, none⟩) at_.length cap'] 55)
      replace CP := hide (CP.out.below b15)
      replace hW := hide (hW.out.below b15)
      replace IT := hide (IT.out.below b15)
      clear hHeld
      have hHeld : (u13.alloc (.cells #[.int .i64 c, .slice (some ⟨g', 0, none⟩) at_.length cap'] 55)).cell? ⟨w.heap.size + 1, 0, none⟩ = some (.slice vq k vc) ∧ (u13.alloc (.cells #[.int .i64 c, .slice (some ⟨g', 0, none⟩) at_.length cap'] 55)).cell? ⟨B, off + k * 2, none⟩ = some (.int .i64 c) ∧ (u13.alloc (.cells #[.int .i64 c, .slice (some ⟨g', 0, none⟩) at_.length cap'] 55)).cell? ⟨B, off + k * 2 + 1, none⟩ = some (.slice qa at_.length ca) := ⟨CP.out.p.cell 0 _ rfl, cell_below b15 hH2.1, cell_below b15 hH2.2⟩
      have hH3 := hHeld.2
      clear hH2 b15
      have hH2 := hH3
      clear hH3
      refine hK.out _ _ (fun _ => hHeld) ?_
      clear hK K
      try simp only [Act.put, List.getElem_toArray, List.getElem_cons_succ, List.getElem_cons_zero, List.setIfInBounds_toArray, List.set]
      generalize u13.alloc (.cells #[.int .i64 c, .slice (some ⟨g', 0, none⟩) at_.length cap'] 55) = U15 at CP hW IT AD hHeld hH2 ⊢
      refine Phase.ready (rs := [16]) (by kernel_rfl) (by simp) ?_
      refine Phase.AllQ.cons rfl (fun K hK => ?_) Phase.AllQ.nil
      rw [if_pos (by kernel_rfl)]
      refine wp_pushM (.tmp 13) (.tmp 27) rfl (w.heap.size + 2) (.slice vq k vc) cs rfl CP.out.own (by have := CP.out.p.lt; omega) ⟨u13.heap.size, 0, none⟩ c (some ⟨g', 0, none⟩) at_.length cap' rfl (by rw [Go.WideShapes.add_plain]; exact AD.out.cell 0 _ rfl) (by rw [Go.WideShapes.add_plain]; exact AD.out.cell 1 _ rfl) (by rw [CP.out.len]; omega) ?_
      intro G cap16 u16 hO16 hgr
      rw [CP.out.len] at hO16 ⊢
      obtain ⟨T, hT, hTl, _, _⟩ := ownBlock_turn CP.out.own hgr
      have NX := hide (CP.out.next (x := (c, at_)) EX.out LG.out hW.out IT.out (by have := LW.out; have := WL2.out; omega) hO16 hgr)
      have PB := CP.out.p.turn hT (by omega)
      have p0 := PB.cell 0 _ rfl
      have f0 := PB.soft 0
      clear hHeld
      have hHeld : u16.cell? ⟨w.heap.size + 1, 0, none⟩ = some (.slice vq k vc) ∧ u16.cell? ⟨B, off + k * 2, none⟩ = some (.int .i64 c) ∧ u16.cell? ⟨B, off + k * 2 + 1, none⟩ = some (.slice qa at_.length ca) := ⟨p0, (hT.cell (p := ⟨B, off + k * 2, none⟩) (World.block_lt_of_cell? U15 _ hH2.1) (by have := BN.out; show B ≠ T; omega)).trans hH2.1, (hT.cell (p := ⟨B, off + k * 2 + 1, none⟩) (World.block_lt_of_cell? U15 _ hH2.2) (by have := BN.out; show B ≠ T; omega)).trans hH2.2⟩
      refine hK.out _ _ (fun _ => hHeld) ?_
      clear hK K
      try simp only [Act.put, List.getElem_toArray, List.getElem_cons_succ, List.getElem_cons_zero, List.setIfInBounds_toArray, List.set]
      simp only [] at NX
      clear hHeld hH2 hT hTl hgr hO16 CP PB hW IT AD
      refine Phase.takeW (i := 17) (v := ?_) rfl (by omega) (by kernel_rfl) (by kernel_rfl) (by kernel_rfl) (fun _ _ _ h => h) (Or.inl ⟨by kernel_rfl, ?_⟩) ?_
      rotate_left
      · intro w' _
        go_simp
        first | done | with_reducible rfl
      try simp only [Act.put, List.getElem_toArray, List.getElem_cons_succ, List.getElem_cons_zero, List.setIfInBounds_toArray, List.set]
      refine Phase.ready (rs := [18]) (by kernel_rfl) (by simp) ?_
      refine Phase.AllQ.cons rfl (fun K hK => ?_) Phase.AllQ.nil
      go_simp
      refine hK.out _ _ (fun h => absurd h (by omega)) ?_
      clear hK K p0 f0
      try simp only [Act.put, List.getElem_toArray, List.getElem_cons_succ, List.getElem_cons_zero, List.setIfInBounds_toArray, List.set]
      refine Phase.done (by kernel_rfl) ?_ _
      generalize u16.setCell ⟨w.heap.size + 1, 0, none⟩ (.slice (some ⟨G, 0, none⟩) (k + 1) cap16) = U18 at NX ⊢
      have NE : Hid (∃ vq vc cs g cp, CopyP w ps (k + 1) vq vc cs g cp U18) := ⟨_, _, _, _, _, NX.out⟩
      clear NX
      go_wp2
      exact ⟨⟨k + 1, by omega, by go_num, NE⟩, by simp [intOf]; omega⟩
theorem l4CopyW (ps : List Mono) (B : Nat) (v : Value) (w : World) (h : PRow w B v ps) (hl : ps.length ≤ 2000000) (ha : ∀ x ∈ ps, x.2.length ≤ 2000000) :
    Calls Tryz.prog 48 #[v] w fun e w' => ∃ a l c, e = .returned (.agg #[.slice a l c]) ∧ WPoly w' w.heap.size w'.heap.size (.slice a l c) ps ∧ Below w.heap.size w w' := (l4CopyO ps B v w h hl ha).mono fun _ _ ⟨a, l, c, h1, h2, _, h3⟩ => ⟨a, l, c, h1, h2, h3⟩
theorem l4Copy (ps : List Mono) (B : Nat) (v : Value) (w : World) (h : PRow w B v ps) (hl : ps.length ≤ 1000) (ha : ∀ x ∈ ps, x.2.length ≤ 1000000) :
    Calls Tryz.prog 48 #[v] w fun e w' => ∃ a l c, e = .returned (.agg #[.slice a l c]) ∧ WPoly w' w.heap.size w'.heap.size (.slice a l c) ps ∧ Below w.heap.size w w' := l4CopyW ps B v w h (by omega) (fun x hx => Nat.le_trans (ha x hx) (by omega))
end Go.Proofs.YtckhfpaicnjknaaGreat.Pol
