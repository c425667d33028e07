/-
  The specification's l4Copy: the same parts in new memory.
  A sum so many times: the specification's PolScale.
  Parts as a sum, if there are not too many: the specification's l4Fit.
-/
import Derived.Test.YtggilenddbobnaaGreatAl
import Derived.Test.YtggilenddbobnaaGreatJ05
namespace Go.Proofs.YtggilenddbobnaaGreat.Pol
set_option linter.unusedSimpArgs false
set_option linter.unusedVariables false
open Go.ChangeShapes Go.WideShapes Go.ChangeAt Go.RowKit IntS
theorem heap_new (u : World) (t : TypeId) : (u.alloc (.cells #[] t)).heap[u.heap.size]? = some (.cells #[] t (0, 0)) := (MapKept.heap_alloc u _).1
set_option maxRecDepth 8000 in
set_option maxHeartbeats 8000000 in
theorem l4Copy (ps : List Mono) (B : Nat) (v : Value) (w : World) (h : PRow w B v ps) (hl : ps.length ≤ 1000) (ha : ∀ x ∈ ps, x.2.length ≤ 1000000) :
 Calls Tryz.prog 84 #[v] w fun e w' => ∃ a l c, e = .returned (.agg #[.slice a l c]) ∧ WPoly w' w.heap.size w'.heap.size (.slice a l c) ps ∧ Below w.heap.size w w' := by
 have bV : Below w.heap.size w ((w.alloc (.cells #[.slice none 0 0] 35)).alloc (.cells #[.slice none 0 0] 35)) := ((Below.refl _ _).alloc (Nat.le_refl _) _).alloc (by simp) _
 have P0 := Rec.new (w.alloc (.cells #[.slice none 0 0] 35)) [.slice none 0 0] 35
 rw [show (w.alloc (.cells #[.slice none 0 0] 35)).heap.size = w.heap.size + 1 by simp] at P0
 have N0 : Hid (CopyP w ps 0 none 0 [] (fun _ => 0) (fun _ => 0) ((w.alloc (.cells #[.slice none 0 0] 35)).alloc (.cells #[.slice none 0 0] 35))) :=
  ⟨(Rec.new w [.slice none 0 0] 35).alloc _, P0, ⟨rfl, Or.inl ⟨rfl, rfl⟩⟩, rfl, fun i x hi => by omega, fun i j _ hj => by omega, bV⟩
 have H := hide h
 obtain ⟨a, cap, off, rfl, h2, h3, _, h4⟩ := h
 unfold maxLen at h3
 have HA := hide ha
 clear bV P0 ha
 obtain ⟨n, en⟩ : ∃ n, ps.length = n := ⟨_, rfl⟩
 have EN := hide en
 rw [en] at h2 hl H ⊢
 have H4 := hide h4
 clear en h4
 go_enter Tryz.func84, Tryz.ntmps84
 go_wp2_with fail
 generalize ((w.alloc (.cells #[.slice none 0 0] 35)).alloc (.cells #[.slice none 0 0] 35)) = V at N0 ⊢
 by_cases n0 : n = 0
 · subst n0
   have e0 := List.length_eq_zero_iff.1 EN.out
   have p0 := N0.out.p.cell 0 _ rfl
   have r0 := N0.out.res.cell 0 _ rfl
   have s0 := N0.out.res.soft 0
   have B0 := hide (N0.out.bw.setCell (p := ⟨w.heap.size, 0, none⟩) (Nat.le_refl _) (.slice none 0 0))
   have Z0 := hide (N0.out.res.set 0 (.slice none 0 0) (by simp) rfl)
   have E0 := hide e0
   clear e0
   go_wp2
   refine wp_loop_rounds 1 ?_
   rw [rounds_succ]
   go_wp2
   generalize V.setCell ⟨w.heap.size, 0, none⟩ (.slice none 0 0) = U at B0 Z0 ⊢
   have z0 := Z0.out.cell 0 _ rfl
   exact bodyPost_ret (v := .agg #[.slice none 0 0]) (by simp [results, Tryz.results84, go_sem, z0]) rfl ⟨none, 0, 0, rfl, by rw [E0.out]; exact WPoly.nil _ _ _, B0.out⟩
 obtain ⟨rfl, hc⟩ := H4.out.resolve_left (fun e => n0 (by rw [← EN.out, e]; rfl))
 have HC := hide hc
 clear hc H4 H
 go_wp2
 go_loopw [4] (fun i wr => ∃ k : Nat, k ≤ n ∧ i = .int .i64 k ∧ Hid (∃ vq vc cs g cp, CopyP w ps k vq vc cs g cp wr)) (fun i _ => n - (intOf i).toNat)
 case atStart => exact ⟨0, by omega, rfl, ⟨_, _, _, _, _, N0.out⟩⟩
 case round =>
  obtain ⟨k, hk, rfl, HCP⟩ := hrel
  obtain ⟨vq, vc, cs, g, cp, CP0⟩ := HCP.out
  clear HCP N0
  have CP := hide CP0
  clear CP0
  by_cases hlt : k < n
  case neg =>
   obtain rfl : k = n := by omega
   have p0 := CP.out.p.cell 0 _ rfl
   have r0 := CP.out.res.cell 0 _ rfl
   have s0 := CP.out.res.soft 0
   have B0 := hide (CP.out.bw.setCell (p := ⟨w.heap.size, 0, none⟩) (Nat.le_refl _) (.slice vq k vc))
   have Z0 := hide (CP.out.res.set 0 (.slice vq k vc) (by simp) rfl)
   have CW : CopyP w ps ps.length vq vc cs g cp wr := by rw [EN.out]; exact CP.out
   have W0 := CW.whole (fun e => n0 (by rw [← EN.out, e]; rfl))
   rw [EN.out] at W0
   have W1 := W0.keep (w' := wr.setCell ⟨w.heap.size, 0, none⟩ (.slice vq k vc)) (Keep.of_turn ((Turn.refl w.heap.size wr).setCell (p := ⟨w.heap.size, 0, none⟩) rfl _)) (fun b h1 _ (h2 : b = _) => by omega)
   have W2 := hide (W1.wide (lo' := w.heap.size) (hi' := (wr.setCell ⟨w.heap.size, 0, none⟩ (.slice vq k vc)).heap.size) (by omega) (by simp [World.setCell]))
   clear CW W0 W1
   go_wp2
   generalize wr.setCell ⟨w.heap.size, 0, none⟩ (.slice vq k vc) = U at B0 Z0 W2 ⊢
   have z0 := Z0.out.cell 0 _ rfl
   exact bodyPost_ret (v := .agg #[.slice vq k vc]) (by simp [results, Tryz.results84, go_sem, z0]) rfl ⟨vq, k, vc, rfl, W2.out, B0.out⟩
  · obtain ⟨x, ex⟩ : ∃ x, ps[k]? = some x := ⟨_, List.getElem?_eq_getElem (by rw [EN.out]; exact hlt)⟩
    have LA := hide (HA.out x (List.mem_of_getElem? ex))
    obtain ⟨c, at_⟩ := x
    obtain ⟨g1, s, b, g2, g3⟩ := HC.out k _ ex
    have DR : Below wr.heap.size wr wr.drew := (Below.refl _ _).drew
    have cx := cell_below CP.out.bw g1
    have sx := cell_below CP.out.bw g2
    have RX := hide ((g3.below CP.out.bw).below DR)
    have EX := hide ex
    obtain ⟨qa, ca, _, rfl, _⟩ := g3
    simp only [] at cx sx RX LA
    have lk : ((k : Nat) : Int) < (n : Nat) := by omega
    have pz := CP.out.p.cell 0 _ rfl
    go_wp2_with fail
    have CPW := CP
    have BN : Hid (B < w.heap.size) := World.block_lt_of_cell? w _ g1
    have WL : Hid (w.heap.size ≤ wr.heap.size) := CP.out.bw.size
    have WL2 : Hid (w.heap.size + 2 ≤ wr.heap.size) := by have := CP.out.p.lt; show _ ≤ _; omega
    replace CP := hide (CP.out.below DR)
    clear ex g1 g2 DR
    refine Phase.region (S := fun v => (v.cell? ⟨w.heap.size + 1, 0, none⟩ = some (.slice vq k vc) ∧ v.cell? ⟨B, off + k * 2, none⟩ = some (.int .i64 c) ∧ v.cell? ⟨B, off + k * 2 + 1, none⟩ = some (.slice qa at_.length ca))) 17 (by kernel_rfl) ?_
    have hHeld : wr.drew.cell? ⟨w.heap.size + 1, 0, none⟩ = some (.slice vq k vc) ∧ wr.drew.cell? ⟨B, off + k * 2, none⟩ = some (.int .i64 c) ∧ wr.drew.cell? ⟨B, off + k * 2 + 1, none⟩ = some (.slice qa at_.length ca) := ⟨pz, cx, sx⟩
    have hH2 := hHeld.2
    clear pz cx sx
    refine Phase.take (i := 0) (v := ?_) rfl (by kernel_rfl) (by omega) (by kernel_rfl) (by kernel_rfl) (by kernel_rfl) (fun _ _ _ h => h) (Or.inl ⟨by kernel_rfl, ?_⟩) hHeld ?_
    rotate_left
    · intro w' hSw
      (try dsimp only at hSw)
      go_simp
      first | done | with_reducible rfl
    try simp only [Act.put, gA, gS, gZ, sA, List.set]
    refine Phase.take (i := 1) (v := ?_) rfl (by kernel_rfl) (by omega) (by kernel_rfl) (by kernel_rfl) (by kernel_rfl) (fun _ _ _ h => h) (Or.inl ⟨by kernel_rfl, ?_⟩) hHeld ?_
    rotate_left
    · intro w' hSw
      (try dsimp only at hSw)
      go_simp
      first | done | with_reducible rfl
    try simp only [Act.put, gA, gS, gZ, sA, List.set]
    refine Phase.take (i := 2) (v := ?_) rfl (by kernel_rfl) (by omega) (by kernel_rfl) (by kernel_rfl) (by kernel_rfl) (fun _ _ _ h => h) (Or.inl ⟨by kernel_rfl, ?_⟩) hHeld ?_
    rotate_left
    · intro w' hSw
      (try dsimp only at hSw)
      go_simp
      first | done | with_reducible rfl
    try simp only [Act.put, gA, gS, gZ, sA, List.set]
    refine Phase.take (i := 3) (v := ?_) rfl (by kernel_rfl) (by omega) (by kernel_rfl) (by kernel_rfl) (by kernel_rfl) (fun _ _ _ h => h) (Or.inl ⟨by kernel_rfl, ?_⟩) hHeld ?_
    rotate_left
    · intro w' hSw
      (try dsimp only at hSw)
      go_simp
      first | done | with_reducible rfl
    try simp only [Act.put, gA, gS, gZ, sA, List.set]
    refine Phase.take (i := 4) (v := ?_) rfl (by kernel_rfl) (by omega) (by kernel_rfl) (by kernel_rfl) (by kernel_rfl) (fun _ _ _ h => h) (Or.inl ⟨by kernel_rfl, ?_⟩) hHeld ?_
    rotate_left
    · intro w' hSw
      (try dsimp only at hSw)
      go_simp
      first | done | with_reducible rfl
    try simp only [Act.put, gA, gS, gZ, sA, List.set]
    refine Phase.take (i := 5) (v := ?_) rfl (by kernel_rfl) (by omega) (by kernel_rfl) (by kernel_rfl) (by kernel_rfl) (fun _ _ _ h => h) (Or.inl ⟨by kernel_rfl, ?_⟩) hHeld ?_
    rotate_left
    · intro w' hSw
      (try dsimp only at hSw)
      go_simp
      first | done | with_reducible rfl
    try simp only [Act.put, gA, gS, gZ, sA, List.set]
    refine Phase.take (i := 6) (v := ?_) rfl (by kernel_rfl) (by omega) (by kernel_rfl) (by kernel_rfl) (by kernel_rfl) (fun _ _ _ h => h) (Or.inl ⟨by kernel_rfl, ?_⟩) hHeld ?_
    rotate_left
    · intro w' hSw
      (try dsimp only at hSw)
      go_simp
      first | done | with_reducible rfl
    try simp only [Act.put, gA, gS, gZ, sA, List.set]
    refine Phase.take (i := 8) (v := ?_) rfl (by kernel_rfl) (by omega) (by kernel_rfl) (by kernel_rfl) (by kernel_rfl) (fun _ _ _ h => h) (Or.inl ⟨by kernel_rfl, ?_⟩) hHeld ?_
    rotate_left
    · intro w' hSw
      (try dsimp only at hSw)
      go_simp
      first | done | with_reducible rfl
    try simp only [Act.put, gA, gS, gZ, sA, List.set]
    refine Phase.take (i := 9) (v := ?_) rfl (by kernel_rfl) (by omega) (by kernel_rfl) (by kernel_rfl) (by kernel_rfl) (fun _ _ _ h => h) (Or.inl ⟨by kernel_rfl, ?_⟩) hHeld ?_
    rotate_left
    · intro w' hSw
      (try dsimp only at hSw)
      go_simp
      first | done | with_reducible rfl
    try simp only [Act.put, gA, gS, gZ, sA, List.set]
    refine Phase.take (i := 10) (v := ?_) rfl (by kernel_rfl) (by omega) (by kernel_rfl) (by kernel_rfl) (by kernel_rfl) (fun _ _ _ h => h) (Or.inl ⟨by kernel_rfl, ?_⟩) hHeld ?_
    rotate_left
    · intro w' hSw
      (try dsimp only at hSw)
      go_simp
      first | done | with_reducible rfl
    try simp only [Act.put, gA, gS, gZ, sA, List.set]
    refine Phase.take (i := 11) (v := ?_) rfl (by kernel_rfl) (by omega) (by kernel_rfl) (by kernel_rfl) (by kernel_rfl) (fun _ _ _ h => h) (Or.inl ⟨by kernel_rfl, ?_⟩) hHeld ?_
    rotate_left
    · intro w' hSw
      (try dsimp only at hSw)
      go_simp
      first | done | with_reducible rfl
    try simp only [Act.put, gA, gS, gZ, sA, List.set]
    refine Phase.take (i := 12) (v := ?_) rfl (by kernel_rfl) (by omega) (by kernel_rfl) (by kernel_rfl) (by kernel_rfl) (fun _ _ _ h => h) (Or.inl ⟨by kernel_rfl, ?_⟩) hHeld ?_
    rotate_left
    · intro w' hSw
      (try dsimp only at hSw)
      go_simp
      first | done | with_reducible rfl
    try simp only [Act.put, gA, gS, gZ, sA, List.set]
    refine Phase.ready (rs := [7]) (by kernel_rfl) (by simp) ?_
    refine Phase.AllQ.cons rfl (fun K hK => ?_) Phase.AllQ.nil
    go_simp
    show K _ (wr.drew.alloc (.cells #[] 3))
    have b7 : Below wr.drew.heap.size wr.drew (wr.drew.alloc (.cells #[] 3)) := (Below.refl _ _).alloc (Nat.le_refl _) _
    have HG := hide (heap_new wr.drew 3)
    replace CP := hide (CP.out.below b7)
    replace RX := hide (RX.out.below b7)
    clear hHeld
    have hHeld : (wr.drew.alloc (.cells #[] 3)).cell? ⟨w.heap.size + 1, 0, none⟩ = some (.slice vq k vc) ∧ (wr.drew.alloc (.cells #[] 3)).cell? ⟨B, off + k * 2, none⟩ = some (.int .i64 c) ∧ (wr.drew.alloc (.cells #[] 3)).cell? ⟨B, off + k * 2 + 1, none⟩ = some (.slice qa at_.length ca) := ⟨CP.out.p.cell 0 _ rfl, cell_below b7 hH2.1, cell_below b7 hH2.2⟩
    have hH3 := hHeld.2
    clear hH2
    have hH2 := hH3
    clear hH3
    refine hK.out _ _ (fun _ => hHeld) ?_
    clear hK K
    try simp only [Act.put, gA, gS, gZ, sA, List.set]
    have LU : Hid (wr.heap.size < (wr.drew.alloc (.cells #[] 3)).heap.size) := (Array.getElem?_eq_some_iff.1 HG.out).1
    replace HG : Hid ((wr.drew.alloc (.cells #[] 3)).heap[wr.heap.size]? = some (.cells #[] 3 (0, 0))) := HG.out
    have CPT : Hid (∀ u, Turn wr.heap.size (wr.drew.alloc (.cells #[] 3)) u → CopyP w ps k vq vc cs g cp u) := fun u ht => CopyP.turn (u := wr) CPW.out ⟨ht.os, ht.tape, ht.output, Nat.le_of_lt (Nat.lt_of_lt_of_le LU.out ht.size), fun j hj hn => (ht.block j (Nat.lt_trans hj LU.out) hn).trans (b7.block j hj)⟩ (Nat.le_refl _)
    generalize wr.drew.alloc (.cells #[] 3) = U at CP RX HG hHeld hH2 LU CPT ⊢
    clear b7
    refine Phase.ready (rs := [13]) (by kernel_rfl) (by simp) ?_
    refine Phase.AllQ.cons rfl (fun K hK => ?_) Phase.AllQ.nil
    rw [if_pos (by kernel_rfl)]
    refine wp_copyA (.tmp 19) (.tmp 24) rfl wr.heap.size HG.out rfl _ b at_ rfl RX.out (Nat.le_trans LA.out (by omega)) ?_
    intro g' cap' u13 hO hW hge hlt' hT
    have LW : Hid (wr.heap.size ≤ g') := hge
    replace hW := hide hW
    have IT := hide hO.isT
    have CP1 : Hid (CopyP w ps k vq vc cs g cp wr) := CPW
    have LG : Hid (∀ i, i < k → g i < g') := fun i hi => by
     obtain ⟨y, ey⟩ : ∃ y, ps[i]? = some y := ⟨_, List.getElem?_eq_getElem (by rw [EN.out]; omega)⟩
     have := (CP1.out.rows i y hi ey).2.2.1.lt
     have := LW.out
     omega
    replace CP := hide (CPT.out u13 hT)
    clear hHeld CP1
    have hHeld : u13.cell? ⟨w.heap.size + 1, 0, none⟩ = some (.slice vq k vc) ∧ u13.cell? ⟨B, off + k * 2, none⟩ = some (.int .i64 c) ∧ u13.cell? ⟨B, off + k * 2 + 1, none⟩ = some (.slice qa at_.length ca) := ⟨CP.out.p.cell 0 _ rfl, (hT.cell (p := ⟨B, off + k * 2, none⟩) (World.block_lt_of_cell? U _ hH2.1) (by have := BN.out; have := WL.out; show B ≠ wr.heap.size; omega)).trans hH2.1, (hT.cell (p := ⟨B, off + k * 2 + 1, none⟩) (World.block_lt_of_cell? U _ hH2.2) (by have := BN.out; have := WL.out; show B ≠ wr.heap.size; omega)).trans hH2.2⟩
    clear hH2
    have hH2 := hHeld.2
    clear hT hO hge hlt' RX HG CPT
    refine hK.out _ _ (fun _ => hHeld) ?_
    clear hK K
    try simp only [Act.put, gA, gS, gZ, sA, List.set]
    refine Phase.take (i := 14) (v := ?_) rfl (by kernel_rfl) (by omega) (by kernel_rfl) (by kernel_rfl) (by kernel_rfl) (fun _ _ _ h => h) (Or.inl ⟨by kernel_rfl, ?_⟩) hHeld ?_
    rotate_left
    · intro w' hSw
      (try dsimp only at hSw)
      go_simp
      first | done | with_reducible rfl
    try simp only [Act.put, gA, gS, gZ, sA, List.set]
    refine Phase.ready (rs := [15]) (by kernel_rfl) (by simp) ?_
    refine Phase.AllQ.cons rfl (fun K hK => ?_) Phase.AllQ.nil
    go_simp
    show K _ (u13.alloc (.cells #[.int .i64 c, .slice (some ⟨g', 0, none⟩) at_.length cap'] 82))
    have b15 : Below u13.heap.size u13 (u13.alloc (.cells #[.int .i64 c, .slice (some ⟨g', 0, none⟩) at_.length cap'] 82)) := (Below.refl _ _).alloc (Nat.le_refl _) _
    have AD := hide (Rec.new u13 [.int .i64 c, .slice (some ⟨g', 0, none⟩) at_.length cap'] 82)
    replace CP := hide (CP.out.below b15)
    replace hW := hide (hW.out.below b15)
    replace IT := hide (IT.out.below b15)
    clear hHeld
    have hHeld : (u13.alloc (.cells #[.int .i64 c, .slice (some ⟨g', 0, none⟩) at_.length cap'] 82)).cell? ⟨w.heap.size + 1, 0, none⟩ = some (.slice vq k vc) ∧ (u13.alloc (.cells #[.int .i64 c, .slice (some ⟨g', 0, none⟩) at_.length cap'] 82)).cell? ⟨B, off + k * 2, none⟩ = some (.int .i64 c) ∧ (u13.alloc (.cells #[.int .i64 c, .slice (some ⟨g', 0, none⟩) at_.length cap'] 82)).cell? ⟨B, off + k * 2 + 1, none⟩ = some (.slice qa at_.length ca) := ⟨CP.out.p.cell 0 _ rfl, cell_below b15 hH2.1, cell_below b15 hH2.2⟩
    have hH3 := hHeld.2
    clear hH2 b15
    have hH2 := hH3
    clear hH3
    refine hK.out _ _ (fun _ => hHeld) ?_
    clear hK K
    try simp only [Act.put, gA, gS, gZ, sA, List.set]
    generalize u13.alloc (.cells #[.int .i64 c, .slice (some ⟨g', 0, none⟩) at_.length cap'] 82) = U15 at CP hW IT AD hHeld hH2 ⊢
    refine Phase.ready (rs := [16]) (by kernel_rfl) (by simp) ?_
    refine Phase.AllQ.cons rfl (fun K hK => ?_) Phase.AllQ.nil
    rw [if_pos (by kernel_rfl)]
    refine wp_pushM (.tmp 13) (.tmp 27) rfl (w.heap.size + 2) (.slice vq k vc) cs rfl CP.out.own (by have := CP.out.p.lt; omega) ⟨u13.heap.size, 0, none⟩ c (some ⟨g', 0, none⟩) at_.length cap' rfl (by rw [Go.WideShapes.add_plain]; exact AD.out.cell 0 _ rfl) (by rw [Go.WideShapes.add_plain]; exact AD.out.cell 1 _ rfl) (by rw [CP.out.len]; omega) ?_
    intro G cap16 u16 hO16 hgr
    rw [CP.out.len] at hO16 ⊢
    obtain ⟨T, hT, hTl, _, _⟩ := ownBlock_turn CP.out.own hgr
    have NX := hide (CP.out.next (x := (c, at_)) EX.out LG.out hW.out IT.out (by have := LW.out; have := WL2.out; omega) hO16 hgr)
    have PB := CP.out.p.turn hT (by omega)
    have p0 := PB.cell 0 _ rfl
    have f0 := PB.soft 0
    clear hHeld
    have hHeld : u16.cell? ⟨w.heap.size + 1, 0, none⟩ = some (.slice vq k vc) ∧ u16.cell? ⟨B, off + k * 2, none⟩ = some (.int .i64 c) ∧ u16.cell? ⟨B, off + k * 2 + 1, none⟩ = some (.slice qa at_.length ca) := ⟨p0, (hT.cell (p := ⟨B, off + k * 2, none⟩) (World.block_lt_of_cell? U15 _ hH2.1) (by have := BN.out; show B ≠ T; omega)).trans hH2.1, (hT.cell (p := ⟨B, off + k * 2 + 1, none⟩) (World.block_lt_of_cell? U15 _ hH2.2) (by have := BN.out; show B ≠ T; omega)).trans hH2.2⟩
    refine hK.out _ _ (fun _ => hHeld) ?_
    clear hK K
    try simp only [Act.put, gA, gS, gZ, sA, List.set]
    simp only [] at NX
    clear hHeld hH2 hT hTl hgr hO16 CP PB hW IT AD
    refine Phase.takeW (i := 17) (v := ?_) rfl (by omega) (by kernel_rfl) (by kernel_rfl) (by kernel_rfl) (fun _ _ _ h => h) (Or.inl ⟨by kernel_rfl, ?_⟩) ?_
    rotate_left
    · intro w' _
      go_simp
      first | done | with_reducible rfl
    try simp only [Act.put, gA, gS, gZ, sA, List.set]
    refine Phase.ready (rs := [18]) (by kernel_rfl) (by simp) ?_
    refine Phase.AllQ.cons rfl (fun K hK => ?_) Phase.AllQ.nil
    go_simp
    refine hK.out _ _ (fun h => absurd h (by omega)) ?_
    clear hK K p0 f0
    try simp only [Act.put, gA, gS, gZ, sA, List.set]
    refine Phase.done (by kernel_rfl) ?_ _
    generalize u16.setCell ⟨w.heap.size + 1, 0, none⟩ (.slice (some ⟨G, 0, none⟩) (k + 1) cap16) = U18 at NX ⊢
    have NE : Hid (∃ vq vc cs g cp, CopyP w ps (k + 1) vq vc cs g cp U18) := ⟨_, _, _, _, _, NX.out⟩
    clear NX
    go_wp2
    exact ⟨⟨k + 1, by omega, by go_num, NE⟩, by simp [intOf]; omega⟩
end Go.Proofs.YtggilenddbobnaaGreat.Pol
namespace Go.Proofs.YtggilenddbobnaaGreat.Pol
open Go.ChangeShapes Go.WideShapes Go.ChangeAt Go.RowKit IntS
def scaleL (n : Int) : List Mono → List Mono
 | [] => []
 | x :: r => if 0 < x.1 * n % 65536 then (x.1 * n % 65536, x.2) :: scaleL n r else scaleL n r
def scaleP (ps : List Mono) (n : Int) : List Mono := if okP ps = true ∧ Wrd.wok n = true then scaleL n ps else []
theorem scale_no {ps : List Mono} {n : Int} (h : ¬ (okP ps = true ∧ Wrd.wok n = true)) : scaleP ps n = [] := if_neg h
theorem scale_yes {ps : List Mono} {n : Int} (h1 : okP ps = true) (h2 : Wrd.wok n = true) : scaleP ps n = scaleL n ps := if_pos ⟨h1, h2⟩
theorem scale_keep {ps : List Mono} {n : Int} {k : Nat} {x : Mono} (h : ps[k]? = some x) (hc : 0 < x.1 * n % 65536) : scaleL n (ps.drop k) = (x.1 * n % 65536, x.2) :: scaleL n (ps.drop (k + 1)) := by rw [drop_cons h, scaleL, if_pos hc]
theorem scale_drop {ps : List Mono} {n : Int} {k : Nat} {x : Mono} (h : ps[k]? = some x) (hc : ¬ 0 < x.1 * n % 65536) : scaleL n (ps.drop k) = scaleL n (ps.drop (k + 1)) := by rw [drop_cons h, scaleL, if_neg hc]
theorem scale_end {ps : List Mono} {n : Int} {k : Nat} (h : ps.length ≤ k) : scaleL n (ps.drop k) = [] := by rw [List.drop_eq_nil_of_le h]; rfl
theorem scale_mem {n : Int} : ∀ (ps : List Mono) (x : Mono), x ∈ scaleL n ps → ∃ y ∈ ps, x.2 = y.2
 | [], x, h => by simp [scaleL] at h
 | y :: r, x, h => by
  rw [scaleL] at h
  split at h
  · rcases List.mem_cons.1 h with rfl | h
    · exact ⟨y, List.mem_cons_self .., rfl⟩
    · obtain ⟨z, hz, e⟩ := scale_mem r x h
      exact ⟨z, List.mem_cons_of_mem _ hz, e⟩
  · obtain ⟨z, hz, e⟩ := scale_mem r x h
    exact ⟨z, List.mem_cons_of_mem _ hz, e⟩
theorem scale_len {n : Int} : ∀ ps : List Mono, (scaleL n ps).length ≤ ps.length
 | [] => Nat.le_refl _
 | y :: r => by
  rw [scaleL]
  split
  · simp; exact scale_len r
  · exact Nat.le_trans (scale_len r) (by simp)
theorem ok_len {ps : List Mono} (h : okP ps = true) : ps.length ≤ 12 := by
 unfold okP at h
 simp only [Bool.and_eq_true] at h
 exact of_decide_eq_true h.1
theorem ok_atoms {ps : List Mono} (h : okP ps = true) {x : Mono} (hx : x ∈ ps) : x.2.length ≤ 4 := by
 obtain ⟨k, hk⟩ := List.getElem?_of_mem hx
 unfold okP at h
 simp only [Bool.and_eq_true] at h
 have := all_at h.2 (List.getElem?_eq_some_iff.1 hk).1
 unfold partAt at this
 simp only [Bool.and_eq_true] at this
 rw [getD_part hk] at this
 have h2 := this.1
 unfold monoB at h2
 simp only [Bool.and_eq_true] at h2
 exact of_decide_eq_true h2.1.2
/-- A slice of parts that the call made; their atoms are the argument's own lists. -/
structure ShareP (w : World) (lo : Nat) (L : List Mono) (vq : Option Addr) (vc : Nat) (cs : List (Int × Value)) (u : World) : Prop where
 own : OwnM u lo (.slice vq L.length vc) cs
 len : cs.length = L.length
 rows : ∀ (i : Nat) x, L[i]? = some x → ∃ s b, cs[i]? = some (x.1, s) ∧ Row w b s x.2
 bw : Below w.heap.size w u
 lo1 : w.heap.size ≤ lo
 lo2 : lo ≤ u.heap.size
theorem ShareP.below {w u u' : World} {lo : Nat} {L : List Mono} {vq : Option Addr} {vc : Nat} {cs : List (Int × Value)} (h : ShareP w lo L vq vc cs u) (hb : Below u.heap.size u u') : ShareP w lo L vq vc cs u' :=
 ⟨h.own.below hb, h.len, h.rows, h.bw.trans (hb.mono h.bw.size), h.lo1, Nat.le_trans h.lo2 hb.size⟩
theorem ShareP.read {w u : World} {lo : Nat} {L : List Mono} {vq : Option Addr} {vc : Nat} {cs : List (Int × Value)} (h : ShareP w lo L vq vc cs u) : ∃ B, PRow u B (.slice vq L.length vc) L := by
 by_cases hn : (Value.slice vq L.length vc) = .slice none 0 0
 · injection hn with e1 e2 e3
   subst e1 e3
   exact ⟨0, none, 0, 0, rfl, by omega, by unfold maxLen; omega, fun _ => rfl, Or.inl (List.length_eq_zero_iff.1 e2)⟩
 · obtain ⟨G, cap, e⟩ := h.own.form hn
   rw [h.len] at e
   injection e with e1 _ e3
   subst e1 e3
   obtain ⟨_, hc, hm, hb, hI, hcells, hsoft⟩ := h.own.cells
   refine ⟨G, some ⟨G, 0, none⟩, vc, 0, rfl, hc, hm, (fun h => by cases h), Or.inr ⟨rfl, fun i x hx => ?_⟩⟩
   obtain ⟨s, b, k1, k2⟩ := h.rows i x hx
   obtain ⟨c1, c2⟩ := hcells i _ k1
   rw [Nat.zero_add]
   exact ⟨c1, s, b, c2, k2.below h.bw⟩
theorem ShareP.next {w u u' : World} {lo : Nat} {L : List Mono} {vq : Option Addr} {vc G cap b m k : Nat} {cs : List (Int × Value)} {c : Int} {xs : List Int} {q : Option Addr} (h : ShareP w lo L vq vc cs u) (hr : Row w b (.slice q m k) xs)
 (ho : OwnM u' lo (.slice (some ⟨G, 0, none⟩) (cs.length + 1) cap) (cs ++ [(c, .slice q m k)])) (hg : u.grownBy u' (Value.slice vq L.length vc).ownBlock) : ShareP w lo (L ++ [(c, xs)]) (some ⟨G, 0, none⟩) cap (cs ++ [(c, .slice q m k)]) u' := by
 obtain ⟨T, ht, hT, _, _⟩ := ownBlock_turn h.own hg
 have := h.lo1
 refine ⟨by rw [List.length_append, ← h.len]; exact ho, by simp [h.len], fun i x hx => ?_, h.bw.trans (ht.below (by omega) h.bw.size), h.lo1, Nat.le_trans h.lo2 ht.size⟩
 by_cases e : i < L.length
 · rw [List.getElem?_append_left e] at hx
   obtain ⟨s, b2, k1, k2⟩ := h.rows i x hx
   exact ⟨s, b2, by rw [List.getElem?_append_left (by rw [h.len]; exact e)]; exact k1, k2⟩
 · have hi : i = L.length := by
    have := (List.getElem?_eq_some_iff.1 hx).1
    simp at this
    omega
   subst hi
   rw [List.getElem?_append_right (Nat.le_refl _), Nat.sub_self] at hx
   obtain rfl := Option.some.inj (show some (c, xs) = some x from hx)
   exact ⟨.slice q m k, b, by rw [← h.len, List.getElem?_append_right (Nat.le_refl _), Nat.sub_self]; rfl, hr⟩
theorem share_new {w u : World} (hb : Below w.heap.size w u) : ShareP w u.heap.size [] (some ⟨u.heap.size, 0, none⟩) 0 [] (u.alloc (.cells #[] 82)) :=
 ⟨⟨rfl, Or.inr ⟨u.heap.size, 0, #[], rfl, Nat.le_refl _, (MapKept.heap_alloc u _).1, Nat.le_refl _, by unfold maxLen; omega, rfl, rfl⟩⟩, rfl, fun i x hx => by simp at hx, hb.alloc hb.size _, hb.size, by simp⟩
set_option maxRecDepth 8000 in
set_option maxHeartbeats 8000000 in
theorem specScale (ps : List Mono) (m : Int) (B : Nat) (v : Value) (w : World) (h : PRow w B v ps) :
 Calls Tryz.prog 79 #[.agg #[v], .int .i64 m] w fun e w' => ∃ a l c, e = .returned (.agg #[.slice a l c]) ∧ WPoly w' w.heap.size w'.heap.size (.slice a l c) (scaleP ps m) ∧ Below w.heap.size w w' := by
 have bV : Below w.heap.size w ((w.alloc (.cells #[v] 35)).alloc (.cells #[.slice none 0 0] 35)) := ((Below.refl _ _).alloc (Nat.le_refl _) _).alloc (by simp) _
 have R0 := Rec.new (w.alloc (.cells #[v] 35)) [.slice none 0 0] 35
 rw [show (w.alloc (.cells #[v] 35)).heap.size = w.heap.size + 1 by simp] at R0
 have RR := hide R0
 have AA := hide ((Rec.new w [v] 35).alloc (.cells #[.slice none 0 0] 35))
 have H := hide (h.below bV)
 have HW := hide h
 have BW := hide bV
 obtain ⟨a, cap, off, rfl, h2, h3, _, h4⟩ := h
 unfold maxLen at h3
 clear bV R0
 obtain ⟨R, eR⟩ : ∃ R, scaleP ps m = R := ⟨_, rfl⟩
 rw [eR]
 have ER := hide eR
 clear eR
 go_enter Tryz.func79, Tryz.ntmps79
 go_wp2_with fail
 generalize ((w.alloc (.cells #[.slice a ps.length cap] 35)).alloc (.cells #[.slice none 0 0] 35)) = V0 at RR AA H BW ⊢
 have a0 := AA.out.cell 0 _ rfl
 go_wp2_with fail
 refine (specOk ps B _ _ H.out).mono ?_
 rintro e V ⟨rfl, hb⟩
 replace RR := hide (RR.out.below hb)
 replace AA := hide (AA.out.below hb)
 replace BW := hide (BW.out.trans (hb.mono BW.out.size))
 clear hb a0 H
 cases ok : okP ps with
 | false =>
  have HD : Hid (R = []) := ER.out.symm.trans (scale_no (fun h => by rw [ok] at h; exact absurd h.1 (by decide)))
  have r0 := RR.out.cell 0 _ rfl
  have s0 := RR.out.soft 0
  clear ok
  have B0 := hide (BW.out.setCell (p := ⟨w.heap.size + 1, 0, none⟩) (by show w.heap.size ≤ w.heap.size + 1; omega) (.slice none 0 0))
  have Z0 := hide (RR.out.set 0 (.slice none 0 0) (by simp) rfl)
  go_wp2
  generalize V.setCell ⟨w.heap.size + 1, 0, none⟩ (.slice none 0 0) = U at B0 Z0 ⊢
  have z0 := Z0.out.cell 0 _ rfl
  exact bodyPost_ret (v := .agg #[.slice none 0 0]) (by simp [results, Tryz.results79, go_sem, z0]) rfl ⟨none, 0, 0, rfl, by rw [HD.out]; exact WPoly.nil _ _ _, B0.out⟩
 | true =>
  have OK := hide ok
  clear ok
  go_wp2_with fail
  refine (Wrd.specOk m _).mono ?_
  rintro e u ⟨rfl, rfl⟩
  cases wo : Wrd.wok m with
  | false =>
   have HD : Hid (R = []) := ER.out.symm.trans (scale_no (fun h => by rw [wo] at h; exact absurd h.2 (by decide)))
   have r0 := RR.out.cell 0 _ rfl
   have s0 := RR.out.soft 0
   clear wo
   have B0 := hide (BW.out.setCell (p := ⟨w.heap.size + 1, 0, none⟩) (by show w.heap.size ≤ w.heap.size + 1; omega) (.slice none 0 0))
   have Z0 := hide (RR.out.set 0 (.slice none 0 0) (by simp) rfl)
   go_wp2
   generalize u.setCell ⟨w.heap.size + 1, 0, none⟩ (.slice none 0 0) = U at B0 Z0 ⊢
   have z0 := Z0.out.cell 0 _ rfl
   exact bodyPost_ret (v := .agg #[.slice none 0 0]) (by simp [results, Tryz.results79, go_sem, z0]) rfl ⟨none, 0, 0, rfl, by rw [HD.out]; exact WPoly.nil _ _ _, B0.out⟩
  | true =>
   have m01 : 0 ≤ m ∧ m < 65536 := by unfold Wrd.wok at wo; exact of_decide_eq_true wo
   replace ER : Hid (scaleL m ps = R) := (scale_yes OK.out wo).symm.trans ER.out
   clear wo
   obtain ⟨n, en⟩ : ∃ n, ps.length = n := ⟨_, rfl⟩
   have EN := hide en
   have H4 := hide h4
   rw [en] at h2 AA
   rw [en]
   clear en h4 HW
   have SH := hide (share_new BW.out)
   have BU : Hid (Below u.heap.size u (u.alloc (.cells #[] 82))) := (Below.refl _ _).alloc (Nat.le_refl _) _
   have a0 := AA.out.cell 0 _ rfl
   go_wp2_with fail
   generalize u.alloc (.cells #[] 82) = U at SH BU ⊢
   clear a0
   go_wp2
   go_loopw [5, 6] (fun q i wr => ∃ (k : Nat) (L : List Mono) (vq : Option Addr) (vc : Nat) (cs : List (Int × Value)), k ≤ n ∧ i = .int .i64 k ∧ q = .slice vq L.length vc ∧ Hid (ShareP w u.heap.size L vq vc cs wr) ∧ Hid (L ++ scaleL m (ps.drop k) = R) ∧ Hid (L.length ≤ k) ∧ Hid (Below u.heap.size u wr)) (fun _ i _ => n - (intOf i).toNat)
   case atStart => exact ⟨0, [], _, _, _, by omega, rfl, rfl, SH, ER, Nat.le_refl _, BU⟩
   case round =>
    obtain ⟨k, L, vq, vc, cs, hk, rfl, rfl, HS, HL, HN, HB⟩ := hrel
    clear SH BU
    have a0 := (AA.out.below HB.out).cell 0 _ rfl
    by_cases hlt : k < n
    case neg =>
     have HR : Hid (L = R) := show _ = _ by have := HL.out; rw [scale_end (by rw [EN.out]; omega), List.append_nil] at this; exact this
     obtain ⟨BL, RL⟩ := HS.out.read
     have L1 : Hid (L.length ≤ 1000) := show _ ≤ _ by have := HN.out; have := ok_len OK.out; have := EN.out; omega
     have L2 : Hid (∀ x ∈ L, x.2.length ≤ 1000000) := fun x hx => by
      rw [HR.out, ← ER.out] at hx
      obtain ⟨y, hy, e⟩ := scale_mem ps x hx
      have := ok_atoms OK.out hy
      rw [e]
      omega
     have RL' := hide RL
     clear RL
     go_wp2_with fail
     refine (l4Copy L BL _ _ RL'.out L1.out L2.out).mono ?_
     rintro e u2 ⟨qa, ql, qc, rfl, W2, hb⟩
     have HB2 := HB.out.trans (hb.mono HB.out.size)
     have RR2 := RR.out.below HB2
     have r0 := RR2.cell 0 _ rfl
     have s0 := RR2.soft 0
     have BB := BW.out.trans (HB2.mono BW.out.size)
     have B0 := hide (BB.setCell (p := ⟨w.heap.size + 1, 0, none⟩) (by show w.heap.size ≤ w.heap.size + 1; omega) (.slice qa ql qc))
     have Z0 := hide (RR2.set 0 (.slice qa ql qc) (by simp) rfl)
     have lu := RR.out.lt
     have W3 := W2.keep (w' := u2.setCell ⟨w.heap.size + 1, 0, none⟩ (.slice qa ql qc)) (Keep.of_turn ((Turn.refl (w.heap.size + 1) u2).setCell (p := ⟨w.heap.size + 1, 0, none⟩) rfl _)) (fun b h1 _ (h2 : b = _) => by have := HB.out.size; omega)
     have W4 := hide (W3.wide (lo' := w.heap.size) (hi' := (u2.setCell ⟨w.heap.size + 1, 0, none⟩ (.slice qa ql qc)).heap.size) (by have := HB.out.size; omega) (by simp [World.setCell]))
     clear W2 W3 HB2 RR2 BB hb lu a0
     go_wp2
     generalize u2.setCell ⟨w.heap.size + 1, 0, none⟩ (.slice qa ql qc) = U2 at B0 Z0 W4 ⊢
     have z0 := Z0.out.cell 0 _ rfl
     exact bodyPost_ret (v := .agg #[.slice qa ql qc]) (by simp [results, Tryz.results79, go_sem, z0]) rfl ⟨qa, ql, qc, rfl, by rw [← HR.out]; exact W4.out, B0.out⟩
    obtain ⟨x, ex⟩ : ∃ x, ps[k]? = some x := ⟨_, List.getElem?_eq_getElem (by rw [EN.out]; exact hlt)⟩
    have hc4 := H4.out.resolve_left (fun e => by rw [e] at ex; simp at ex)
    obtain ⟨rfl, hc⟩ := hc4
    obtain ⟨c, at_⟩ := x
    obtain ⟨g1, s, b, g2, g3⟩ := hc k _ ex
    have cx := cell_below HS.out.bw g1
    have sx := cell_below HS.out.bw g2
    have RX := hide g3
    have MO := ok_atoms OK.out (List.mem_of_getElem? ex)
    obtain ⟨c0, c1⟩ : 1 ≤ c ∧ c ≤ 65535 := by
     have h := OK.out
     unfold okP at h
     simp only [Bool.and_eq_true] at h
     have := all_at h.2 (List.getElem?_eq_some_iff.1 ex).1
     unfold partAt at this
     simp only [Bool.and_eq_true] at this
     rw [getD_part ex] at this
     have h2 := this.1
     unfold monoB at h2
     simp only [Bool.and_eq_true] at h2
     exact of_decide_eq_true h2.1.1
    have KE := hide (fun h0 => scale_keep (n := m) ex h0)
    have KD := hide (fun h0 => scale_drop (n := m) ex h0)
    obtain ⟨qa, ca, _, rfl, _⟩ := g3
    simp only [] at cx sx RX KE KD
    have lk : ((k : Nat) : Int) < (n : Nat) := by omega
    have lt1 : c * m ≤ 4294967296 := by
     have : c * m ≤ 65536 * 65536 := Int.mul_le_mul (by omega) (by omega) m01.1 (by omega)
     omega
    have lt0 : 0 ≤ c * m := Int.mul_nonneg (by omega) m01.1
    clear ex g1 g2 hc MO
    go_wp2_with fail
    refine (Wrd.specWrap (c * m) _).mono ?_
    rintro e u3 ⟨rfl, rfl⟩
    have q0 : 0 ≤ c * m % 65536 ∧ c * m % 65536 < 65536 := by omega
    clear lt0 lt1
    obtain ⟨t, et⟩ : ∃ t, c * m % 65536 = t := ⟨_, rfl⟩
    rw [et] at q0 KE KD ⊢
    clear et
    by_cases hp : 0 < t
    · have HL2 := hide (show (L ++ [(t, at_)]) ++ scaleL m (ps.drop (k + 1)) = R by
       have := HL.out
       rw [KE.out hp] at this
       rw [List.append_assoc]
       exact this)
      have bX : Below u3.heap.size u3 (u3.alloc (.cells #[.int .i64 t, .slice qa at_.length ca] 82)) := (Below.refl _ _).alloc (Nat.le_refl _) _
      have SA := hide (HS.out.below bX)
      have A1 : Hid ((u3.alloc (.cells #[.int .i64 t, .slice qa at_.length ca] 82)).cell? ((⟨u3.heap.size, 0, none⟩ : Addr).add 0) = some (.int .i64 t)) := show _ = _ by
       rw [Go.WideShapes.add_plain, World.cell?_alloc_new]
       rfl
      have A2 : Hid ((u3.alloc (.cells #[.int .i64 t, .slice qa at_.length ca] 82)).cell? ((⟨u3.heap.size, 0, none⟩ : Addr).add 1) = some (.slice qa at_.length ca)) := show _ = _ by
       rw [Go.WideShapes.add_plain, World.cell?_alloc_new]
       rfl
      have A3 : Hid (cs.length ≤ 1000000) := show _ ≤ _ by have := HS.out.len; have := HN.out; have := ok_len OK.out; have := EN.out; omega
      have HB4 := hide (HB.out.trans (bX.mono HB.out.size))
      clear bX
      go_wp2_with (at_builtin; refine wpList_pushM rfl _ _ rfl u.heap.size (.slice vq L.length vc) cs rfl SA.out.own SA.out.lo2 ⟨u3.heap.size, 0, none⟩ t qa at_.length ca rfl A1.out A2.out A3.out ?_; intro G cap4 u4 hO hg)
      have NX := hide (SA.out.next (xs := at_) RX.out hO.out hg.out)
      obtain ⟨T, hT, hTl, _, _⟩ := ownBlock_turn SA.out.own hg.out
      have HB5 := hide (HB4.out.trans (hT.below hTl HB4.out.size))
      have LE : Hid (cs.length + 1 = (L ++ [(t, at_)]).length) := show _ = _ by rw [List.length_append, SA.out.len]; rfl
      have NL : Hid ((L ++ [(t, at_)]).length ≤ k + 1) := show _ ≤ _ by rw [List.length_append]; have := HN.out; simp; exact this
      clear hT hTl hO hg SA A1 A2 A3
      rw [LE.out]
      exact ⟨⟨k + 1, L ++ [(t, at_)], _, _, _, by omega, by go_num, rfl, NX, HL2, NL, HB5⟩, by simp [intOf]; omega⟩
    · have HL2 := hide (show L ++ scaleL m (ps.drop (k + 1)) = R by
       have := HL.out
       rw [KD.out (by omega)] at this
       exact this)
      have NL : Hid (L.length ≤ k + 1) := Nat.le_succ_of_le HN.out
      go_wp2
      exact ⟨⟨k + 1, L, vq, vc, cs, by omega, by go_num, rfl, HS, HL2, NL, HB⟩, by simp [intOf]; omega⟩
end Go.Proofs.YtggilenddbobnaaGreat.Pol
namespace Go.Proofs.YtggilenddbobnaaGreat.Pol
open Go.ChangeShapes Go.WideShapes Go.ChangeAt Go.RowKit IntS
def fitB (ps : List Mono) : Bool := decide (ps.length ≤ 12) && ps.all fun x => decide (x.2.length ≤ 4)
def fitP (ps : List Mono) : List Mono := if fitB ps = true then ps else []
theorem fit_many {ps : List Mono} (h : 12 < ps.length) : fitB ps = false ∧ fitP ps = [] := by
 have e : fitB ps = false := by unfold fitB; rw [decide_eq_false (by omega)]; rfl
 exact ⟨e, by unfold fitP; rw [e]; rfl⟩
theorem fit_high {ps : List Mono} {k : Nat} {x : Mono} (h : ps[k]? = some x) (hx : 4 < x.2.length) : fitB ps = false ∧ fitP ps = [] := by
 have e : fitB ps = false := by
  unfold fitB
  rw [show (ps.all fun x => decide (x.2.length ≤ 4)) = false from List.all_eq_false.2 ⟨x, List.mem_of_getElem? h, by simp; omega⟩, Bool.and_false]
 exact ⟨e, by unfold fitP; rw [e]; rfl⟩
theorem fit_yes {ps : List Mono} (h : ps.length ≤ 12) (hx : ∀ (i : Nat) x, i < ps.length → ps[i]? = some x → x.2.length ≤ 4) : fitB ps = true ∧ fitP ps = ps := by
 have e : fitB ps = true := by
  unfold fitB
  rw [decide_eq_true h, Bool.true_and, List.all_eq_true]
  intro x hm
  obtain ⟨k, hk⟩ := List.getElem?_of_mem hm
  exact decide_eq_true (hx k x (List.getElem?_eq_some_iff.1 hk).1 hk)
 exact ⟨e, by unfold fitP; rw [e]; rfl⟩
set_option maxRecDepth 8000 in
set_option maxHeartbeats 8000000 in
theorem l4Fit (ps : List Mono) (B : Nat) (v : Value) (w : World) (h : PRow w B v ps) :
 Calls Tryz.prog 106 #[v] w fun e w' => ∃ a l c, e = .returned (.tuple #[.agg #[.slice a l c], .bool (fitB ps)]) ∧ WPoly w' w.heap.size w'.heap.size (.slice a l c) (fitP ps) ∧ Below w.heap.size w w' := by
 have bV : Below w.heap.size w (w.alloc (.cells #[.slice none 0 0] 35)) := (Below.refl _ _).alloc (Nat.le_refl _) _
 have RR := hide (Rec.new w [.slice none 0 0] 35)
 have H := hide (h.below bV)
 have BW := hide bV
 obtain ⟨a, cap, off, rfl, h2, h3, _, h4⟩ := h
 unfold maxLen at h3
 clear bV
 obtain ⟨n, en⟩ : ∃ n, ps.length = n := ⟨_, rfl⟩
 have EN := hide en
 have H4 := hide h4
 rw [en] at h2 H
 rw [en]
 clear en h4
 obtain ⟨R, eR⟩ : ∃ R, fitP ps = R := ⟨_, rfl⟩
 obtain ⟨T, eT⟩ : ∃ T, fitB ps = T := ⟨_, rfl⟩
 rw [eR, eT]
 have ER := hide eR
 have ET := hide eT
 clear eR eT
 by_cases n12 : 12 < n
 · have hf := fit_many (ps := ps) (by rw [EN.out]; exact n12)
   have HR := hide (ER.out.symm.trans hf.2)
   obtain rfl := ET.out.symm.trans hf.1
   clear hf ET ER
   have q : (12 : Int) < (n : Nat) := by omega
   go_enter Tryz.func106, Tryz.ntmps106
   go_wp2
   exact bodyPost_ret (v := .tuple #[.agg #[.slice none 0 0], .bool false]) (by simp [results, Tryz.results106, go_sem]) rfl ⟨none, 0, 0, rfl, by rw [HR.out]; exact WPoly.nil _ _ _, BW.out⟩
 · have q : ¬ (12 : Int) < (n : Nat) := by omega
   go_enter Tryz.func106, Tryz.ntmps106
   go_wp2
   generalize w.alloc (.cells #[.slice none 0 0] 35) = V at RR H BW ⊢
   have r0 := RR.out.cell 0 _ rfl
   have s0 := RR.out.soft 0
   have B0 := hide (BW.out.setCell (p := ⟨w.heap.size, 0, none⟩) (Nat.le_refl _) (.slice none 0 0))
   have Z0 := hide (RR.out.set 0 (.slice none 0 0) (by simp) rfl)
   go_loopw [4] (fun i wr => ∃ k : Nat, k ≤ n ∧ i = .int .i64 k ∧ wr = V ∧ Hid (∀ (j : Nat) x, j < k → ps[j]? = some x → x.2.length ≤ 4)) (fun i _ => n - (intOf i).toNat)
   case atStart => exact ⟨0, by omega, rfl, rfl, fun j x hj => by omega⟩
   case round =>
    obtain ⟨k, hk, rfl, rfl, HK⟩ := hrel
    by_cases hlt : k < n
    case neg =>
     obtain rfl : k = n := by omega
     have hf := fit_yes (ps := ps) (by rw [EN.out]; omega) (by rw [EN.out]; exact HK.out)
     have HR := hide (ER.out.symm.trans hf.2)
     obtain rfl := ET.out.symm.trans hf.1
     clear hf ET ER
     have L1 : Hid (ps.length ≤ 1000) := show _ ≤ _ by rw [EN.out]; omega
     have L2 : Hid (∀ x ∈ ps, x.2.length ≤ 1000000) := fun x hx => by
      obtain ⟨j, hj⟩ := List.getElem?_of_mem hx
      have := HK.out j x (by rw [← EN.out]; exact (List.getElem?_eq_some_iff.1 hj).1) hj
      omega
     clear B0 Z0 r0 s0
     go_wp2_with fail
     refine (l4Copy ps B _ _ H.out L1.out L2.out).mono ?_
     rintro e u2 ⟨qa, ql, qc, rfl, W2, hb⟩
     have RR2 := RR.out.below hb
     have r0 := RR2.cell 0 _ rfl
     have s0 := RR2.soft 0
     have BB := BW.out.trans (hb.mono BW.out.size)
     have B0 := hide (BB.setCell (p := ⟨w.heap.size, 0, none⟩) (Nat.le_refl _) (.slice qa ql qc))
     have Z0 := hide (RR2.set 0 (.slice qa ql qc) (by simp) rfl)
     have lu := RR.out.lt
     have W3 := W2.keep (w' := u2.setCell ⟨w.heap.size, 0, none⟩ (.slice qa ql qc)) (Keep.of_turn ((Turn.refl w.heap.size u2).setCell (p := ⟨w.heap.size, 0, none⟩) rfl _)) (fun b h1 _ (h2 : b = _) => by omega)
     have W4 := hide (W3.wide (lo' := w.heap.size) (hi' := (u2.setCell ⟨w.heap.size, 0, none⟩ (.slice qa ql qc)).heap.size) (by omega) (by simp [World.setCell]))
     clear W2 W3 RR2 BB hb lu
     go_wp2
     generalize u2.setCell ⟨w.heap.size, 0, none⟩ (.slice qa ql qc) = U2 at B0 Z0 W4 ⊢
     have z0 := Z0.out.cell 0 _ rfl
     exact bodyPost_ret (v := .tuple #[.agg #[.slice qa ql qc], .bool true]) (by simp [results, Tryz.results106, go_sem, z0]) rfl ⟨qa, ql, qc, rfl, by rw [HR.out]; exact W4.out, B0.out⟩
    obtain ⟨x, ex⟩ : ∃ x, ps[k]? = some x := ⟨_, List.getElem?_eq_getElem (by rw [EN.out]; exact hlt)⟩
    have hc4 := H4.out.resolve_left (fun e => by rw [e] at ex; simp at ex)
    obtain ⟨rfl, hc⟩ := hc4
    obtain ⟨c, at_⟩ := x
    obtain ⟨g1, s, b, g2, g3⟩ := hc k _ ex
    have sx := cell_below BW.out g2
    obtain ⟨qa, ca, _, rfl, l2, l3, _⟩ := g3
    simp only [] at sx l2 l3
    unfold maxLen at l3
    have lk : ((k : Nat) : Int) < (n : Nat) := by omega
    by_cases hp : 4 < at_.length
    · have hf := fit_high (x := (c, at_)) ex hp
      have HR := hide (ER.out.symm.trans hf.2)
      obtain rfl := ET.out.symm.trans hf.1
      have q4 : (4 : Int) < (at_.length : Nat) := by omega
      clear hf ET ER ex g1 g2 hc
      go_wp2
      generalize wr.setCell ⟨w.heap.size, 0, none⟩ (.slice none 0 0) = U at B0 Z0 ⊢
      have z0 := Z0.out.cell 0 _ rfl
      exact bodyPost_ret (v := .tuple #[.agg #[.slice none 0 0], .bool false]) (by simp [results, Tryz.results106, go_sem, z0]) rfl ⟨none, 0, 0, rfl, by rw [HR.out]; exact WPoly.nil _ _ _, B0.out⟩
    · have q4 : ¬ (4 : Int) < (at_.length : Nat) := by omega
      have HK2 : Hid (∀ (j : Nat) x, j < k + 1 → ps[j]? = some x → x.2.length ≤ 4) := fun j y hj hy => by
       by_cases e : j < k
       · exact HK.out j y e hy
       · obtain rfl : j = k := by omega
         rw [ex] at hy
         obtain rfl := Option.some.inj hy
         show at_.length ≤ 4
         omega
      clear ex g1 g2 hc
      go_wp2
      exact ⟨⟨k + 1, by omega, by go_num, trivial, HK2⟩, by simp [intOf]; omega⟩
end Go.Proofs.YtggilenddbobnaaGreat.Pol
