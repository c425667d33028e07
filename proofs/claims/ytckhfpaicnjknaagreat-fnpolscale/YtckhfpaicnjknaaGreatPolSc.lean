/-
  A sum so many times: the program's PolScale.
-/
import Derived.Test.YtckhfpaicnjknaaGreatPolEs
namespace Go.Proofs.YtckhfpaicnjknaaGreat.Pol
set_option linter.unusedVariables false
open Go.ChangeShapes Go.WideShapes Go.ChangeAt Go.RowKit Go.Shelf IntS Rng
set_option maxRecDepth 8000 in
set_option maxHeartbeats 2000000 in
theorem implScale (ps : List Mono) (m : Int) (B : Nat) (v : Value) (w : World) (h : PRow w B v ps) :
    Calls Tryz.prog 13 #[.agg #[v], .int .i64 m] w fun e w' => ∃ a l c, e = .returned (.agg #[.slice a l c]) ∧ WPoly w' w.heap.size w'.heap.size (.slice a l c) (scaleP ps m) ∧ Below w.heap.size w w' := by
  have bV : Below w.heap.size w ((w.alloc (.cells #[v] 25)).alloc (.cells #[.slice none 0 0] 25)) := ((Below.refl _ _).alloc (Nat.le_refl _) _).alloc (by simp) _
  have R0 := Rec.new (w.alloc (.cells #[v] 25)) [.slice none 0 0] 25
  rw [show (w.alloc (.cells #[v] 25)).heap.size = w.heap.size + 1 by simp] at R0
  have RR := hide R0
  have AA := hide ((Rec.new w [v] 25).alloc (.cells #[.slice none 0 0] 25))
  have H := hide (h.below bV)
  have HW := hide h
  have BW := hide bV
  obtain ⟨a, cap, off, rfl, h2, h3, _, h4⟩ := h
  unfold maxLen at h3
  clear bV R0
  obtain ⟨R, eR⟩ : ∃ R, scaleP ps m = R := ⟨_, rfl⟩
  rw [eR]
  have ER := hide eR
  clear eR
  go_enter Tryz.func13, Tryz.ntmps13
  go_wp2_with fail
  generalize ((w.alloc (.cells #[.slice a ps.length cap] 25)).alloc (.cells #[.slice none 0 0] 25)) = V0 at RR AA H BW ⊢
  have a0 := AA.out.cell 0 _ rfl
  go_wp2_with fail
  refine (implOk ps B _ _ H.out).mono ?_
  rintro e V ⟨rfl, hb⟩
  replace RR := hide (RR.out.below hb)
  replace AA := hide (AA.out.below hb)
  replace BW := hide (BW.out.trans (hb.mono BW.out.size))
  clear hb a0 H
  cases ok : okP ps with
  | false =>
    have HD : Hid (R = []) := ER.out.symm.trans (scale_no (fun h => by rw [ok] at h; exact absurd h.1 (by decide)))
    have r0 := RR.out.cell 0 _ rfl
    have s0 := RR.out.soft 0
    clear ok
    have B0 := hide (BW.out.setCell (p := ⟨w.heap.size + 1, 0, none⟩) (by show w.heap.size ≤ w.heap.size + 1; omega) (.slice none 0 0))
    have Z0 := hide (RR.out.set 0 (.slice none 0 0) (by simp) rfl)
    go_wp2
    generalize V.setCell ⟨w.heap.size + 1, 0, none⟩ (.slice none 0 0) = U at B0 Z0 ⊢
    have z0 := Z0.out.cell 0 _ rfl
    exact bodyPost_ret (v := .agg #[.slice none 0 0]) (by simp [results, Tryz.results13, go_sem, z0]) rfl ⟨none, 0, 0, rfl, by rw [HD.out]; exact WPoly.nil _ _ _, B0.out⟩
  | true =>
    have OK := hide ok
    clear ok
    go_wp2_with fail
    refine (Wrd.implOk m _).mono ?_
    rintro e u ⟨rfl, rfl⟩
    cases wo : Wrd.wok m with
    | false =>
      have HD : Hid (R = []) := ER.out.symm.trans (scale_no (fun h => by rw [wo] at h; exact absurd h.2 (by decide)))
      have r0 := RR.out.cell 0 _ rfl
      have s0 := RR.out.soft 0
      clear wo
      have B0 := hide (BW.out.setCell (p := ⟨w.heap.size + 1, 0, none⟩) (by show w.heap.size ≤ w.heap.size + 1; omega) (.slice none 0 0))
      have Z0 := hide (RR.out.set 0 (.slice none 0 0) (by simp) rfl)
      go_wp2
      generalize u.setCell ⟨w.heap.size + 1, 0, none⟩ (.slice none 0 0) = U at B0 Z0 ⊢
      have z0 := Z0.out.cell 0 _ rfl
      exact bodyPost_ret (v := .agg #[.slice none 0 0]) (by simp [results, Tryz.results13, go_sem, z0]) rfl ⟨none, 0, 0, rfl, by rw [HD.out]; exact WPoly.nil _ _ _, B0.out⟩
    | true =>
      have m01 : 0 ≤ m ∧ m < 65536 := of_decide_eq_true wo
      have GD := hide (ok_good OK.out)
      have ER2 : Hid (scaleL m ps = R) := (scale_yes OK.out wo).symm.trans ER.out
      clear wo
      have MP := hide (map_new u)
      have a0 := (AA.out.below ((Below.refl _ u).alloc (Nat.le_refl _) (.map #[] 0))).cell 0 _ rfl
      have hmm := @run_makeMap Tryz.prog
      -- GEN54
      go_wp2_with fail
      have BU := hide ((Below.refl _ u).alloc (Nat.le_refl _) (.map #[] 0))
      have UL : Hid (u.heap.size < (u.alloc (.map #[] 0)).heap.size) := show _ < _ by simp
      obtain ⟨b, eb⟩ : ∃ b, u.heap.size = b := ⟨_, rfl⟩
      rw [eb] at MP UL BU ⊢
      have EB := hide eb
      generalize u.alloc (.map #[] 0) = U at MP BU UL ⊢
      clear a0 hmm eb
      obtain ⟨n, en⟩ : ∃ n, ps.length = n := ⟨_, rfl⟩
      have EN := hide en
      have H4 := hide h4
      rw [en] at h2
      rw [en]
      clear en h4
      go_loopw [23] (fun i wr => ∃ (k : Nat), k ≤ n ∧ i = .int .i64 k ∧ Hid (MapOf wr b (scaleE m (ps.take k))) ∧ Hid (Below b u wr)) (fun i _ => n - (intOf i).toNat)
      case atStart => exact ⟨0, by omega, rfl, MP, BU⟩
      case round =>
        obtain ⟨k, hk, rfl, HM, HB⟩ := hrel
        clear MP BU
        have n12 : Hid (n ≤ 12) := show _ ≤ _ by have := GD.out.many; rw [EN.out] at this; exact this
        by_cases hlt : k < n
        case neg =>
          obtain rfl : k = n := by omega
          have ek : ps.take k = ps := by rw [← EN.out, List.take_length]
          have HM2 := HM.out
          rw [ek] at HM2
          have C := hide (told (scaleE m ps) (scaleL m ps) b wr HM2 (told_scale GD.out) (by unfold scaleE; rw [List.length_map, EN.out]; have := n12.out; omega) (fun x hx => by
            obtain ⟨y, hy, rfl⟩ := List.mem_map.1 hx
            have := GD.out.four y hy
            simp only []
            omega))
          rw [(scale_fit GD.out).1, (scale_fit GD.out).2, ER2.out] at C
          clear HM HM2 ek
          go_wp2_with fail
          refine C.out.mono ?_
          rintro e u2 ⟨qa, ql, qc, rfl, W2, hb⟩
          have B1 := hide (BW.out.trans (HB.out.mono (by rw [← EB.out]; exact BW.out.size)))
          have HB2 := hide (B1.out.trans (hb.mono B1.out.size))
          have lu : Hid (w.heap.size + 1 < b) := show _ < _ by rw [← EB.out]; exact RR.out.lt
          have lw : Hid (b ≤ wr.heap.size) := show _ ≤ _ by have := HB.out.size; rw [EB.out] at this; exact this
          have R2 : Hid (Rec (w.heap.size + 1) [.slice none 0 0] u2) := by
            have t1 : Rec (w.heap.size + 1) [.slice none 0 0] wr := ⟨by have := lu.out; have := lw.out; omega, fun i v hv => (HB.out.cell (p := ⟨w.heap.size + 1, i, none⟩) lu.out).trans (RR.out.cell i v hv), fun i => (HB.out.frozen (p := ⟨w.heap.size + 1, i, none⟩) lu.out).trans (RR.out.soft i)⟩
            exact t1.below hb
          have bx := (Below.refl _ u2).alloc (Nat.le_refl _) (.cells #[.slice qa ql qc] 25)
          have R3 := hide (R2.out.below bx)
          have W3 := hide (W2.below bx)
          have B3 := hide (HB2.out.trans (bx.mono HB2.out.size))
          have r0 := R3.out.cell 0 _ rfl
          have s0 := R3.out.soft 0
          have sz : Hid (u2.heap.size ≤ (u2.alloc (.cells #[.slice qa ql qc] 25)).heap.size) := bx.size
          have B4 := hide (B3.out.setCell (p := ⟨w.heap.size + 1, 0, none⟩) (by show w.heap.size ≤ w.heap.size + 1; omega) (.slice qa ql qc))
          have Z0 := hide (R3.out.set 0 (.slice qa ql qc) (by simp) rfl)
          have W4 := W3.out.keep (w' := (u2.alloc (.cells #[.slice qa ql qc] 25)).setCell ⟨w.heap.size + 1, 0, none⟩ (.slice qa ql qc)) (Keep.of_turn ((Turn.refl (w.heap.size + 1) _).setCell (p := ⟨w.heap.size + 1, 0, none⟩) rfl _)) (fun b' h1 _ (h2 : b' = _) => by have := lu.out; have := lw.out; omega)
          have W5 := hide (W4.wide (lo' := w.heap.size) (hi' := ((u2.alloc (.cells #[.slice qa ql qc] 25)).setCell ⟨w.heap.size + 1, 0, none⟩ (.slice qa ql qc)).heap.size) (by have := lu.out; have := lw.out; omega) (by simp [World.setCell]))
          clear C W2 hb R2 HB2 B1 bx W3 W4 B3 lu lw
          go_wp2
          generalize (u2.alloc (.cells #[.slice qa ql qc] 25)).setCell ⟨w.heap.size + 1, 0, none⟩ (.slice qa ql qc) = U2 at B4 Z0 W5 ⊢
          have z0 := Z0.out.cell 0 _ rfl
          exact bodyPost_ret (v := .agg #[.slice qa ql qc]) (by simp [results, Tryz.results13, go_sem, z0]) rfl ⟨qa, ql, qc, rfl, W5.out, B4.out⟩
        obtain ⟨x, ex⟩ : ∃ x, ps[k]? = some x := ⟨_, List.getElem?_eq_getElem (by rw [EN.out]; exact hlt)⟩
        have hc4 := H4.out.resolve_left (fun e => by rw [e] at ex; simp at ex)
        obtain ⟨rfl, hc⟩ := hc4
        obtain ⟨c, at_⟩ := x
        obtain ⟨g1, s, bx, g2, g3⟩ := hc k _ ex
        have BR : Below w.heap.size w wr := BW.out.trans (HB.out.mono (by rw [← EB.out]; exact BW.out.size))
        have cx := cell_below BR g1
        have sx := cell_below BR g2
        have RX := hide (g3.below BR)
        have xm := List.mem_of_getElem? ex
        have MF : Hid ((0 < c ∧ c < 65536) ∧ at_.length ≤ 4 ∧ (∀ a ∈ at_, 0 ≤ a ∧ a < 200) ∧ Srt.sortI at_ = at_) := ⟨(GD.out.fine _ xm).2, GD.out.four _ xm, GD.out.at_ _ xm, sort_self (GD.out.ris _ xm)⟩
        have ES : Hid (scaleE m (ps.take k) ++ [(c * m % 65536, at_)] = scaleE m (ps.take (k + 1))) := show _ = _ by
          unfold scaleE
          rw [List.take_add_one, ex, List.map_append]
          rfl
        obtain ⟨qa, ca, _, rfl, _⟩ := g3
        simp only [] at cx sx RX
        have lk : ((k : Nat) : Int) < (n : Nat) := by omega
        have lb : Hid (b < wr.heap.size) := HM.out.lt
        clear ex g1 g2 hc xm BR
        go_wp2_with fail
        refine (wpIn_wide (n := 0)).1 ?_
        refine PhaseIn.region (S := fun w' => w'.cell? ⟨wr.heap.size, 0, none⟩ = some (.int .i64 c) ∧ w'.cell? ⟨wr.heap.size, 1, none⟩ = some (.slice qa at_.length ca)) 7 (by kernel_rfl) ?_
        have bA : Below wr.heap.size wr (wr.alloc (.cells #[.int .i64 c, .slice qa at_.length ca] 55)).drew := ((Below.refl _ wr).alloc (Nat.le_refl _) _).drew
        have hHeld : (wr.alloc (.cells #[.int .i64 c, .slice qa at_.length ca] 55)).drew.cell? ⟨wr.heap.size, 0, none⟩ = some (.int .i64 c) ∧ (wr.alloc (.cells #[.int .i64 c, .slice qa at_.length ca] 55)).drew.cell? ⟨wr.heap.size, 1, none⟩ = some (.slice qa at_.length ca) := by
          constructor <;> (show (wr.alloc _).cell? _ = _; rw [World.cell?_alloc_new]; rfl)
        have HM2 := hide (HM.out.below bA)
        have RX2 := hide (RX.out.below bA)
        have HB2 : Hid (Below b u (wr.alloc (.cells #[.int .i64 c, .slice qa at_.length ca] 55)).drew) := HB.out.trans (bA.mono (by have := lb.out; omega))
        generalize (wr.alloc (.cells #[.int .i64 c, .slice qa at_.length ca] 55)).drew = wd at hHeld HM2 RX2 HB2 ⊢
        clear HM RX HB cx sx bA
        refine PhaseIn.takeD (i := 0) (v := ?_) [0, 7] 27 rfl (by rfl) (by kernel_rfl) (by kernel_rfl) (by kernel_rfl) (by kernel_rfl) (by kernel_rfl) (fun _ _ _ h => h) (Or.inl ⟨by kernel_rfl, ?_⟩) hHeld ?_
        rotate_left
        · intro w' hSw
          (try dsimp only at hSw)
          go_simp
          first | done | with_reducible rfl
        try simp only [Act.put, List.setIfInBounds_toArray, List.set]
        refine PhaseIn.takeD (i := 1) (v := ?_) [1, 2, 4, 7] 28 rfl (by rfl) (by kernel_rfl) (by kernel_rfl) (by kernel_rfl) (by kernel_rfl) (by kernel_rfl) (fun _ _ _ h => h) (Or.inl ⟨by kernel_rfl, ?_⟩) hHeld ?_
        rotate_left
        · intro w' hSw
          (try dsimp only at hSw)
          go_simp
          first | done | with_reducible rfl
        try simp only [Act.put, List.setIfInBounds_toArray, List.set]
        refine PhaseIn.takeD (i := 2) (v := ?_) [2, 4, 7] 29 rfl (by rfl) (by kernel_rfl) (by kernel_rfl) (by kernel_rfl) (by kernel_rfl) (by kernel_rfl) (fun _ _ _ h => h) (Or.inl ⟨by kernel_rfl, ?_⟩) hHeld ?_
        rotate_left
        · intro w' hSw
          (try dsimp only at hSw)
          go_simp
          first | done | with_reducible rfl
        try simp only [Act.put, List.setIfInBounds_toArray, List.set]
        refine PhaseIn.takeD (i := 3) (v := ?_) [3, 4, 7] 30 rfl (by rfl) (by kernel_rfl) (by kernel_rfl) (by kernel_rfl) (by kernel_rfl) (by kernel_rfl) (fun _ _ _ h => h) (Or.inl ⟨by kernel_rfl, ?_⟩) hHeld ?_
        rotate_left
        · intro w' hSw
          (try dsimp only at hSw)
          go_simp
          first | done | with_reducible rfl
        try simp only [Act.put, List.setIfInBounds_toArray, List.set]
        refine PhaseIn.takeD (i := 5) (v := ?_) [5, 6, 7] 32 rfl (by rfl) (by kernel_rfl) (by kernel_rfl) (by kernel_rfl) (by kernel_rfl) (by kernel_rfl) (fun _ _ _ h => h) (Or.inl ⟨by kernel_rfl, ?_⟩) hHeld ?_
        rotate_left
        · intro w' hSw
          (try dsimp only at hSw)
          go_simp
          first | done | with_reducible rfl
        try simp only [Act.put, List.setIfInBounds_toArray, List.set]
        refine PhaseIn.takeD (i := 6) (v := ?_) [6, 7] 33 rfl (by rfl) (by kernel_rfl) (by kernel_rfl) (by kernel_rfl) (by kernel_rfl) (by kernel_rfl) (fun _ _ _ h => h) (Or.inl ⟨by kernel_rfl, ?_⟩) hHeld ?_
        rotate_left
        · intro w' hSw
          (try dsimp only at hSw)
          go_simp
          first | done | with_reducible rfl
        try simp only [Act.put, List.setIfInBounds_toArray, List.set]
        refine PhaseIn.one (i := 4) (by kernel_rfl) rfl (by kernel_rfl) (fun K hK => ?_)
        unfold Oper.wpIn
        refine ⟨fun _ _ => trivial, ?_⟩
        go_simp
        refine ⟨rfl, (callsIn_wide.2 (Wrd.implDo_mul c m wd (by have := MF.out.1; omega) MF.out.1.2 m01.1 m01.2)).mono ?_⟩
        rintro e w2 ⟨rfl, hb2⟩
        refine hK _ _ (fun _ => ⟨cell_below hb2 hHeld.1, cell_below hb2 hHeld.2⟩) ?_
        have HM3 := hide (HM2.out.below hb2)
        have RX3 := hide (RX2.out.below hb2)
        have HB3 : Hid (Below b u w2) := HB2.out.trans (hb2.mono (by have := HM2.out.lt; omega))
        clear hK K hHeld HM2 RX2 HB2 hb2
        try simp only [Act.put, List.setIfInBounds_toArray, List.set]
        refine PhaseIn.one (i := 7) (by kernel_rfl) rfl (by kernel_rfl) (fun K hK => ?_)
        unfold Oper.wpIn
        refine ⟨fun _ _ => trivial, ?_⟩
        go_simp
        refine ⟨rfl, (callsIn_wide.2 (put (scaleE m (ps.take k)) b (c * m % 65536) at_ bx _ w2 HM3.out (by unfold scaleE; rw [List.length_map, List.length_take]; have := n12.out; omega) (by omega) RX3.out (fun a ha => by have := MF.out.2.2.1 a ha; omega) (by have := MF.out.2.1; omega))).mono ?_⟩
        rintro e w3 ⟨rfl, hM4, hT4⟩
        refine hK _ _ (fun h => absurd h (by omega)) ?_
        rw [MF.out.2.2.2, ES.out] at hM4
        have HM4 := hide hM4
        have HB4 : Hid (Below b u w3) := HB3.out.trans (hT4.below (Nat.le_refl _) (by have := HM3.out.lt; omega))
        clear hK K HM3 RX3 HB3 hM4 hT4
        try simp only [Act.put, List.setIfInBounds_toArray, List.set]
        refine PhaseIn.done (by kernel_rfl) ?_ _
        go_wp2
        exact ⟨⟨k + 1, by omega, by go_num, HM4, HB4⟩, by simp [intOf]; omega⟩
end Go.Proofs.YtckhfpaicnjknaaGreat.Pol
