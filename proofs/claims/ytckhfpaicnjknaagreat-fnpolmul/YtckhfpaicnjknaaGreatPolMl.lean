/-
  Both sums multiplied: the program's PolMul.
-/
import Derived.Test.YtckhfpaicnjknaaGreatPolMm
import Derived.Test.YtckhfpaicnjknaaGreatPolCat
import Derived.Test.YtckhfpaicnjknaaGreatJoD
namespace Go.Proofs.YtckhfpaicnjknaaGreat.Pol
set_option linter.unusedVariables false
open Go.ChangeShapes Go.WideShapes Go.ChangeAt Go.RowKit Go.Shelf IntS Rng
theorem own_row' {w : World} {lo : Nat} {v : Value} {l : List Int} (h : IntS.Own w lo v l) : ∃ B, Row w B v l := by
  by_cases e : v = .slice none 0 0
  · have e0 : l = [] := by
      obtain ⟨_, h0 | ⟨g, cap, cur, hv, _⟩⟩ := h
      · exact List.length_eq_zero_iff.1 h0.2
      · rw [e] at hv; injection hv with q _ _; cases q
    rw [e, e0]
    exact ⟨0, none, 0, 0, rfl, Nat.le_refl _, Nat.zero_le _, fun _ => rfl, Or.inl rfl⟩
  · obtain ⟨g, cap, hv, k1, k2, k3⟩ := h.form e
    exact ⟨g, k3.row⟩
set_option maxRecDepth 8000 in
set_option maxHeartbeats 4000000 in
theorem implMul (ps qs : List Mono) (B B' : Nat) (v v' : Value) (w : World) (h : PRow w B v ps) (h' : PRow w B' v' qs) :
    Calls Tryz.prog 19 #[.agg #[v], .agg #[v']] w fun e w' => ∃ a l c, e = .returned (.tuple #[.agg #[.slice a l c], .bool (mulB ps qs)]) ∧ WPoly w' w.heap.size w'.heap.size (.slice a l c) (mulP ps qs) ∧ Below w.heap.size w w' := by
  have bV : Below w.heap.size w (((w.alloc (.cells #[v] 25)).alloc (.cells #[v'] 25)).alloc (.cells #[.slice none 0 0] 25)) := (((Below.refl _ _).alloc (Nat.le_refl _) _).alloc (by simp) _).alloc (by simp; omega) _
  have R0 := Rec.new ((w.alloc (.cells #[v] 25)).alloc (.cells #[v'] 25)) [.slice none 0 0] 25
  rw [show ((w.alloc (.cells #[v] 25)).alloc (.cells #[v'] 25)).heap.size = w.heap.size + 2 by simp] at R0
  have Q0 := (Rec.new (w.alloc (.cells #[v] 25)) [v'] 25).alloc (.cells #[.slice none 0 0] 25)
  rw [show (w.alloc (.cells #[v] 25)).heap.size = w.heap.size + 1 by simp] at Q0
  have RR := hide R0
  have QQ := hide Q0
  have AA := hide (((Rec.new w [v] 25).alloc (.cells #[v'] 25)).alloc (.cells #[.slice none 0 0] 25))
  have HW := hide h
  have HW' := hide h'
  have H := hide (h.below bV)
  have BW := hide bV
  obtain ⟨a, cap, off, rfl, h2, h3, _, h4⟩ := h
  obtain ⟨a', cap', off', rfl, h2', h3', _, h4'⟩ := h'
  unfold maxLen at h3 h3'
  clear bV R0 Q0
  obtain ⟨R, eR⟩ : ∃ R, mulP ps qs = R := ⟨_, rfl⟩
  obtain ⟨T, eT⟩ : ∃ T, mulB ps qs = T := ⟨_, rfl⟩
  rw [eR, eT]
  have ER := hide eR
  have ET := hide eT
  clear eR eT
  go_enter Tryz.func19, Tryz.ntmps19
  go_wp2_with fail
  generalize (((w.alloc (.cells #[.slice a ps.length cap] 25)).alloc (.cells #[.slice a' qs.length cap'] 25)).alloc (.cells #[.slice none 0 0] 25)) = V0 at RR QQ AA H BW ⊢
  have a0 := AA.out.cell 0 _ rfl
  go_wp2_with fail
  refine (implOk ps B _ _ H.out).mono ?_
  rintro e V ⟨rfl, hb⟩
  replace RR := hide (RR.out.below hb)
  replace QQ := hide (QQ.out.below hb)
  replace AA := hide (AA.out.below hb)
  replace BW := hide (BW.out.trans (hb.mono BW.out.size))
  clear hb a0 H
  cases ok : okP ps with
  | false =>
    have hf := mul_no (ps := ps) (qs := qs) (fun h => by rw [ok] at h; exact absurd h.1 (by decide))
    have HD := hide (ER.out.symm.trans hf.2)
    obtain rfl := ET.out.symm.trans hf.1
    have r0 := RR.out.cell 0 _ rfl
    have s0 := RR.out.soft 0
    clear ok hf
    have B0 := hide (BW.out.setCell (p := ⟨w.heap.size + 2, 0, none⟩) (by show w.heap.size ≤ w.heap.size + 2; omega) (.slice none 0 0))
    have Z0 := hide (RR.out.set 0 (.slice none 0 0) (by simp) rfl)
    go_wp2
    generalize V.setCell ⟨w.heap.size + 2, 0, none⟩ (.slice none 0 0) = U at B0 Z0 ⊢
    have z0 := Z0.out.cell 0 _ rfl
    exact bodyPost_ret (v := .tuple #[.agg #[.slice none 0 0], .bool false]) (by simp [results, Tryz.results19, go_sem, z0]) rfl ⟨none, 0, 0, rfl, by rw [HD.out]; exact WPoly.nil _ _ _, B0.out⟩
  | true =>
    have OK := hide ok
    have H' := hide (HW'.out.below BW.out)
    clear ok
    have a0 := QQ.out.cell 0 _ rfl
    go_wp2_with fail
    refine (implOk qs B' _ _ H'.out).mono ?_
    rintro e u ⟨rfl, hb⟩
    replace RR := hide (RR.out.below hb)
    replace QQ := hide (QQ.out.below hb)
    replace AA := hide (AA.out.below hb)
    replace BW := hide (BW.out.trans (hb.mono BW.out.size))
    clear hb a0 H'
    cases ok' : okP qs with
    | false =>
      have hf := mul_no (ps := ps) (qs := qs) (fun h => by rw [ok'] at h; exact absurd h.2 (by decide))
      have HD := hide (ER.out.symm.trans hf.2)
      obtain rfl := ET.out.symm.trans hf.1
      have r0 := RR.out.cell 0 _ rfl
      have s0 := RR.out.soft 0
      clear ok' hf
      have B0 := hide (BW.out.setCell (p := ⟨w.heap.size + 2, 0, none⟩) (by show w.heap.size ≤ w.heap.size + 2; omega) (.slice none 0 0))
      have Z0 := hide (RR.out.set 0 (.slice none 0 0) (by simp) rfl)
      go_wp2
      generalize u.setCell ⟨w.heap.size + 2, 0, none⟩ (.slice none 0 0) = U at B0 Z0 ⊢
      have z0 := Z0.out.cell 0 _ rfl
      exact bodyPost_ret (v := .tuple #[.agg #[.slice none 0 0], .bool false]) (by simp [results, Tryz.results19, go_sem, z0]) rfl ⟨none, 0, 0, rfl, by rw [HD.out]; exact WPoly.nil _ _ _, B0.out⟩
    | true =>
      have hf := mul_yes OK.out ok'
      have HD := hide (hf.2.symm.trans ER.out)
      have HT := hide (hf.1.symm.trans ET.out)
      have OK' := hide ok'
      clear ok' hf ER ET
      have GP := hide (ok_good OK.out)
      have GQ := hide (ok_good OK'.out)
      have MP := hide (map_new u)
      have bm := (Below.refl _ u).alloc (Nat.le_refl _) (.map #[] 0)
      have a0 := (AA.out.below bm).cell 0 _ rfl
      have hmm := @run_makeMap Tryz.prog
      have BU := hide bm
      have RR2 := hide (RR.out.below bm)
      have QQ2 := hide (QQ.out.below bm)
      have US : Hid (u.heap.size < (u.alloc (.map #[] 0)).heap.size) := show _ < _ by simp
      clear bm
      go_wp2_with fail
      clear a0 hmm
      generalize (u.alloc (.map #[] 0)) = U at MP BU RR2 QQ2 US ⊢
      have lu : Hid (w.heap.size + 2 < u.heap.size) := RR.out.lt
      have BWU := hide (BW.out.trans (BU.out.mono BW.out.size))
      have bel : Hid (∀ {wi : World}, Turn u.heap.size U wi → Below w.heap.size w wi) := @fun wi ht => BWU.out.trans (ht.below (by have := BW.out.size; omega) (by have := BWU.out.size; omega))
      obtain ⟨n, en⟩ : ∃ n, ps.length = n := ⟨_, rfl⟩
      obtain ⟨m, em⟩ : ∃ m, qs.length = m := ⟨_, rfl⟩
      have EN := hide en
      have EM := hide em
      have n12 : Hid (n ≤ 12) := show _ ≤ _ by rw [← en]; exact GP.out.many
      have m12 : Hid (m ≤ 12) := show _ ≤ _ by rw [← em]; exact GQ.out.many
      have H4 := hide h4
      have H4' := hide h4'
      rw [en] at h2
      rw [em] at h2' QQ2
      rw [en, em]
      clear en em h4 h4' HW HW'
      have MP2 : Hid (MapOf U u.heap.size (esM qs (ps.take 0))) := by rw [List.take_zero]; exact MP
      clear MP
      go_loopw [24] (fun i wr => ∃ (k : Nat), k ≤ n ∧ i = .int .i64 k ∧ Hid (MapOf wr u.heap.size (esM qs (ps.take k))) ∧ Hid (Turn u.heap.size U wr)) (fun i _ => n - (intOf i).toNat)
      case atStart => exact ⟨0, by omega, rfl, MP2, Turn.refl _ _⟩
      case round =>
        obtain ⟨k, hk, rfl, HM, HT2⟩ := hrel
        clear MP2
        by_cases hlt : k < n
        case neg =>
          obtain rfl : k = n := by omega
          have HM2 := HM.out
          rw [← EN.out, List.take_length] at HM2
          have TM : Told (esM qs ps) (mulL qs [] ps) := by
            have h9 := told_mul GQ.out (ps := ps) (es := []) (l := []) (fun x hx => ⟨GP.out.at_ x hx, GP.out.four x hx⟩) told_nil
            rw [List.nil_append] at h9
            exact h9
          have C := hide (told (esM qs ps) (mulL qs [] ps) u.heap.size wr HM2 TM (by rw [esM_len, EN.out, EM.out]; have h1 := n12.out; have h2 := m12.out; have : k * m ≤ 12 * 12 := Nat.mul_le_mul h1 h2; omega) (fun x hx => esM_mem (fun y hy => GP.out.four y hy) (fun y hy => GQ.out.four y hy) hx))
          rw [HD.out, HT.out] at C
          clear HM HM2 TM
          go_wp2_with fail
          refine C.out.mono ?_
          rintro e u2 ⟨qa, ql, qc, rfl, W2, hb⟩
          have B1 := hide (bel.out HT2.out)
          have B3 := hide (B1.out.trans (hb.mono B1.out.size))
          have R3 := hide ((RR2.out.turn HT2.out (by have := lu.out; omega)).below hb)
          have lw : Hid (u.heap.size ≤ wr.heap.size) := show _ ≤ _ by have := US.out; have := HT2.out.size; omega
          have r0 := R3.out.cell 0 _ rfl
          have s0 := R3.out.soft 0
          have B4 := hide (B3.out.setCell (p := ⟨w.heap.size + 2, 0, none⟩) (by show w.heap.size ≤ w.heap.size + 2; omega) (.slice qa ql qc))
          have Z0 := hide (R3.out.set 0 (.slice qa ql qc) (by simp) rfl)
          have W4 := W2.keep (w' := u2.setCell ⟨w.heap.size + 2, 0, none⟩ (.slice qa ql qc)) (Keep.of_turn ((Turn.refl (w.heap.size + 2) _).setCell (p := ⟨w.heap.size + 2, 0, none⟩) rfl _)) (fun b' h1 _ (h2 : b' = _) => by have := lu.out; have := lw.out; omega)
          have W5 := hide (W4.wide (lo' := w.heap.size) (hi' := (u2.setCell ⟨w.heap.size + 2, 0, none⟩ (.slice qa ql qc)).heap.size) (by have := lu.out; have := lw.out; omega) (by simp [World.setCell]))
          clear C W2 hb B1 W4 B3 lw
          go_wp2
          generalize u2.setCell ⟨w.heap.size + 2, 0, none⟩ (.slice qa ql qc) = U2 at B4 Z0 W5 ⊢
          have z0 := Z0.out.cell 0 _ rfl
          exact bodyPost_ret (v := .tuple #[.agg #[.slice qa ql qc], .bool T]) (by simp [results, Tryz.results19, go_sem, z0]) rfl ⟨qa, ql, qc, rfl, W5.out, B4.out⟩
        obtain ⟨x, ex⟩ : ∃ x, ps[k]? = some x := ⟨_, List.getElem?_eq_getElem (by rw [EN.out]; exact hlt)⟩
        obtain ⟨rfl, hc⟩ := H4.out.resolve_left (fun e => by rw [e] at ex; simp at ex)
        have xm := List.mem_of_getElem? ex
        have EX := hide ex
        have XF : Hid ((0 < x.1 ∧ x.1 < 65536) ∧ x.2.length ≤ 4 ∧ (∀ a ∈ x.2, 0 ≤ a ∧ a < 200) ∧ x.2.Pairwise (· ≤ ·)) := ⟨(GP.out.fine _ xm).2, GP.out.four _ xm, GP.out.at_ _ xm, GP.out.ris _ xm⟩
        obtain ⟨co, at_⟩ := x
        obtain ⟨g1, s, bx, g2, g3⟩ := hc k _ ex
        have G3 := hide g3
        have BR := bel.out HT2.out
        have cx := cell_below BR g1
        have sx := cell_below BR g2
        obtain ⟨qx, cx2, _, rfl, _⟩ := g3
        simp only [] at cx sx G3 XF
        have q0 := (QQ2.out.turn HT2.out (by have := lu.out; omega)).below ((Below.refl _ wr).alloc (Nat.le_refl _) (.cells #[.int .i64 co, .slice qx at_.length cx2] 55))
        have q00 := q0.cell 0 _ rfl
        have lk : ((k : Nat) : Int) < (n : Nat) := by omega
        clear ex g1 g2 hc xm BR q0
        have bA := (Below.refl _ wr).alloc (Nat.le_refl _) (.cells #[.int .i64 co, .slice qx at_.length cx2] 55)
        have XR := hide (Rec.new wr [.int .i64 co, .slice qx at_.length cx2] 55)
        have HM2 : Hid (MapOf (wr.alloc (.cells #[.int .i64 co, .slice qx at_.length cx2] 55)) u.heap.size (esM qs (ps.take k) ++ prodE (co, at_) (qs.take 0))) := by
          rw [List.take_zero, prodE, List.map_nil, List.append_nil]
          exact HM.out.below bA
        have HT3 : Hid (Turn u.heap.size U (wr.alloc (.cells #[.int .i64 co, .slice qx at_.length cx2] 55))) := HT2.out.trans (Turn.of_below bA)
        have LB : Hid (u.heap.size < wr.heap.size) := HM.out.lt
        have LE : Hid ((esM qs (ps.take k)).length ≤ 144) := show _ ≤ _ by rw [esM_len, EM.out, List.length_take]; have h1 := n12.out; have h2 := m12.out; have : min k ps.length * m ≤ 12 * 12 := Nat.mul_le_mul (by omega) h2; omega
        clear bA HM HT2
        go_wp2
        generalize (wr.alloc (.cells #[.int .i64 co, .slice qx at_.length cx2] 55)) = wv at XR HM2 HT3 q00 ⊢
        clear cx sx q00
        obtain ⟨Xb, eXb⟩ : ∃ Xb, wr.heap.size = Xb := ⟨_, rfl⟩
        rw [eXb] at XR LB
        try rw [eXb]
        clear eXb
        go_loopw [31] (fun i wi => ∃ (j : Nat), j ≤ m ∧ i = .int .i64 j ∧ Hid (MapOf wi u.heap.size (esM qs (ps.take k) ++ prodE (co, at_) (qs.take j))) ∧ Hid (Turn u.heap.size U wi) ∧ Hid (Rec Xb [.int .i64 co, .slice qx at_.length cx2] wi)) (fun i _ => m - (intOf i).toNat)
        case atStart => exact ⟨0, by omega, rfl, HM2, HT3, XR⟩
        case round =>
          clear HM2 HT3 XR
          obtain ⟨j, hj, rfl, HM, HT2, XR⟩ := hrel
          by_cases hjm : j < m
          case neg =>
            obtain rfl : j = m := by omega
            have HM2 := HM.out
            rw [← EM.out, List.take_length, ← esM_next EX.out] at HM2
            have HM3 := hide HM2
            clear HM HM2 XR
            go_wp2
            exact ⟨⟨k + 1, by omega, by go_num, HM3, HT2⟩, by simp [intOf]; omega⟩
          obtain ⟨y, ey⟩ : ∃ y, qs[j]? = some y := ⟨_, List.getElem?_eq_getElem (by rw [EM.out]; exact hjm)⟩
          obtain ⟨rfl, hd⟩ := H4'.out.resolve_left (fun e => by rw [e] at ey; simp at ey)
          have ym := List.mem_of_getElem? ey
          have YF : Hid ((0 < y.1 ∧ y.1 < 65536) ∧ y.2.length ≤ 4 ∧ (∀ a ∈ y.2, 0 ≤ a ∧ a < 200) ∧ y.2.Pairwise (· ≤ ·)) := ⟨(GQ.out.fine _ ym).2, GQ.out.four _ ym, GQ.out.at_ _ ym, GQ.out.ris _ ym⟩
          have NX := hide (prod_next (x := (co, at_)) ey)
          obtain ⟨d, bt_⟩ := y
          obtain ⟨g1, s', by_, g2, g3⟩ := hd j _ ey
          have BR := bel.out HT2.out
          have cy := cell_below BR g1
          have sy := cell_below BR g2
          have RY := hide (g3.below BR)
          have RX := hide (G3.out.below BR)
          obtain ⟨qy, cy2, _, rfl, _⟩ := g3
          simp only [] at cy sy RY YF NX
          have lj : ((j : Nat) : Int) < (m : Nat) := by omega
          have LH : Hid ((esM qs (ps.take k) ++ prodE (co, at_) (qs.take j)).length ≤ 1000000) := show _ ≤ _ by rw [List.length_append, prodE, List.length_map, List.length_take]; have := LE.out; have := m12.out; omega
          have MS : Hid (Srt.sortI (at_ ++ bt_) = mergeL at_ bt_) := merge_sort XF.out.2.2.2 YF.out.2.2.2
          have LW : Hid (u.heap.size < wr.heap.size) := HM.out.lt
          clear ey g1 g2 hd ym BR
          go_wp2_with fail
          refine (wpIn_wide (n := 0)).1 ?_
          have hb := ((Below.refl _ wr).alloc (Nat.le_refl _) (.cells #[.int .i64 d, .slice qy bt_.length cy2] 55)).drew
          have XR1 := XR.out.below hb
          have hHeld : ((wr.alloc (.cells #[.int .i64 d, .slice qy bt_.length cy2] 55)).drew.cell? ⟨Xb, 0, none⟩ = some (.int .i64 co) ∧ (wr.alloc (.cells #[.int .i64 d, .slice qy bt_.length cy2] 55)).drew.cell? ⟨Xb, 1, none⟩ = some (.slice qx at_.length cx2) ∧ (wr.alloc (.cells #[.int .i64 d, .slice qy bt_.length cy2] 55)).drew.cell? ⟨wr.heap.size, 0, none⟩ = some (.int .i64 d) ∧ (wr.alloc (.cells #[.int .i64 d, .slice qy bt_.length cy2] 55)).drew.cell? ⟨wr.heap.size, 1, none⟩ = some (.slice qy bt_.length cy2)) := by
            refine ⟨XR1.cell 0 _ rfl, XR1.cell 1 _ rfl, ?_, ?_⟩ <;> (show (wr.alloc _).cell? _ = _; rw [World.cell?_alloc_new]; rfl)
          refine PhaseIn.region (S := fun w' => (w'.cell? ⟨Xb, 0, none⟩ = some (.int .i64 co) ∧ w'.cell? ⟨Xb, 1, none⟩ = some (.slice qx at_.length cx2) ∧ w'.cell? ⟨wr.heap.size, 0, none⟩ = some (.int .i64 d) ∧ w'.cell? ⟨wr.heap.size, 1, none⟩ = some (.slice qy bt_.length cy2))) 13 (by kernel_rfl) ?_
          replace HM := hide (HM.out.below hb)
          replace RX := hide (RX.out.below hb)
          replace RY := hide (RY.out.below hb)
          replace HT2 : Hid (Turn u.heap.size U _) := HT2.out.trans (Turn.of_below hb)
          replace XR := hide XR1
          obtain ⟨Yb, eYb⟩ : ∃ Yb, wr.heap.size = Yb := ⟨_, rfl⟩
          have LY : Hid (u.heap.size < Yb) := show _ < _ by rw [← eYb]; exact LW.out
          clear hb XR1 cy sy
          generalize (wr.alloc (.cells #[.int .i64 d, .slice qy bt_.length cy2] 55)).drew = wd at hHeld HM RX RY HT2 XR ⊢
          rw [eYb] at hHeld
          try rw [eYb]
          clear eYb
          refine PhaseIn.takeD (i := 0) (v := ?_) [0, 12] 35 rfl (by rfl) (by kernel_rfl) (by kernel_rfl) (by kernel_rfl) (by kernel_rfl) (by kernel_rfl) (fun _ _ _ h => h) (Or.inl ⟨by kernel_rfl, ?_⟩) hHeld ?_
          rotate_left
          · intro w' hSw
            (try dsimp only at hSw)
            go_simp
            first | done | with_reducible rfl
          try simp only [Act.put, List.setIfInBounds_toArray, List.set]
          refine PhaseIn.takeD (i := 1) (v := ?_) [1, 2, 5, 11, 12] 36 rfl (by rfl) (by kernel_rfl) (by kernel_rfl) (by kernel_rfl) (by kernel_rfl) (by kernel_rfl) (fun _ _ _ h => h) (Or.inl ⟨by kernel_rfl, ?_⟩) hHeld ?_
          rotate_left
          · intro w' hSw
            (try dsimp only at hSw)
            go_simp
            first | done | with_reducible rfl
          try simp only [Act.put, List.setIfInBounds_toArray, List.set]
          refine PhaseIn.takeD (i := 2) (v := ?_) [2, 5, 11, 12] 37 rfl (by rfl) (by kernel_rfl) (by kernel_rfl) (by kernel_rfl) (by kernel_rfl) (by kernel_rfl) (fun _ _ _ h => h) (Or.inl ⟨by kernel_rfl, ?_⟩) hHeld ?_
          rotate_left
          · intro w' hSw
            (try dsimp only at hSw)
            go_simp
            first | done | with_reducible rfl
          try simp only [Act.put, List.setIfInBounds_toArray, List.set]
          refine PhaseIn.takeD (i := 3) (v := ?_) [3, 4, 5, 11, 12] 38 rfl (by rfl) (by kernel_rfl) (by kernel_rfl) (by kernel_rfl) (by kernel_rfl) (by kernel_rfl) (fun _ _ _ h => h) (Or.inl ⟨by kernel_rfl, ?_⟩) hHeld ?_
          rotate_left
          · intro w' hSw
            (try dsimp only at hSw)
            go_simp
            first | done | with_reducible rfl
          try simp only [Act.put, List.setIfInBounds_toArray, List.set]
          refine PhaseIn.takeD (i := 4) (v := ?_) [4, 5, 11, 12] 39 rfl (by rfl) (by kernel_rfl) (by kernel_rfl) (by kernel_rfl) (by kernel_rfl) (by kernel_rfl) (fun _ _ _ h => h) (Or.inl ⟨by kernel_rfl, ?_⟩) hHeld ?_
          rotate_left
          · intro w' hSw
            (try dsimp only at hSw)
            go_simp
            first | done | with_reducible rfl
          try simp only [Act.put, List.setIfInBounds_toArray, List.set]
          refine PhaseIn.takeD (i := 6) (v := ?_) [6, 7, 10, 11, 12] 41 rfl (by rfl) (by kernel_rfl) (by kernel_rfl) (by kernel_rfl) (by kernel_rfl) (by kernel_rfl) (fun _ _ _ h => h) (Or.inl ⟨by kernel_rfl, ?_⟩) hHeld ?_
          rotate_left
          · intro w' hSw
            (try dsimp only at hSw)
            go_simp
            first | done | with_reducible rfl
          try simp only [Act.put, List.setIfInBounds_toArray, List.set]
          refine PhaseIn.takeD (i := 7) (v := ?_) [7, 10, 11, 12] 42 rfl (by rfl) (by kernel_rfl) (by kernel_rfl) (by kernel_rfl) (by kernel_rfl) (by kernel_rfl) (fun _ _ _ h => h) (Or.inl ⟨by kernel_rfl, ?_⟩) hHeld ?_
          rotate_left
          · intro w' hSw
            (try dsimp only at hSw)
            go_simp
            first | done | with_reducible rfl
          try simp only [Act.put, List.setIfInBounds_toArray, List.set]
          refine PhaseIn.takeD (i := 8) (v := ?_) [8, 9, 10, 11, 12] 43 rfl (by rfl) (by kernel_rfl) (by kernel_rfl) (by kernel_rfl) (by kernel_rfl) (by kernel_rfl) (fun _ _ _ h => h) (Or.inl ⟨by kernel_rfl, ?_⟩) hHeld ?_
          rotate_left
          · intro w' hSw
            (try dsimp only at hSw)
            go_simp
            first | done | with_reducible rfl
          try simp only [Act.put, List.setIfInBounds_toArray, List.set]
          refine PhaseIn.takeD (i := 9) (v := ?_) [9, 10, 11, 12] 44 rfl (by rfl) (by kernel_rfl) (by kernel_rfl) (by kernel_rfl) (by kernel_rfl) (by kernel_rfl) (fun _ _ _ h => h) (Or.inl ⟨by kernel_rfl, ?_⟩) hHeld ?_
          rotate_left
          · intro w' hSw
            (try dsimp only at hSw)
            go_simp
            first | done | with_reducible rfl
          try simp only [Act.put, List.setIfInBounds_toArray, List.set]
          refine PhaseIn.two (i := 5) (j := 10) (by kernel_rfl) rfl rfl (by kernel_rfl) (by kernel_rfl) (fun K hK => ?_) (fun K hK => ?_)
          · -- the word first
            unfold Oper.wpIn
            refine ⟨fun _ _ => trivial, ?_⟩
            go_simp
            refine ⟨rfl, (callsIn_wide.2 (Wrd.implDo_mul co d wd (by have := XF.out.1; omega) XF.out.1.2 (by have := YF.out.1; omega) YF.out.1.2)).mono ?_⟩
            rintro e w2 ⟨rfl, hb⟩
            refine hK _ _ (fun _ => ⟨cell_below hb hHeld.1, cell_below hb hHeld.2.1, cell_below hb hHeld.2.2.1, cell_below hb hHeld.2.2.2⟩) ?_
            replace HM := hide (HM.out.below hb)
            replace RX := hide (RX.out.below hb)
            replace RY := hide (RY.out.below hb)
            replace XR := hide (XR.out.below hb)
            replace HT2 : Hid (Turn u.heap.size U _) := HT2.out.trans (Turn.of_below hb)
            replace hHeld := And.intro (cell_below hb hHeld.1) (And.intro (cell_below hb hHeld.2.1) (And.intro (cell_below hb hHeld.2.2.1) (cell_below hb hHeld.2.2.2)))
            clear hK K hb
            try simp only [Act.put, List.setIfInBounds_toArray, List.set]
            refine PhaseIn.one (i := 10) (by kernel_rfl) rfl (by kernel_rfl) (fun K hK => ?_)
            unfold Oper.wpIn
            refine ⟨fun _ _ => trivial, ?_⟩
            go_simp
            have hb := (Below.refl _ w2).alloc (Nat.le_refl _) (.cells #[.slice qx at_.length cx2, .slice qy bt_.length cy2] 28)
            have TR := hide (Rec.new w2 [.slice qx at_.length cx2, .slice qy bt_.length cy2] 28)
            refine hK _ _ (fun _ => ⟨cell_below hb hHeld.1, cell_below hb hHeld.2.1, cell_below hb hHeld.2.2.1, cell_below hb hHeld.2.2.2⟩) ?_
            replace HM := hide (HM.out.below hb)
            replace RX := hide (RX.out.below hb)
            replace RY := hide (RY.out.below hb)
            replace XR := hide (XR.out.below hb)
            replace HT2 : Hid (Turn u.heap.size U _) := HT2.out.trans (Turn.of_below hb)
            replace hHeld := And.intro (cell_below hb hHeld.1) (And.intro (cell_below hb hHeld.2.1) (And.intro (cell_below hb hHeld.2.2.1) (cell_below hb hHeld.2.2.2)))
            clear hK K hb
            generalize (w2.alloc (.cells #[.slice qx at_.length cx2, .slice qy bt_.length cy2] 28)) = w3 at hHeld HM RX RY HT2 XR TR ⊢
            try simp only [Act.put, List.setIfInBounds_toArray, List.set]
            refine PhaseIn.one (i := 11) (by kernel_rfl) rfl (by kernel_rfl) (fun K hK => ?_)
            unfold Oper.wpIn
            refine ⟨fun _ _ => trivial, ?_⟩
            go_simp
            refine ⟨rfl, (callsIn_wide.2 (concat at_ bt_ bx by_ _ qx qy cx2 cy2 _ TR.out RX.out RY.out (by have := XF.out.2.1; omega) (by have := YF.out.2.1; omega))).mono ?_⟩
            rintro e w4 ⟨qz, nz, cz, rfl, OZ, hb⟩
            refine hK _ _ (fun _ => ⟨cell_below hb hHeld.1, cell_below hb hHeld.2.1, cell_below hb hHeld.2.2.1, cell_below hb hHeld.2.2.2⟩) ?_
            obtain ⟨bz, RZ⟩ := own_row' OZ
            replace RZ := hide RZ
            replace HM := hide (HM.out.below hb)
            replace RX := hide (RX.out.below hb)
            replace RY := hide (RY.out.below hb)
            replace XR := hide (XR.out.below hb)
            replace HT2 : Hid (Turn u.heap.size U _) := HT2.out.trans (Turn.of_below hb)
            replace hHeld := And.intro (cell_below hb hHeld.1) (And.intro (cell_below hb hHeld.2.1) (And.intro (cell_below hb hHeld.2.2.1) (cell_below hb hHeld.2.2.2)))
            clear hK K hb OZ TR
            try simp only [Act.put, List.setIfInBounds_toArray, List.set]
            refine PhaseIn.one (i := 12) (by kernel_rfl) rfl (by kernel_rfl) (fun K hK => ?_)
            unfold Oper.wpIn
            refine ⟨fun _ _ => trivial, ?_⟩
            go_simp
            refine ⟨rfl, (callsIn_wide.2 (put (esM qs (ps.take k) ++ prodE (co, at_) (qs.take j)) u.heap.size (co * d % 65536) (at_ ++ bt_) bz _ w4 HM.out LH.out (by omega) RZ.out (fun a ha => by rcases List.mem_append.1 ha with h | h; have := XF.out.2.2.1 a h; omega; have := YF.out.2.2.1 a h; omega) (by rw [List.length_append]; have := XF.out.2.1; have := YF.out.2.1; omega))).mono ?_⟩
            rintro e w5 ⟨rfl, hM5, hT5⟩
            have X5 := XR.out.turn hT5 (by have := LB.out; omega)
            have hS5 : (w5.cell? ⟨Xb, 0, none⟩ = some (.int .i64 co) ∧ w5.cell? ⟨Xb, 1, none⟩ = some (.slice qx at_.length cx2) ∧ w5.cell? ⟨Yb, 0, none⟩ = some (.int .i64 d) ∧ w5.cell? ⟨Yb, 1, none⟩ = some (.slice qy bt_.length cy2)) := ⟨X5.cell 0 _ rfl, X5.cell 1 _ rfl, (hT5.cell (p := ⟨Yb, 0, none⟩) (World.block_lt_of_cell? w4 _ hHeld.2.2.1) (by have := LY.out; show Yb ≠ _; omega)).trans hHeld.2.2.1, (hT5.cell (p := ⟨Yb, 1, none⟩) (World.block_lt_of_cell? w4 _ hHeld.2.2.2) (by have := LY.out; show Yb ≠ _; omega)).trans hHeld.2.2.2⟩
            refine hK _ _ (fun _ => hS5) ?_
            rw [MS.out, List.append_assoc, ← NX.out] at hM5
            have HM5 := hide hM5
            have HT5 := hide (HT2.out.trans hT5)
            have XR5 := hide X5
            clear hK K hHeld HM HT2 XR RZ RX RY hM5 hT5 X5 hS5
            try simp only [Act.put, List.setIfInBounds_toArray, List.set]
            refine PhaseIn.done (by kernel_rfl) ?_ _
            go_wp2
            exact ⟨⟨j + 1, by omega, by go_num, HM5, HT5, XR5⟩, by simp [intOf]; omega⟩
          · -- the list first
            unfold Oper.wpIn
            refine ⟨fun _ _ => trivial, ?_⟩
            go_simp
            have hb := (Below.refl _ wd).alloc (Nat.le_refl _) (.cells #[.slice qx at_.length cx2, .slice qy bt_.length cy2] 28)
            have TR := hide (Rec.new wd [.slice qx at_.length cx2, .slice qy bt_.length cy2] 28)
            refine hK _ _ (fun _ => ⟨cell_below hb hHeld.1, cell_below hb hHeld.2.1, cell_below hb hHeld.2.2.1, cell_below hb hHeld.2.2.2⟩) ?_
            replace HM := hide (HM.out.below hb)
            replace RX := hide (RX.out.below hb)
            replace RY := hide (RY.out.below hb)
            replace XR := hide (XR.out.below hb)
            replace HT2 : Hid (Turn u.heap.size U _) := HT2.out.trans (Turn.of_below hb)
            replace hHeld := And.intro (cell_below hb hHeld.1) (And.intro (cell_below hb hHeld.2.1) (And.intro (cell_below hb hHeld.2.2.1) (cell_below hb hHeld.2.2.2)))
            clear hK K hb
            generalize (wd.alloc (.cells #[.slice qx at_.length cx2, .slice qy bt_.length cy2] 28)) = w2 at hHeld HM RX RY HT2 XR TR ⊢
            try simp only [Act.put, List.setIfInBounds_toArray, List.set]
            refine PhaseIn.one (i := 5) (by kernel_rfl) rfl (by kernel_rfl) (fun K hK => ?_)
            unfold Oper.wpIn
            refine ⟨fun _ _ => trivial, ?_⟩
            go_simp
            refine ⟨rfl, (callsIn_wide.2 (Wrd.implDo_mul co d w2 (by have := XF.out.1; omega) XF.out.1.2 (by have := YF.out.1; omega) YF.out.1.2)).mono ?_⟩
            rintro e w3 ⟨rfl, hb⟩
            refine hK _ _ (fun _ => ⟨cell_below hb hHeld.1, cell_below hb hHeld.2.1, cell_below hb hHeld.2.2.1, cell_below hb hHeld.2.2.2⟩) ?_
            replace HM := hide (HM.out.below hb)
            replace RX := hide (RX.out.below hb)
            replace RY := hide (RY.out.below hb)
            replace XR := hide (XR.out.below hb)
            replace HT2 : Hid (Turn u.heap.size U _) := HT2.out.trans (Turn.of_below hb)
            replace hHeld := And.intro (cell_below hb hHeld.1) (And.intro (cell_below hb hHeld.2.1) (And.intro (cell_below hb hHeld.2.2.1) (cell_below hb hHeld.2.2.2)))
            replace TR := hide (TR.out.below hb)
            clear hK K hb
            try simp only [Act.put, List.setIfInBounds_toArray, List.set]
            refine PhaseIn.one (i := 11) (by kernel_rfl) rfl (by kernel_rfl) (fun K hK => ?_)
            unfold Oper.wpIn
            refine ⟨fun _ _ => trivial, ?_⟩
            go_simp
            refine ⟨rfl, (callsIn_wide.2 (concat at_ bt_ bx by_ _ qx qy cx2 cy2 _ TR.out RX.out RY.out (by have := XF.out.2.1; omega) (by have := YF.out.2.1; omega))).mono ?_⟩
            rintro e w4 ⟨qz, nz, cz, rfl, OZ, hb⟩
            refine hK _ _ (fun _ => ⟨cell_below hb hHeld.1, cell_below hb hHeld.2.1, cell_below hb hHeld.2.2.1, cell_below hb hHeld.2.2.2⟩) ?_
            obtain ⟨bz, RZ⟩ := own_row' OZ
            replace RZ := hide RZ
            replace HM := hide (HM.out.below hb)
            replace RX := hide (RX.out.below hb)
            replace RY := hide (RY.out.below hb)
            replace XR := hide (XR.out.below hb)
            replace HT2 : Hid (Turn u.heap.size U _) := HT2.out.trans (Turn.of_below hb)
            replace hHeld := And.intro (cell_below hb hHeld.1) (And.intro (cell_below hb hHeld.2.1) (And.intro (cell_below hb hHeld.2.2.1) (cell_below hb hHeld.2.2.2)))
            clear hK K hb OZ TR
            try simp only [Act.put, List.setIfInBounds_toArray, List.set]
            refine PhaseIn.one (i := 12) (by kernel_rfl) rfl (by kernel_rfl) (fun K hK => ?_)
            unfold Oper.wpIn
            refine ⟨fun _ _ => trivial, ?_⟩
            go_simp
            refine ⟨rfl, (callsIn_wide.2 (put (esM qs (ps.take k) ++ prodE (co, at_) (qs.take j)) u.heap.size (co * d % 65536) (at_ ++ bt_) bz _ w4 HM.out LH.out (by omega) RZ.out (fun a ha => by rcases List.mem_append.1 ha with h | h; have := XF.out.2.2.1 a h; omega; have := YF.out.2.2.1 a h; omega) (by rw [List.length_append]; have := XF.out.2.1; have := YF.out.2.1; omega))).mono ?_⟩
            rintro e w5 ⟨rfl, hM5, hT5⟩
            have X5 := XR.out.turn hT5 (by have := LB.out; omega)
            have hS5 : (w5.cell? ⟨Xb, 0, none⟩ = some (.int .i64 co) ∧ w5.cell? ⟨Xb, 1, none⟩ = some (.slice qx at_.length cx2) ∧ w5.cell? ⟨Yb, 0, none⟩ = some (.int .i64 d) ∧ w5.cell? ⟨Yb, 1, none⟩ = some (.slice qy bt_.length cy2)) := ⟨X5.cell 0 _ rfl, X5.cell 1 _ rfl, (hT5.cell (p := ⟨Yb, 0, none⟩) (World.block_lt_of_cell? w4 _ hHeld.2.2.1) (by have := LY.out; show Yb ≠ _; omega)).trans hHeld.2.2.1, (hT5.cell (p := ⟨Yb, 1, none⟩) (World.block_lt_of_cell? w4 _ hHeld.2.2.2) (by have := LY.out; show Yb ≠ _; omega)).trans hHeld.2.2.2⟩
            refine hK _ _ (fun _ => hS5) ?_
            rw [MS.out, List.append_assoc, ← NX.out] at hM5
            have HM5 := hide hM5
            have HT5 := hide (HT2.out.trans hT5)
            have XR5 := hide X5
            clear hK K hHeld HM HT2 XR RZ RX RY hM5 hT5 X5 hS5
            try simp only [Act.put, List.setIfInBounds_toArray, List.set]
            refine PhaseIn.done (by kernel_rfl) ?_ _
            go_wp2
            exact ⟨⟨j + 1, by omega, by go_num, HM5, HT5, XR5⟩, by simp [intOf]; omega⟩
end Go.Proofs.YtckhfpaicnjknaaGreat.Pol
