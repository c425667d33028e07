/-
  Both sums multiplied: the program's PolMul.
  What is plain of an Op, for every Op: the program's plainOf.
  The program's copied: a list of ints in memory of its own.
  The program's copiedSum: a sum in memory of its own.
-/
import Derived.Test.YtggilenddbobnaaGreatAl
import Derived.Test.YtggilenddbobnaaGreatJ22
import Derived.Test.YtggilenddbobnaaGreatJ17
import Derived.Test.YtggilenddbobnaaGreatJ05
import Derived.Laws.CopyOwn
import Derived.Test.YtggilenddbobnaaGreatJ04
import Derived.Test.YtggilenddbobnaaGreatJ08
namespace Go.Proofs.YtggilenddbobnaaGreat.Pol
set_option linter.unusedVariables false
open Go.ChangeShapes Go.WideShapes Go.ChangeAt Go.RowKit Go.Shelf IntS Rng
theorem own_row' {w : World} {lo : Nat} {v : Value} {l : List Int} (h : IntS.Own w lo v l) : ∃ B, Row w B v l := by
 by_cases e : v = .slice none 0 0
 · have e0 : l = [] := by
    obtain ⟨_, h0 | ⟨g, cap, cur, hv, _⟩⟩ := h
    · exact List.length_eq_zero_iff.1 h0.2
    · rw [e] at hv; injection hv with q _ _; cases q
   rw [e, e0]
   exact ⟨0, none, 0, 0, rfl, Nat.le_refl _, Nat.zero_le _, fun _ => rfl, Or.inl rfl⟩
 · obtain ⟨g, cap, hv, k1, k2, k3⟩ := h.form e
   exact ⟨g, k3.row⟩
set_option maxRecDepth 8000 in
set_option maxHeartbeats 4000000 in
theorem implMul (ps qs : List Mono) (B B' : Nat) (v v' : Value) (w : World) (h : PRow w B v ps) (h' : PRow w B' v' qs) :
 Calls Tryz.prog 58 #[.agg #[v], .agg #[v']] w fun e w' => ∃ a l c, e = .returned (.tuple #[.agg #[.slice a l c], .bool (mulB ps qs)]) ∧ WPoly w' w.heap.size w'.heap.size (.slice a l c) (mulP ps qs) ∧ Below w.heap.size w w' := by
 have bV : Below w.heap.size w (((w.alloc (.cells #[v] 35)).alloc (.cells #[v'] 35)).alloc (.cells #[.slice none 0 0] 35)) := (((Below.refl _ _).alloc (Nat.le_refl _) _).alloc (by simp) _).alloc (by simp; omega) _
 have R0 := Rec.new ((w.alloc (.cells #[v] 35)).alloc (.cells #[v'] 35)) [.slice none 0 0] 35
 rw [show ((w.alloc (.cells #[v] 35)).alloc (.cells #[v'] 35)).heap.size = w.heap.size + 2 by simp] at R0
 have Q0 := (Rec.new (w.alloc (.cells #[v] 35)) [v'] 35).alloc (.cells #[.slice none 0 0] 35)
 rw [show (w.alloc (.cells #[v] 35)).heap.size = w.heap.size + 1 by simp] at Q0
 have RR := hide R0
 have QQ := hide Q0
 have AA := hide (((Rec.new w [v] 35).alloc (.cells #[v'] 35)).alloc (.cells #[.slice none 0 0] 35))
 have HW := hide h
 have HW' := hide h'
 have H := hide (h.below bV)
 have BW := hide bV
 obtain ⟨a, cap, off, rfl, h2, h3, _, h4⟩ := h
 obtain ⟨a', cap', off', rfl, h2', h3', _, h4'⟩ := h'
 unfold maxLen at h3 h3'
 clear bV R0 Q0
 obtain ⟨R, eR⟩ : ∃ R, mulP ps qs = R := ⟨_, rfl⟩
 obtain ⟨T, eT⟩ : ∃ T, mulB ps qs = T := ⟨_, rfl⟩
 rw [eR, eT]
 have ER := hide eR
 have ET := hide eT
 clear eR eT
 go_enter Tryz.func58, Tryz.ntmps58
 go_wp2_with fail
 generalize (((w.alloc (.cells #[.slice a ps.length cap] 35)).alloc (.cells #[.slice a' qs.length cap'] 35)).alloc (.cells #[.slice none 0 0] 35)) = V0 at RR QQ AA H BW ⊢
 have a0 := AA.out.cell 0 _ rfl
 go_wp2_with fail
 refine (implOk ps B _ _ H.out).mono ?_
 rintro e V ⟨rfl, hb⟩
 replace RR := hide (RR.out.below hb)
 replace QQ := hide (QQ.out.below hb)
 replace AA := hide (AA.out.below hb)
 replace BW := hide (BW.out.trans (hb.mono BW.out.size))
 clear hb a0 H
 cases ok : okP ps with
 | false =>
  have hf := mul_no (ps := ps) (qs := qs) (fun h => by rw [ok] at h; exact absurd h.1 (by decide))
  have HD := hide (ER.out.symm.trans hf.2)
  obtain rfl := ET.out.symm.trans hf.1
  have r0 := RR.out.cell 0 _ rfl
  have s0 := RR.out.soft 0
  clear ok hf
  have B0 := hide (BW.out.setCell (p := ⟨w.heap.size + 2, 0, none⟩) (by show w.heap.size ≤ w.heap.size + 2; omega) (.slice none 0 0))
  have Z0 := hide (RR.out.set 0 (.slice none 0 0) (by simp) rfl)
  go_wp2
  generalize V.setCell ⟨w.heap.size + 2, 0, none⟩ (.slice none 0 0) = U at B0 Z0 ⊢
  have z0 := Z0.out.cell 0 _ rfl
  exact bodyPost_ret (v := .tuple #[.agg #[.slice none 0 0], .bool false]) (by simp [results, Tryz.results58, go_sem, z0]) rfl ⟨none, 0, 0, rfl, by rw [HD.out]; exact WPoly.nil _ _ _, B0.out⟩
 | true =>
  have OK := hide ok
  have H' := hide (HW'.out.below BW.out)
  clear ok
  have a0 := QQ.out.cell 0 _ rfl
  go_wp2_with fail
  refine (implOk qs B' _ _ H'.out).mono ?_
  rintro e u ⟨rfl, hb⟩
  replace RR := hide (RR.out.below hb)
  replace QQ := hide (QQ.out.below hb)
  replace AA := hide (AA.out.below hb)
  replace BW := hide (BW.out.trans (hb.mono BW.out.size))
  clear hb a0 H'
  cases ok' : okP qs with
  | false =>
   have hf := mul_no (ps := ps) (qs := qs) (fun h => by rw [ok'] at h; exact absurd h.2 (by decide))
   have HD := hide (ER.out.symm.trans hf.2)
   obtain rfl := ET.out.symm.trans hf.1
   have r0 := RR.out.cell 0 _ rfl
   have s0 := RR.out.soft 0
   clear ok' hf
   have B0 := hide (BW.out.setCell (p := ⟨w.heap.size + 2, 0, none⟩) (by show w.heap.size ≤ w.heap.size + 2; omega) (.slice none 0 0))
   have Z0 := hide (RR.out.set 0 (.slice none 0 0) (by simp) rfl)
   go_wp2
   generalize u.setCell ⟨w.heap.size + 2, 0, none⟩ (.slice none 0 0) = U at B0 Z0 ⊢
   have z0 := Z0.out.cell 0 _ rfl
   exact bodyPost_ret (v := .tuple #[.agg #[.slice none 0 0], .bool false]) (by simp [results, Tryz.results58, go_sem, z0]) rfl ⟨none, 0, 0, rfl, by rw [HD.out]; exact WPoly.nil _ _ _, B0.out⟩
  | true =>
   have hf := mul_yes OK.out ok'
   have HD := hide (hf.2.symm.trans ER.out)
   have HT := hide (hf.1.symm.trans ET.out)
   have OK' := hide ok'
   clear ok' hf ER ET
   have GP := hide (ok_good OK.out)
   have GQ := hide (ok_good OK'.out)
   have MP := hide (map_new u)
   have bm := (Below.refl _ u).alloc (Nat.le_refl _) (.map #[] 0)
   have a0 := (AA.out.below bm).cell 0 _ rfl
   have hmm := @run_makeMap Tryz.prog
   have BU := hide bm
   have RR2 := hide (RR.out.below bm)
   have QQ2 := hide (QQ.out.below bm)
   have US : Hid (u.heap.size < (u.alloc (.map #[] 0)).heap.size) := show _ < _ by simp
   clear bm
   go_wp2_with fail
   clear a0 hmm
   generalize (u.alloc (.map #[] 0)) = U at MP BU RR2 QQ2 US ⊢
   have lu : Hid (w.heap.size + 2 < u.heap.size) := RR.out.lt
   have BWU := hide (BW.out.trans (BU.out.mono BW.out.size))
   have bel : Hid (∀ {wi : World}, Turn u.heap.size U wi → Below w.heap.size w wi) := @fun wi ht => BWU.out.trans (ht.below (by have := BW.out.size; omega) (by have := BWU.out.size; omega))
   obtain ⟨n, en⟩ : ∃ n, ps.length = n := ⟨_, rfl⟩
   obtain ⟨m, em⟩ : ∃ m, qs.length = m := ⟨_, rfl⟩
   have EN := hide en
   have EM := hide em
   have n12 : Hid (n ≤ 12) := show _ ≤ _ by rw [← en]; exact GP.out.many
   have m12 : Hid (m ≤ 12) := show _ ≤ _ by rw [← em]; exact GQ.out.many
   have H4 := hide h4
   have H4' := hide h4'
   rw [en] at h2
   rw [em] at h2' QQ2
   rw [en, em]
   clear en em h4 h4' HW HW'
   have MP2 : Hid (MapOf U u.heap.size (esM qs (ps.take 0))) := by rw [List.take_zero]; exact MP
   clear MP
   go_loopw [24] (fun i wr => ∃ (k : Nat), k ≤ n ∧ i = .int .i64 k ∧ Hid (MapOf wr u.heap.size (esM qs (ps.take k))) ∧ Hid (Turn u.heap.size U wr)) (fun i _ => n - (intOf i).toNat)
   case atStart => exact ⟨0, by omega, rfl, MP2, Turn.refl _ _⟩
   case round =>
    obtain ⟨k, hk, rfl, HM, HT2⟩ := hrel
    clear MP2
    by_cases hlt : k < n
    case neg =>
     obtain rfl : k = n := by omega
     have HM2 := HM.out
     rw [← EN.out, List.take_length] at HM2
     have TM : Told (esM qs ps) (mulL qs [] ps) := by
      have h9 := told_mul GQ.out (ps := ps) (es := []) (l := []) (fun x hx => ⟨GP.out.at_ x hx, GP.out.four x hx⟩) told_nil
      rw [List.nil_append] at h9
      exact h9
     have C := hide (told (esM qs ps) (mulL qs [] ps) u.heap.size wr HM2 TM (by rw [esM_len, EN.out, EM.out]; have h1 := n12.out; have h2 := m12.out; have : k * m ≤ 12 * 12 := Nat.mul_le_mul h1 h2; omega) (fun x hx => esM_mem (fun y hy => GP.out.four y hy) (fun y hy => GQ.out.four y hy) hx))
     rw [HD.out, HT.out] at C
     clear HM HM2 TM
     go_wp2_with fail
     refine C.out.mono ?_
     rintro e u2 ⟨qa, ql, qc, rfl, W2, hb⟩
     have B1 := hide (bel.out HT2.out)
     have B3 := hide (B1.out.trans (hb.mono B1.out.size))
     have R3 := hide ((RR2.out.turn HT2.out (by have := lu.out; omega)).below hb)
     have lw : Hid (u.heap.size ≤ wr.heap.size) := show _ ≤ _ by have := US.out; have := HT2.out.size; omega
     have r0 := R3.out.cell 0 _ rfl
     have s0 := R3.out.soft 0
     have B4 := hide (B3.out.setCell (p := ⟨w.heap.size + 2, 0, none⟩) (by show w.heap.size ≤ w.heap.size + 2; omega) (.slice qa ql qc))
     have Z0 := hide (R3.out.set 0 (.slice qa ql qc) (by simp) rfl)
     have W4 := W2.keep (w' := u2.setCell ⟨w.heap.size + 2, 0, none⟩ (.slice qa ql qc)) (Keep.of_turn ((Turn.refl (w.heap.size + 2) _).setCell (p := ⟨w.heap.size + 2, 0, none⟩) rfl _)) (fun b' h1 _ (h2 : b' = _) => by have := lu.out; have := lw.out; omega)
     have W5 := hide (W4.wide (lo' := w.heap.size) (hi' := (u2.setCell ⟨w.heap.size + 2, 0, none⟩ (.slice qa ql qc)).heap.size) (by have := lu.out; have := lw.out; omega) (by simp [World.setCell]))
     clear C W2 hb B1 W4 B3 lw
     go_wp2
     generalize u2.setCell ⟨w.heap.size + 2, 0, none⟩ (.slice qa ql qc) = U2 at B4 Z0 W5 ⊢
     have z0 := Z0.out.cell 0 _ rfl
     exact bodyPost_ret (v := .tuple #[.agg #[.slice qa ql qc], .bool T]) (by simp [results, Tryz.results58, go_sem, z0]) rfl ⟨qa, ql, qc, rfl, W5.out, B4.out⟩
    obtain ⟨x, ex⟩ : ∃ x, ps[k]? = some x := ⟨_, List.getElem?_eq_getElem (by rw [EN.out]; exact hlt)⟩
    obtain ⟨rfl, hc⟩ := H4.out.resolve_left (fun e => by rw [e] at ex; simp at ex)
    have xm := List.mem_of_getElem? ex
    have EX := hide ex
    have XF : Hid ((0 < x.1 ∧ x.1 < 65536) ∧ x.2.length ≤ 4 ∧ (∀ a ∈ x.2, 0 ≤ a ∧ a < 200) ∧ x.2.Pairwise (· ≤ ·)) := ⟨(GP.out.fine _ xm).2, GP.out.four _ xm, GP.out.at_ _ xm, GP.out.ris _ xm⟩
    obtain ⟨co, at_⟩ := x
    obtain ⟨g1, s, bx, g2, g3⟩ := hc k _ ex
    have G3 := hide g3
    have BR := bel.out HT2.out
    have cx := cell_below BR g1
    have sx := cell_below BR g2
    obtain ⟨qx, cx2, _, rfl, _⟩ := g3
    simp only [] at cx sx G3 XF
    have q0 := (QQ2.out.turn HT2.out (by have := lu.out; omega)).below ((Below.refl _ wr).alloc (Nat.le_refl _) (.cells #[.int .i64 co, .slice qx at_.length cx2] 82))
    have q00 := q0.cell 0 _ rfl
    have lk : ((k : Nat) : Int) < (n : Nat) := by omega
    clear ex g1 g2 hc xm BR q0
    have bA := (Below.refl _ wr).alloc (Nat.le_refl _) (.cells #[.int .i64 co, .slice qx at_.length cx2] 82)
    have XR := hide (Rec.new wr [.int .i64 co, .slice qx at_.length cx2] 82)
    have HM2 : Hid (MapOf (wr.alloc (.cells #[.int .i64 co, .slice qx at_.length cx2] 82)) u.heap.size (esM qs (ps.take k) ++ prodE (co, at_) (qs.take 0))) := by
     rw [List.take_zero, prodE, List.map_nil, List.append_nil]
     exact HM.out.below bA
    have HT3 : Hid (Turn u.heap.size U (wr.alloc (.cells #[.int .i64 co, .slice qx at_.length cx2] 82))) := HT2.out.trans (Turn.of_below bA)
    have LB : Hid (u.heap.size < wr.heap.size) := HM.out.lt
    have LE : Hid ((esM qs (ps.take k)).length ≤ 144) := show _ ≤ _ by rw [esM_len, EM.out, List.length_take]; have h1 := n12.out; have h2 := m12.out; have : min k ps.length * m ≤ 12 * 12 := Nat.mul_le_mul (by omega) h2; omega
    clear bA HM HT2
    go_wp2
    generalize (wr.alloc (.cells #[.int .i64 co, .slice qx at_.length cx2] 82)) = wv at XR HM2 HT3 q00 ⊢
    clear cx sx q00
    obtain ⟨Xb, eXb⟩ : ∃ Xb, wr.heap.size = Xb := ⟨_, rfl⟩
    rw [eXb] at XR LB
    try rw [eXb]
    clear eXb
    go_loopw [31] (fun i wi => ∃ (j : Nat), j ≤ m ∧ i = .int .i64 j ∧ Hid (MapOf wi u.heap.size (esM qs (ps.take k) ++ prodE (co, at_) (qs.take j))) ∧ Hid (Turn u.heap.size U wi) ∧ Hid (Rec Xb [.int .i64 co, .slice qx at_.length cx2] wi)) (fun i _ => m - (intOf i).toNat)
    case atStart => exact ⟨0, by omega, rfl, HM2, HT3, XR⟩
    case round =>
     clear HM2 HT3 XR
     obtain ⟨j, hj, rfl, HM, HT2, XR⟩ := hrel
     by_cases hjm : j < m
     case neg =>
      obtain rfl : j = m := by omega
      have HM2 := HM.out
      rw [← EM.out, List.take_length, ← esM_next EX.out] at HM2
      have HM3 := hide HM2
      clear HM HM2 XR
      go_wp2
      exact ⟨⟨k + 1, by omega, by go_num, HM3, HT2⟩, by simp [intOf]; omega⟩
     obtain ⟨y, ey⟩ : ∃ y, qs[j]? = some y := ⟨_, List.getElem?_eq_getElem (by rw [EM.out]; exact hjm)⟩
     obtain ⟨rfl, hd⟩ := H4'.out.resolve_left (fun e => by rw [e] at ey; simp at ey)
     have ym := List.mem_of_getElem? ey
     have YF : Hid ((0 < y.1 ∧ y.1 < 65536) ∧ y.2.length ≤ 4 ∧ (∀ a ∈ y.2, 0 ≤ a ∧ a < 200) ∧ y.2.Pairwise (· ≤ ·)) := ⟨(GQ.out.fine _ ym).2, GQ.out.four _ ym, GQ.out.at_ _ ym, GQ.out.ris _ ym⟩
     have NX := hide (prod_next (x := (co, at_)) ey)
     obtain ⟨d, bt_⟩ := y
     obtain ⟨g1, s', by_, g2, g3⟩ := hd j _ ey
     have BR := bel.out HT2.out
     have cy := cell_below BR g1
     have sy := cell_below BR g2
     have RY := hide (g3.below BR)
     have RX := hide (G3.out.below BR)
     obtain ⟨qy, cy2, _, rfl, _⟩ := g3
     simp only [] at cy sy RY YF NX
     have lj : ((j : Nat) : Int) < (m : Nat) := by omega
     have LH : Hid ((esM qs (ps.take k) ++ prodE (co, at_) (qs.take j)).length ≤ 1000000) := show _ ≤ _ by rw [List.length_append, prodE, List.length_map, List.length_take]; have := LE.out; have := m12.out; omega
     have MS : Hid (Srt.sortI (at_ ++ bt_) = mergeL at_ bt_) := merge_sort XF.out.2.2.2 YF.out.2.2.2
     have LW : Hid (u.heap.size < wr.heap.size) := HM.out.lt
     clear ey g1 g2 hd ym BR
     go_wp2_with fail
     refine (wpIn_wide (n := 0)).1 ?_
     have hb := ((Below.refl _ wr).alloc (Nat.le_refl _) (.cells #[.int .i64 d, .slice qy bt_.length cy2] 82)).drew
     have XR1 := XR.out.below hb
     have hHeld : ((wr.alloc (.cells #[.int .i64 d, .slice qy bt_.length cy2] 82)).drew.cell? ⟨Xb, 0, none⟩ = some (.int .i64 co) ∧ (wr.alloc (.cells #[.int .i64 d, .slice qy bt_.length cy2] 82)).drew.cell? ⟨Xb, 1, none⟩ = some (.slice qx at_.length cx2) ∧ (wr.alloc (.cells #[.int .i64 d, .slice qy bt_.length cy2] 82)).drew.cell? ⟨wr.heap.size, 0, none⟩ = some (.int .i64 d) ∧ (wr.alloc (.cells #[.int .i64 d, .slice qy bt_.length cy2] 82)).drew.cell? ⟨wr.heap.size, 1, none⟩ = some (.slice qy bt_.length cy2)) := by
      refine ⟨XR1.cell 0 _ rfl, XR1.cell 1 _ rfl, ?_, ?_⟩ <;> (show (wr.alloc _).cell? _ = _; rw [World.cell?_alloc_new]; rfl)
     refine PhaseIn.region (S := fun w' => (w'.cell? ⟨Xb, 0, none⟩ = some (.int .i64 co) ∧ w'.cell? ⟨Xb, 1, none⟩ = some (.slice qx at_.length cx2) ∧ w'.cell? ⟨wr.heap.size, 0, none⟩ = some (.int .i64 d) ∧ w'.cell? ⟨wr.heap.size, 1, none⟩ = some (.slice qy bt_.length cy2))) 13 (by kernel_rfl) ?_
     replace HM := hide (HM.out.below hb)
     replace RX := hide (RX.out.below hb)
     replace RY := hide (RY.out.below hb)
     replace HT2 : Hid (Turn u.heap.size U _) := HT2.out.trans (Turn.of_below hb)
     replace XR := hide XR1
     obtain ⟨Yb, eYb⟩ : ∃ Yb, wr.heap.size = Yb := ⟨_, rfl⟩
     have LY : Hid (u.heap.size < Yb) := show _ < _ by rw [← eYb]; exact LW.out
     clear hb XR1 cy sy
     generalize (wr.alloc (.cells #[.int .i64 d, .slice qy bt_.length cy2] 82)).drew = wd at hHeld HM RX RY HT2 XR ⊢
     rw [eYb] at hHeld
     try rw [eYb]
     clear eYb
     refine PhaseIn.takeE (i := 0) (v := ?_) [0, 12] 35 rfl (by rfl) (by kernel_rfl) (fun _ _ _ h => h) (Or.inl ⟨by kernel_rfl, ?_⟩) hHeld ?_
     rotate_left
     · intro w' hSw
       (try dsimp only at hSw)
       go_simp
       first | done | with_reducible rfl
     try simp only [Act.put, sA, List.set]
     refine PhaseIn.takeE (i := 1) (v := ?_) [1, 2, 5, 11, 12] 36 rfl (by rfl) (by kernel_rfl) (fun _ _ _ h => h) (Or.inl ⟨by kernel_rfl, ?_⟩) hHeld ?_
     rotate_left
     · intro w' hSw
       (try dsimp only at hSw)
       go_simp
       first | done | with_reducible rfl
     try simp only [Act.put, sA, List.set]
     refine PhaseIn.takeE (i := 2) (v := ?_) [2, 5, 11, 12] 37 rfl (by rfl) (by kernel_rfl) (fun _ _ _ h => h) (Or.inl ⟨by kernel_rfl, ?_⟩) hHeld ?_
     rotate_left
     · intro w' hSw
       (try dsimp only at hSw)
       go_simp
       first | done | with_reducible rfl
     try simp only [Act.put, sA, List.set]
     refine PhaseIn.takeE (i := 3) (v := ?_) [3, 4, 5, 11, 12] 38 rfl (by rfl) (by kernel_rfl) (fun _ _ _ h => h) (Or.inl ⟨by kernel_rfl, ?_⟩) hHeld ?_
     rotate_left
     · intro w' hSw
       (try dsimp only at hSw)
       go_simp
       first | done | with_reducible rfl
     try simp only [Act.put, sA, List.set]
     refine PhaseIn.takeE (i := 4) (v := ?_) [4, 5, 11, 12] 39 rfl (by rfl) (by kernel_rfl) (fun _ _ _ h => h) (Or.inl ⟨by kernel_rfl, ?_⟩) hHeld ?_
     rotate_left
     · intro w' hSw
       (try dsimp only at hSw)
       go_simp
       first | done | with_reducible rfl
     try simp only [Act.put, sA, List.set]
     refine PhaseIn.takeE (i := 6) (v := ?_) [6, 7, 10, 11, 12] 41 rfl (by rfl) (by kernel_rfl) (fun _ _ _ h => h) (Or.inl ⟨by kernel_rfl, ?_⟩) hHeld ?_
     rotate_left
     · intro w' hSw
       (try dsimp only at hSw)
       go_simp
       first | done | with_reducible rfl
     try simp only [Act.put, sA, List.set]
     refine PhaseIn.takeE (i := 7) (v := ?_) [7, 10, 11, 12] 42 rfl (by rfl) (by kernel_rfl) (fun _ _ _ h => h) (Or.inl ⟨by kernel_rfl, ?_⟩) hHeld ?_
     rotate_left
     · intro w' hSw
       (try dsimp only at hSw)
       go_simp
       first | done | with_reducible rfl
     try simp only [Act.put, sA, List.set]
     refine PhaseIn.takeE (i := 8) (v := ?_) [8, 9, 10, 11, 12] 43 rfl (by rfl) (by kernel_rfl) (fun _ _ _ h => h) (Or.inl ⟨by kernel_rfl, ?_⟩) hHeld ?_
     rotate_left
     · intro w' hSw
       (try dsimp only at hSw)
       go_simp
       first | done | with_reducible rfl
     try simp only [Act.put, sA, List.set]
     refine PhaseIn.takeE (i := 9) (v := ?_) [9, 10, 11, 12] 44 rfl (by rfl) (by kernel_rfl) (fun _ _ _ h => h) (Or.inl ⟨by kernel_rfl, ?_⟩) hHeld ?_
     rotate_left
     · intro w' hSw
       (try dsimp only at hSw)
       go_simp
       first | done | with_reducible rfl
     try simp only [Act.put, sA, List.set]
     refine PhaseIn.two (i := 5) (j := 10) (by kernel_rfl) rfl rfl (by kernel_rfl) (by kernel_rfl) (fun K hK => ?_) (fun K hK => ?_)
     · -- the word first
       unfold Oper.wpIn
       refine ⟨fun _ _ => trivial, ?_⟩
       go_simp
       refine ⟨rfl, (callsIn_wide.2 (Wrd.implDo_mul co d wd (by have := XF.out.1; omega) XF.out.1.2 (by have := YF.out.1; omega) YF.out.1.2)).mono ?_⟩
       rintro e w2 ⟨rfl, hb⟩
       refine hK _ _ (fun _ => ⟨cell_below hb hHeld.1, cell_below hb hHeld.2.1, cell_below hb hHeld.2.2.1, cell_below hb hHeld.2.2.2⟩) ?_
       replace HM := hide (HM.out.below hb)
       replace RX := hide (RX.out.below hb)
       replace RY := hide (RY.out.below hb)
       replace XR := hide (XR.out.below hb)
       replace HT2 : Hid (Turn u.heap.size U _) := HT2.out.trans (Turn.of_below hb)
       replace hHeld := And.intro (cell_below hb hHeld.1) (And.intro (cell_below hb hHeld.2.1) (And.intro (cell_below hb hHeld.2.2.1) (cell_below hb hHeld.2.2.2)))
       clear hK K hb
       try simp only [Act.put, sA, List.set]
       refine PhaseIn.one (i := 10) (by kernel_rfl) rfl (by kernel_rfl) (fun K hK => ?_)
       unfold Oper.wpIn
       refine ⟨fun _ _ => trivial, ?_⟩
       go_simp
       have hb := (Below.refl _ w2).alloc (Nat.le_refl _) (.cells #[.slice qx at_.length cx2, .slice qy bt_.length cy2] 73)
       have TR := hide (Rec.new w2 [.slice qx at_.length cx2, .slice qy bt_.length cy2] 73)
       refine hK _ _ (fun _ => ⟨cell_below hb hHeld.1, cell_below hb hHeld.2.1, cell_below hb hHeld.2.2.1, cell_below hb hHeld.2.2.2⟩) ?_
       replace HM := hide (HM.out.below hb)
       replace RX := hide (RX.out.below hb)
       replace RY := hide (RY.out.below hb)
       replace XR := hide (XR.out.below hb)
       replace HT2 : Hid (Turn u.heap.size U _) := HT2.out.trans (Turn.of_below hb)
       replace hHeld := And.intro (cell_below hb hHeld.1) (And.intro (cell_below hb hHeld.2.1) (And.intro (cell_below hb hHeld.2.2.1) (cell_below hb hHeld.2.2.2)))
       clear hK K hb
       generalize (w2.alloc (.cells #[.slice qx at_.length cx2, .slice qy bt_.length cy2] 73)) = w3 at hHeld HM RX RY HT2 XR TR ⊢
       try simp only [Act.put, sA, List.set]
       refine PhaseIn.one (i := 11) (by kernel_rfl) rfl (by kernel_rfl) (fun K hK => ?_)
       unfold Oper.wpIn
       refine ⟨fun _ _ => trivial, ?_⟩
       go_simp
       refine ⟨rfl, (callsIn_wide.2 (concat at_ bt_ bx by_ _ qx qy cx2 cy2 _ TR.out RX.out RY.out (by have := XF.out.2.1; omega) (by have := YF.out.2.1; omega))).mono ?_⟩
       rintro e w4 ⟨qz, nz, cz, rfl, OZ, hb⟩
       refine hK _ _ (fun _ => ⟨cell_below hb hHeld.1, cell_below hb hHeld.2.1, cell_below hb hHeld.2.2.1, cell_below hb hHeld.2.2.2⟩) ?_
       obtain ⟨bz, RZ⟩ := own_row' OZ
       replace RZ := hide RZ
       replace HM := hide (HM.out.below hb)
       replace RX := hide (RX.out.below hb)
       replace RY := hide (RY.out.below hb)
       replace XR := hide (XR.out.below hb)
       replace HT2 : Hid (Turn u.heap.size U _) := HT2.out.trans (Turn.of_below hb)
       replace hHeld := And.intro (cell_below hb hHeld.1) (And.intro (cell_below hb hHeld.2.1) (And.intro (cell_below hb hHeld.2.2.1) (cell_below hb hHeld.2.2.2)))
       clear hK K hb OZ TR
       try simp only [Act.put, sA, List.set]
       refine PhaseIn.one (i := 12) (by kernel_rfl) rfl (by kernel_rfl) (fun K hK => ?_)
       unfold Oper.wpIn
       refine ⟨fun _ _ => trivial, ?_⟩
       go_simp
       refine ⟨rfl, (callsIn_wide.2 (put (esM qs (ps.take k) ++ prodE (co, at_) (qs.take j)) u.heap.size (co * d % 65536) (at_ ++ bt_) bz _ w4 HM.out LH.out (by omega) RZ.out (fun a ha => by rcases List.mem_append.1 ha with h | h; have := XF.out.2.2.1 a h; omega; have := YF.out.2.2.1 a h; omega) (by rw [List.length_append]; have := XF.out.2.1; have := YF.out.2.1; omega))).mono ?_⟩
       rintro e w5 ⟨rfl, hM5, hT5⟩
       have X5 := XR.out.turn hT5 (by have := LB.out; omega)
       have hS5 : (w5.cell? ⟨Xb, 0, none⟩ = some (.int .i64 co) ∧ w5.cell? ⟨Xb, 1, none⟩ = some (.slice qx at_.length cx2) ∧ w5.cell? ⟨Yb, 0, none⟩ = some (.int .i64 d) ∧ w5.cell? ⟨Yb, 1, none⟩ = some (.slice qy bt_.length cy2)) := ⟨X5.cell 0 _ rfl, X5.cell 1 _ rfl, (hT5.cell (p := ⟨Yb, 0, none⟩) (World.block_lt_of_cell? w4 _ hHeld.2.2.1) (by have := LY.out; show Yb ≠ _; omega)).trans hHeld.2.2.1, (hT5.cell (p := ⟨Yb, 1, none⟩) (World.block_lt_of_cell? w4 _ hHeld.2.2.2) (by have := LY.out; show Yb ≠ _; omega)).trans hHeld.2.2.2⟩
       refine hK _ _ (fun _ => hS5) ?_
       rw [MS.out, List.append_assoc, ← NX.out] at hM5
       have HM5 := hide hM5
       have HT5 := hide (HT2.out.trans hT5)
       have XR5 := hide X5
       clear hK K hHeld HM HT2 XR RZ RX RY hM5 hT5 X5 hS5
       try simp only [Act.put, sA, List.set]
       refine PhaseIn.done (by kernel_rfl) ?_ _
       go_wp2
       exact ⟨⟨j + 1, by omega, by go_num, HM5, HT5, XR5⟩, by simp [intOf]; omega⟩
     · -- the list first
       unfold Oper.wpIn
       refine ⟨fun _ _ => trivial, ?_⟩
       go_simp
       have hb := (Below.refl _ wd).alloc (Nat.le_refl _) (.cells #[.slice qx at_.length cx2, .slice qy bt_.length cy2] 73)
       have TR := hide (Rec.new wd [.slice qx at_.length cx2, .slice qy bt_.length cy2] 73)
       refine hK _ _ (fun _ => ⟨cell_below hb hHeld.1, cell_below hb hHeld.2.1, cell_below hb hHeld.2.2.1, cell_below hb hHeld.2.2.2⟩) ?_
       replace HM := hide (HM.out.below hb)
       replace RX := hide (RX.out.below hb)
       replace RY := hide (RY.out.below hb)
       replace XR := hide (XR.out.below hb)
       replace HT2 : Hid (Turn u.heap.size U _) := HT2.out.trans (Turn.of_below hb)
       replace hHeld := And.intro (cell_below hb hHeld.1) (And.intro (cell_below hb hHeld.2.1) (And.intro (cell_below hb hHeld.2.2.1) (cell_below hb hHeld.2.2.2)))
       clear hK K hb
       generalize (wd.alloc (.cells #[.slice qx at_.length cx2, .slice qy bt_.length cy2] 73)) = w2 at hHeld HM RX RY HT2 XR TR ⊢
       try simp only [Act.put, sA, List.set]
       refine PhaseIn.one (i := 5) (by kernel_rfl) rfl (by kernel_rfl) (fun K hK => ?_)
       unfold Oper.wpIn
       refine ⟨fun _ _ => trivial, ?_⟩
       go_simp
       refine ⟨rfl, (callsIn_wide.2 (Wrd.implDo_mul co d w2 (by have := XF.out.1; omega) XF.out.1.2 (by have := YF.out.1; omega) YF.out.1.2)).mono ?_⟩
       rintro e w3 ⟨rfl, hb⟩
       refine hK _ _ (fun _ => ⟨cell_below hb hHeld.1, cell_below hb hHeld.2.1, cell_below hb hHeld.2.2.1, cell_below hb hHeld.2.2.2⟩) ?_
       replace HM := hide (HM.out.below hb)
       replace RX := hide (RX.out.below hb)
       replace RY := hide (RY.out.below hb)
       replace XR := hide (XR.out.below hb)
       replace HT2 : Hid (Turn u.heap.size U _) := HT2.out.trans (Turn.of_below hb)
       replace hHeld := And.intro (cell_below hb hHeld.1) (And.intro (cell_below hb hHeld.2.1) (And.intro (cell_below hb hHeld.2.2.1) (cell_below hb hHeld.2.2.2)))
       replace TR := hide (TR.out.below hb)
       clear hK K hb
       try simp only [Act.put, sA, List.set]
       refine PhaseIn.one (i := 11) (by kernel_rfl) rfl (by kernel_rfl) (fun K hK => ?_)
       unfold Oper.wpIn
       refine ⟨fun _ _ => trivial, ?_⟩
       go_simp
       refine ⟨rfl, (callsIn_wide.2 (concat at_ bt_ bx by_ _ qx qy cx2 cy2 _ TR.out RX.out RY.out (by have := XF.out.2.1; omega) (by have := YF.out.2.1; omega))).mono ?_⟩
       rintro e w4 ⟨qz, nz, cz, rfl, OZ, hb⟩
       refine hK _ _ (fun _ => ⟨cell_below hb hHeld.1, cell_below hb hHeld.2.1, cell_below hb hHeld.2.2.1, cell_below hb hHeld.2.2.2⟩) ?_
       obtain ⟨bz, RZ⟩ := own_row' OZ
       replace RZ := hide RZ
       replace HM := hide (HM.out.below hb)
       replace RX := hide (RX.out.below hb)
       replace RY := hide (RY.out.below hb)
       replace XR := hide (XR.out.below hb)
       replace HT2 : Hid (Turn u.heap.size U _) := HT2.out.trans (Turn.of_below hb)
       replace hHeld := And.intro (cell_below hb hHeld.1) (And.intro (cell_below hb hHeld.2.1) (And.intro (cell_below hb hHeld.2.2.1) (cell_below hb hHeld.2.2.2)))
       clear hK K hb OZ TR
       try simp only [Act.put, sA, List.set]
       refine PhaseIn.one (i := 12) (by kernel_rfl) rfl (by kernel_rfl) (fun K hK => ?_)
       unfold Oper.wpIn
       refine ⟨fun _ _ => trivial, ?_⟩
       go_simp
       refine ⟨rfl, (callsIn_wide.2 (put (esM qs (ps.take k) ++ prodE (co, at_) (qs.take j)) u.heap.size (co * d % 65536) (at_ ++ bt_) bz _ w4 HM.out LH.out (by omega) RZ.out (fun a ha => by rcases List.mem_append.1 ha with h | h; have := XF.out.2.2.1 a h; omega; have := YF.out.2.2.1 a h; omega) (by rw [List.length_append]; have := XF.out.2.1; have := YF.out.2.1; omega))).mono ?_⟩
       rintro e w5 ⟨rfl, hM5, hT5⟩
       have X5 := XR.out.turn hT5 (by have := LB.out; omega)
       have hS5 : (w5.cell? ⟨Xb, 0, none⟩ = some (.int .i64 co) ∧ w5.cell? ⟨Xb, 1, none⟩ = some (.slice qx at_.length cx2) ∧ w5.cell? ⟨Yb, 0, none⟩ = some (.int .i64 d) ∧ w5.cell? ⟨Yb, 1, none⟩ = some (.slice qy bt_.length cy2)) := ⟨X5.cell 0 _ rfl, X5.cell 1 _ rfl, (hT5.cell (p := ⟨Yb, 0, none⟩) (World.block_lt_of_cell? w4 _ hHeld.2.2.1) (by have := LY.out; show Yb ≠ _; omega)).trans hHeld.2.2.1, (hT5.cell (p := ⟨Yb, 1, none⟩) (World.block_lt_of_cell? w4 _ hHeld.2.2.2) (by have := LY.out; show Yb ≠ _; omega)).trans hHeld.2.2.2⟩
       refine hK _ _ (fun _ => hS5) ?_
       rw [MS.out, List.append_assoc, ← NX.out] at hM5
       have HM5 := hide hM5
       have HT5 := hide (HT2.out.trans hT5)
       have XR5 := hide X5
       clear hK K hHeld HM HT2 XR RZ RX RY hM5 hT5 X5 hS5
       try simp only [Act.put, sA, List.set]
       refine PhaseIn.done (by kernel_rfl) ?_ _
       go_wp2
       exact ⟨⟨j + 1, by omega, by go_num, HM5, HT5, XR5⟩, by simp [intOf]; omega⟩
end Go.Proofs.YtggilenddbobnaaGreat.Pol
namespace Go.Proofs.YtggilenddbobnaaGreat.Tab
set_option linter.unusedVariables false
set_option linter.unusedSimpArgs false
open Go.ChangeShapes Go.WideShapes Go.ChangeAt Go.RowKit IntS Pol
/-- A function value that can be entered, and sees as the specification does, of sums that are ok. -/
structure SeesOk (f : Nat) (cs : List Value) (op : Int) (w0 : World) : Prop where
 en : ∀ (args : Array Value) (w : World), (callFunc f args).run Tryz.prog w = .ok (.enter f args) w
 sh : cs = [] ∨ ∃ s n : Nat, cs = [.pointer (some ⟨s, 0, none⟩), .pointer (some ⟨n, 0, none⟩)]
 go : ∀ (x y : List Mono) (Bx By : Nat) (vx vy : Value) (w : World), Below w0.heap.size w0 w → PRow w Bx vx x → PRow w By vy y → okP x = true → okP y = true → Calls Tryz.prog f (.agg #[vx] :: .agg #[vy] :: cs).toArray w fun e w' => Two2 w w' e (plP op x y) (plB op x y)
theorem plainAll (op : Int) (h1 : 1 ≤ op) (h5 : op ≤ 5) (w : World) : Calls Tryz.prog 28 #[.int .i64 op] w fun e w' => ∃ (f : Nat) (cs : List Value), e = .returned (.func (.func f) #[] cs.toArray) ∧ SeesOk f cs op w' ∧ Below w.heap.size w w' := by
 have h : op = 1 ∨ op = 2 ∨ op = 3 ∨ op = 4 ∨ op = 5 := by omega
 rcases h with rfl | rfl | rfl | rfl | rfl
 · refine (plain1 w).mono ?_
   rintro e w' ⟨rfl, hb⟩
   exact ⟨56, [], rfl, ⟨fun _ _ => by kernel_rfl, Or.inl rfl, fun x y Bx By vx vy w _ hx hy _ _ => (implAdd x y Bx By vx vy w hx hy).mono (fun e w' ⟨a, l, c, he, hm, hb⟩ => two_cast ⟨⟨a, l, c, he, hm⟩, hb⟩ (by simp [plP, ringP]) (by simp [plB, ringB]))⟩, hb⟩
 · refine (plain2 w).mono ?_
   rintro e w' ⟨rfl, hb⟩
   exact ⟨57, [], rfl, ⟨fun _ _ => by kernel_rfl, Or.inl rfl, fun x y Bx By vx vy w _ hx hy _ _ => (ofDifference x y Bx By vx vy w hx hy).mono (fun e w' h => two_cast h (by simp [plP, ringP]) (by simp [plB, ringB]))⟩, hb⟩
 · refine (plain3 w).mono ?_
   rintro e w' ⟨rfl, hb⟩
   exact ⟨58, [], rfl, ⟨fun _ _ => by kernel_rfl, Or.inl rfl, fun x y Bx By vx vy w _ hx hy _ _ => (implMul x y Bx By vx vy w hx hy).mono (fun e w' ⟨a, l, c, he, hm, hb⟩ => two_cast ⟨⟨a, l, c, he, hm⟩, hb⟩ (by simp [plP, ringP]) (by simp [plB, ringB]))⟩, hb⟩
 · refine (plain4 w).mono ?_
   rintro e w' ⟨s, n, rfl, hS, hb⟩
   exact ⟨97, _, rfl, ⟨fun _ _ => by kernel_rfl, Or.inr ⟨s, n, rfl⟩, fun x y Bx By vx vy w h0 hx hy ox oy => (hS x y Bx By vx vy w h0 hx hy).mono (fun e w' h => two_cast h (by rw [(and4_bits ox oy).1]; simp [plP]) (by rw [(and4_bits ox oy).2]; simp [plB]))⟩, hb⟩
 · refine (plain5 w).mono ?_
   rintro e w' ⟨s, n, rfl, hS, hb⟩
   exact ⟨97, _, rfl, ⟨fun _ _ => by kernel_rfl, Or.inr ⟨s, n, rfl⟩, fun x y Bx By vx vy w h0 hx hy ox oy => (hS x y Bx By vx vy w h0 hx hy).mono (fun e w' h => two_cast h (by rw [(xor5_bits ox oy).1]; simp [plP]) (by rw [(xor5_bits ox oy).2]; simp [plB]))⟩, hb⟩
end Go.Proofs.YtggilenddbobnaaGreat.Tab
namespace Go.Proofs.YtggilenddbobnaaGreat.Copd
open Go.ChangeShapes Go.WideShapes Go.ChangeAt Go.RowKit IntS
theorem sizeInt : (Tryz.prog.info? 3).map (·.size) = some 1 := by kernel_rfl
theorem made_zero (n : Nat) : madeCells #[.int .i64 0] n = (List.replicate n (Value.int .i64 0)).toArray := by
 apply Array.ext'
 simp [madeCells, Nat.mod_one]
 rw [List.eq_replicate_iff]
 refine ⟨by simp, fun b hb => ?_⟩
 simp at hb
 exact hb.2.symm
theorem made_heap (w : World) (n : Nat) (t : TypeId) : (w.alloc (.cells (madeCells #[.int .i64 0] n) t)).heap[w.heap.size]? = some (.cells (List.replicate n (Value.int .i64 0)).toArray t (0, 0)) := by
 rw [made_zero]
 exact (MapKept.heap_alloc w _).1
theorem own_full {w : World} {g n : Nat} {xs : List Int} (hn : xs.length = n) (hm : n ≤ maxLen) (hg : w.heap[g]? = some (.cells (vals xs).toArray 3 (0, 0))) : IntS.Own w g (.slice (some ⟨g, 0, none⟩) n n) xs := by
 subst hn
 refine ⟨by simp [vals], Or.inr ⟨g, xs.length, (vals xs).toArray, rfl, Nat.le_refl _, hg, Nat.le_refl _, hm, by simp [vals], ?_⟩⟩
 rw [List.take_of_length_le (by simp [vals])]
theorem splice_all {xs : List Int} {n : Nat} (hn : xs.length = n) : splice (List.replicate n (Value.int .i64 0)) 0 (vals xs) = vals xs := by
 simp [splice, vals, hn]
theorem one_vals {xs : List Int} : ∀ v ∈ vals xs, v.oneCell' = true := fun v hv => by
 obtain ⟨y, _, rfl⟩ := List.mem_map.1 hv
 rfl
theorem row_src {w : World} {B n cap : Nat} {xs : List Int} {a : Option Addr} (h : Row w B (.slice a n cap) xs) (h0 : 0 < (vals xs).length) : ∃ ad, a = some ad ∧ ∀ j v, (vals xs)[j]? = some v → w.cell? (ad.add j) = some v := by
 obtain ⟨a', cap', off', hv, _, _, _, h4⟩ := h
 cases hv
 rcases h4 with h4 | ⟨h4, h5⟩
 · subst h4; simp [vals] at h0
 · refine ⟨_, h4, fun j v hv => ?_⟩
   rw [Go.WideShapes.add_plain]
   simp only [vals, List.getElem?_map, Option.map_eq_some_iff] at hv
   obtain ⟨y, hy, rfl⟩ := hv
   exact h5 j y hy
set_option maxHeartbeats 2000000 in
set_option maxRecDepth 8000 in
theorem copied (xs : List Int) (B : Nat) (v : Value) (w : World) (h : Row w B v xs) (hn : xs.length ≤ 2000000) :
 Calls Tryz.prog 121 #[v] w fun e w' => ∃ g : Nat, e = .returned (.slice (some ⟨g, 0, none⟩) xs.length xs.length) ∧ IntS.Own w' g (.slice (some ⟨g, 0, none⟩) xs.length xs.length) xs ∧ w.heap.size ≤ g ∧ g < w'.heap.size ∧ Below w.heap.size w w' := by
 have HR := hide h
 obtain ⟨a, cap, off, rfl, h2, h3, hz, h4⟩ := h
 obtain ⟨n, en⟩ : ∃ n, xs.length = n := ⟨_, rfl⟩
 unfold maxLen at h3
 have hmk := run_make_row' (P := Tryz.prog) 73 3 (.int .i64 0) 8 Tryz.underlying73 (by kernel_rfl) rfl .i64 .i64 n (by omega) (by omega) w
 have HB := hide ((Below.refl w.heap.size w).alloc (Nat.le_refl _) (.cells (madeCells #[.int .i64 0] n) 3))
 have HG := hide (made_heap w n 3)
 have H4 := hide h4
 have EN := hide en
 rw [en] at h2 hn ⊢
 have HN := hide hn
 clear h4 en hz hn
 go_enter Tryz.func121, Tryz.ntmps121
 have L1 : Hid ((vals xs).length = Nat.min n n) := show _ = _ by rw [vals_len, EN.out]; exact (Nat.min_self n).symm
 have L2 : Hid (0 + (vals xs).length ≤ (List.replicate n (Value.int .i64 0)).length) := show _ ≤ _ by rw [vals_len, EN.out]; simp
 have L3 : Hid (0 < (vals xs).length → some (⟨w.heap.size, 0, none⟩ : Addr) = some ⟨w.heap.size, 0, none⟩ ∧ ∃ ad, a = some ad ∧ ∀ j v, (vals xs)[j]? = some v → (w.alloc (.cells (madeCells #[.int .i64 0] n) 3)).cell? (ad.add j) = some v) := fun h0 => ⟨rfl, row_src (HR.out.below HB.out) h0⟩
 go_wp2_with (refine wpList_copy_splice rfl (.tmp 7) (.tmp 8) 73 73 rfl 3 Tryz.underlying73 sizeInt (some ⟨w.heap.size, 0, none⟩) a n n n cap rfl rfl w.heap.size 0 (List.replicate n (Value.int .i64 0)) 3 HG.out (vals xs) L1.out L3.out L2.out one_vals w.heap.size w HB.out (Nat.le_refl _) ?_; intro w2 HG2 HB2)
 rw [splice_all EN.out] at HG2
 have HO := hide (own_full EN.out (by have := HN.out; unfold maxLen; omega) HG2.out)
 clear HG2 HG HB
 replace HB2 := hide HB2
 go_wp2
 go_ret
 exact ⟨w.heap.size, rfl, HO.out, Nat.le_refl _, HO.out.isT.lt, HB2.out⟩
end Go.Proofs.YtggilenddbobnaaGreat.Copd
namespace Go.Proofs.YtggilenddbobnaaGreat.Pol
set_option linter.unusedVariables false
set_option linter.unusedSimpArgs false
open Go.ChangeShapes Go.WideShapes Go.ChangeAt Go.RowKit IntS
theorem FillP.wide {w u u' : World} {n j : Nat} {ps : List Mono} (h : FillP w n ps j u) (hb : Below u.heap.size u u') : FillP w n ps j u' := by
 obtain ⟨g, hd, hi⟩ := h.done
 refine ⟨h.below.trans (hb.mono h.below.size), Nat.lt_of_lt_of_le h.lt hb.size, ⟨g, fun i x hij hx => ?_, hi⟩, fun i hij => ?_, fun i hij => ?_⟩
 · obtain ⟨k1, k2, k3, k4, k5⟩ := hd i x hij hx
   exact ⟨cell_below hb k1, cell_below hb k2, k3.below hb, k4, Nat.lt_of_lt_of_le k5 hb.size⟩
 · obtain ⟨y, hy⟩ := h.left i hij
   exact ⟨y, cell_below hb hy⟩
 · rw [World.frozen?_of_block (w := u) (a := ⟨w.heap.size, i, none⟩) (hb.block w.heap.size h.lt)]
   exact h.soft i hij
theorem own_wrowT {w : World} {base g n c : Nat} {xs : List Int} (h : IntS.Own w base (.slice (some ⟨g, 0, none⟩) n c) xs) : WRow w g (.slice (some ⟨g, 0, none⟩) n c) xs := by
 obtain ⟨g', cap', e, _, _, W⟩ := h.form (by simp)
 cases e
 exact W
structure CopS (w w0 : World) (X : Nat) (v : Value) (ps : List Mono) (k : Nat) (u : World) : Prop where
 fill : FillP w0 ps.length ps k u
 a : Rec w.heap.size [v] u
 z : Rec (w.heap.size + 1) [.slice none 0 0] u
 x : Rec X [.slice (some ⟨w.heap.size + 1 + 1, 0, none⟩) ps.length ps.length] u
 bw : Below w.heap.size w u
theorem CopS.below {w w0 u u' : World} {X : Nat} {v : Value} {ps : List Mono} {k : Nat} (h : CopS w w0 X v ps k u) (hb : Below u.heap.size u u') : CopS w w0 X v ps k u' := ⟨h.fill.wide hb, h.a.below hb, h.z.below hb, h.x.below hb, h.bw.trans (hb.mono h.bw.size)⟩
set_option maxRecDepth 8000 in
set_option maxHeartbeats 8000000 in
theorem copiedSum (ps : List Mono) (B : Nat) (v : Value) (w : World) (h : PRow w B v ps) (hl : ps.length ≤ 1000) (ha : ∀ x ∈ ps, x.2.length ≤ 1000) :
 Calls Tryz.prog 100 #[.agg #[v]] w fun e w' => ∃ G, e = .returned (.agg #[.slice (some ⟨G, 0, none⟩) ps.length ps.length]) ∧ WPoly w' w.heap.size w'.heap.size (.slice (some ⟨G, 0, none⟩) ps.length ps.length) ps ∧ Below w.heap.size w w' := by
 have sz : ((w.alloc (.cells #[v] 35)).alloc (.cells #[.slice none 0 0] 35)).heap.size = w.heap.size + 1 + 1 := by simp
 have hmk := make_monos ps.length (by omega) ((w.alloc (.cells #[v] 35)).alloc (.cells #[.slice none 0 0] 35))
 have F0 := fill_new ((w.alloc (.cells #[v] 35)).alloc (.cells #[.slice none 0 0] 35)) ps.length ps 82
 have bb : Below w.heap.size w ((w.alloc (.cells #[v] 35)).alloc (.cells #[.slice none 0 0] 35)) := ((Below.refl _ _).alloc (Nat.le_refl _) _).alloc (by simp) _
 have ra := (Rec.new w [v] 35).alloc (.cells #[.slice none 0 0] 35)
 have rz := Rec.new (w.alloc (.cells #[v] 35)) [.slice none 0 0] 35
 rw [show (w.alloc (.cells #[v] 35)).heap.size = w.heap.size + 1 by simp] at rz
 have SZ := hide sz
 have H := hide h
 obtain ⟨q0, cap0, off, rfl, h2, h3, _, h4⟩ := h
 have H4 := hide h4
 have HA := hide ha
 unfold maxLen at h3
 clear h4 ha
 obtain ⟨W0, eW⟩ : ∃ W0, ((w.alloc (.cells #[.slice q0 ps.length cap0] 35)).alloc (.cells #[.slice none 0 0] 35)) = W0 := ⟨_, rfl⟩
 rw [eW] at hmk F0 bb ra rz SZ
 rw [show W0.heap.size = w.heap.size + 1 + 1 from SZ.out] at hmk
 have m1 : Below W0.heap.size W0 (W0.alloc (.cells (madeCells #[.int .i64 0, .slice none 0 0] (ps.length * 2)) 82)) := (Below.refl _ _).alloc (Nat.le_refl _) _
 have ms : (W0.alloc (.cells (madeCells #[.int .i64 0, .slice none 0 0] (ps.length * 2)) 82)).heap.size = w.heap.size + 1 + 1 + 1 := by simp; exact SZ.out
 have ra2 := ra.below m1
 have rz2 := rz.below m1
 have b2 := bb.trans (m1.mono bb.size)
 generalize W0.alloc (.cells (madeCells #[.int .i64 0, .slice none 0 0] (ps.length * 2)) 82) = U at hmk F0 ms ra2 rz2 b2
 have m2 : Below U.heap.size U (U.alloc (.cells #[.slice (some ⟨w.heap.size + 1 + 1, 0, none⟩) ps.length ps.length] 35)) := (Below.refl _ _).alloc (Nat.le_refl _) _
 have rx := Rec.new U [.slice (some ⟨w.heap.size + 1 + 1, 0, none⟩) ps.length ps.length] 35
 have C0 : Hid (CopS w W0 U.heap.size (.slice q0 ps.length cap0) ps 0 (U.alloc (.cells #[.slice (some ⟨w.heap.size + 1 + 1, 0, none⟩) ps.length ps.length] 35))) := ⟨F0.wide m2, ra2.below m2, rz2.below m2, rx, b2.trans (m2.mono b2.size)⟩
 have c0 := ra.cell 0 _ rfl
 have c1 := C0.out.a.cell 0 _ rfl
 have MS := hide ms
 clear m1 m2 ra rz ra2 rz2 rx b2 F0 bb sz ms
 go_enter Tryz.func100, Tryz.ntmps100
 go_wp2_with fail
 obtain ⟨X, eX⟩ : ∃ X, U.heap.size = X := ⟨_, rfl⟩
 have XL : Hid (X = w.heap.size + 1 + 1 + 1) := show _ = _ from eX.symm.trans MS.out
 rw [eX] at C0 ⊢
 generalize U.alloc (.cells #[.slice (some ⟨w.heap.size + 1 + 1, 0, none⟩) ps.length ps.length] 35) = V at C0 c1 ⊢
 clear hmk c0 c1 eX eW MS
 go_loopw [14] (fun i wr => ∃ k : Nat, k ≤ ps.length ∧ i = .int .i64 k ∧ Hid (CopS w W0 X (.slice q0 ps.length cap0) ps k wr)) (fun i _ => ps.length - (intOf i).toNat)
 case atStart => exact ⟨0, by omega, rfl, C0⟩
 case round =>
  obtain ⟨k, hk, rfl, CP⟩ := hrel
  clear C0
  by_cases hlt : k < ps.length
  case neg =>
   obtain rfl : k = ps.length := by omega
   have x0 := CP.out.x.cell 0 _ rfl
   have z0 := CP.out.z.cell 0 _ rfl
   have s0 := CP.out.z.soft 0
   have T1 : Turn (w.heap.size + 1) wr (wr.setCell ⟨w.heap.size + 1, 0, none⟩ (.slice (some ⟨w.heap.size + 1 + 1, 0, none⟩) ps.length ps.length)) := (Turn.refl _ wr).setCell (p := ⟨w.heap.size + 1, 0, none⟩) rfl _
   have B0 := hide (CP.out.bw.trans (T1.below (by omega) CP.out.bw.size))
   have Z0 := hide (CP.out.z.set 0 (.slice (some ⟨w.heap.size + 1 + 1, 0, none⟩) ps.length ps.length) (by simp) rfl)
   have W1 := CP.out.fill.whole rfl (by unfold maxLen; omega)
   rw [SZ.out] at W1
   have W2 := hide ((W1.keep (Keep.of_turn T1) (fun b h1 h2 (h3 : b = _) => by omega)).wide (lo' := w.heap.size) (hi' := (wr.setCell ⟨w.heap.size + 1, 0, none⟩ (.slice (some ⟨w.heap.size + 1 + 1, 0, none⟩) ps.length ps.length)).heap.size) (by omega) T1.size)
   clear W1 T1
   go_wp2
   generalize wr.setCell ⟨w.heap.size + 1, 0, none⟩ (.slice (some ⟨w.heap.size + 1 + 1, 0, none⟩) ps.length ps.length) = Y at B0 Z0 W2 ⊢
   have z1 := Z0.out.cell 0 _ rfl
   exact bodyPost_ret (v := .agg #[.slice (some ⟨w.heap.size + 1 + 1, 0, none⟩) ps.length ps.length]) (by simp [results, Tryz.results100, go_sem, z1]) rfl ⟨_, rfl, W2.out, B0.out⟩
  · obtain ⟨x, ex⟩ : ∃ x, ps[k]? = some x := ⟨_, List.getElem?_eq_getElem hlt⟩
    obtain ⟨rfl, hc⟩ := H4.out.resolve_left (fun e => by rw [e] at ex; simp at ex)
    have LA := hide (HA.out x (List.mem_of_getElem? ex))
    obtain ⟨c, at_⟩ := x
    obtain ⟨g1, s, b, g2, g3⟩ := hc k _ ex
    have cx := cell_below CP.out.bw g1
    have sx := cell_below CP.out.bw g2
    have rr := g3.below CP.out.bw
    obtain ⟨qa, ca, _, rfl, _⟩ := g3
    simp only [] at cx sx rr LA
    have EX := hide ex
    have lk : ((k : Nat) : Int) < (ps.length : Nat) := by omega
    clear ex g1 g2 hc
    have bA : Below wr.heap.size wr (wr.alloc (.cells #[.int .i64 c, .slice qa at_.length ca] 82)).drew := ((Below.refl _ _).alloc (Nat.le_refl _) _).drew
    have BX := hide ((Rec.new wr [.int .i64 c, .slice qa at_.length ca] 82).drew)
    go_wp2_with fail
    have CPd := hide (CP.out.below bA)
    have RR := hide (rr.below bA)
    have HB0 := hide bA
    refine (wpIn_wide (n := 0)).1 ?_
    refine PhaseIn.region (S := fun w' => Rec X [.slice (some ⟨w.heap.size + 1 + 1, 0, none⟩) ps.length ps.length] w' ∧ Rec wr.heap.size [.int .i64 c, .slice qa at_.length ca] w') 9 (by kernel_rfl) ?_
    generalize (wr.alloc (.cells #[.int .i64 c, .slice qa at_.length ca] 82)).drew = d1 at BX CPd RR HB0 ⊢
    have hHeld := And.intro CPd.out.x BX.out
    clear bA cx sx rr
    refine PhaseIn.takeE (i := 0) (v := ?_) [0, 1, 9, 10] 19 rfl (by rfl) (by kernel_rfl) (fun _ _ _ h => h) (Or.inl ⟨by kernel_rfl, ?_⟩) hHeld ?_
    rotate_left
    · intro w' hSw
      (try dsimp only at hSw)
      go_simp
      first | done | with_reducible rfl
    try simp only [Act.put, sA, List.set]
    refine PhaseIn.takeE (i := 1) (v := ?_) [1, 9, 10] 20 rfl (by rfl) (by kernel_rfl) (fun _ _ _ h => h) (Or.inl ⟨by kernel_rfl, ?_⟩) hHeld ?_
    rotate_left
    · intro w' hSw
      (try dsimp only at hSw)
      have z0 := hSw.1.cell 0 _ rfl
      go_simp
      first | done | with_reducible rfl
    try simp only [Act.put, sA, List.set]
    refine PhaseIn.takeE (i := 2) (v := ?_) [2, 9, 10] 21 rfl (by rfl) (by kernel_rfl) (fun _ _ _ h => h) (Or.inl ⟨by kernel_rfl, ?_⟩) hHeld ?_
    rotate_left
    · intro w' hSw
      (try dsimp only at hSw)
      go_simp
      first | done | with_reducible rfl
    try simp only [Act.put, sA, List.set]
    refine PhaseIn.takeE (i := 3) (v := ?_) [3, 4, 8, 9, 10] 22 rfl (by rfl) (by kernel_rfl) (fun _ _ _ h => h) (Or.inl ⟨by kernel_rfl, ?_⟩) hHeld ?_
    rotate_left
    · intro w' hSw
      (try dsimp only at hSw)
      go_simp
      first | done | with_reducible rfl
    try simp only [Act.put, sA, List.set]
    refine PhaseIn.takeE (i := 4) (v := ?_) [4, 8, 9, 10] 23 rfl (by rfl) (by kernel_rfl) (fun _ _ _ h => h) (Or.inl ⟨by kernel_rfl, ?_⟩) hHeld ?_
    rotate_left
    · intro w' hSw
      (try dsimp only at hSw)
      have z0 := hSw.2.cell 0 _ rfl
      go_simp
      first | done | with_reducible rfl
    try simp only [Act.put, sA, List.set]
    refine PhaseIn.takeE (i := 5) (v := ?_) [5, 6, 7, 8, 9, 10] 24 rfl (by rfl) (by kernel_rfl) (fun _ _ _ h => h) (Or.inl ⟨by kernel_rfl, ?_⟩) hHeld ?_
    rotate_left
    · intro w' hSw
      (try dsimp only at hSw)
      go_simp
      first | done | with_reducible rfl
    try simp only [Act.put, sA, List.set]
    refine PhaseIn.takeE (i := 6) (v := ?_) [6, 7, 8, 9, 10] 25 rfl (by rfl) (by kernel_rfl) (fun _ _ _ h => h) (Or.inl ⟨by kernel_rfl, ?_⟩) hHeld ?_
    rotate_left
    · intro w' hSw
      (try dsimp only at hSw)
      have z0 := hSw.2.cell 1 _ rfl
      go_simp
      first | done | with_reducible rfl
    try simp only [Act.put, sA, List.set]
    refine PhaseIn.one (i := 7) (by kernel_rfl) rfl (by kernel_rfl) (fun K hK => ?_)
    unfold Oper.wpIn
    refine ⟨fun _ _ => trivial, ?_⟩
    go_simp
    refine ⟨rfl, (callsIn_wide.2 (Copd.copied at_ b _ _ RR.out (by have := LA.out; omega))).mono ?_⟩
    rintro e u2 ⟨g, rfl, OG, ge, gl, hb⟩
    refine hK _ _ (fun _ => And.intro (hHeld.1.below hb) (hHeld.2.below hb)) ?_
    replace hHeld := And.intro (hHeld.1.below hb) (hHeld.2.below hb)
    have WG := own_wrowT OG
    have HB1 := HB0.out.trans (hb.mono HB0.out.size)
    have NX := hide (FillP.next (x := (c, at_)) CP.out.fill hlt EX.out HB1 WG (Nat.le_trans HB0.out.size ge) gl)
    obtain ⟨y0, e0⟩ := CP.out.fill.left (k * 2) (by omega)
    obtain ⟨y1, e1⟩ := CP.out.fill.left (k * 2 + 1) (by omega)
    have p0 := cell_below HB1 e0
    have p1 := cell_below HB1 e1
    have ff (i : Nat) (hi : i < ps.length * 2) : u2.frozen? ⟨W0.heap.size, i, none⟩ = false := by rw [World.frozen?_of_block (w := wr) (a := ⟨W0.heap.size, i, none⟩) (HB1.block W0.heap.size CP.out.fill.lt)]; exact CP.out.fill.soft _ hi
    have f0 := ff (k * 2) (by omega)
    have f1 := ff (k * 2 + 1) (by omega)
    rw [SZ.out] at p0 p1 f0 f1
    have C2 := hide (CPd.out.below hb)
    have P2' := hide (And.intro p0 (And.intro p1 (And.intro f0 f1)))
    clear hK K hb OG WG ge gl HB1 CP e0 e1 p0 p1 f0 f1 ff HB0 CPd
    try simp only [Act.put, sA, List.set]
    refine PhaseIn.takeE (i := 8) (v := ?_) [8, 9, 10] 27 rfl (by rfl) (by kernel_rfl) (fun _ _ _ h => h) (Or.inl ⟨by kernel_rfl, ?_⟩) hHeld ?_
    rotate_left
    · intro w' hSw
      (try dsimp only at hSw)
      go_simp
      first | done | with_reducible rfl
    try simp only [Act.put, sA, List.set]
    refine PhaseIn.late (i := 9) (v := ?_) (by kernel_rfl) rfl 28 (by rfl) (by omega) (Or.inl ⟨by kernel_rfl, ?_⟩) ?_
    rotate_left
    · intro w' hSw
      go_simp
      first | done | with_reducible rfl
    try simp only [Act.put, sA, List.set]
    obtain ⟨p0, p1, f0, f1⟩ := P2'.out
    clear hHeld
    refine PhaseIn.one (i := 10) (by kernel_rfl) rfl (by kernel_rfl) (fun K hK => ?_)
    unfold Oper.wpIn
    refine ⟨fun _ _ => trivial, ?_⟩
    go_simp
    have tn : Turn (w.heap.size + 1 + 1) u2 ((u2.setCell ⟨w.heap.size + 1 + 1, k * 2, none⟩ (.int .i64 c)).setCell ⟨w.heap.size + 1 + 1, k * 2 + 1, none⟩ (.slice (some ⟨g, 0, none⟩) at_.length at_.length)) := ((Turn.refl (w.heap.size + 1 + 1) u2).setCell (p := ⟨w.heap.size + 1 + 1, k * 2, none⟩) rfl _).setCell (p := ⟨w.heap.size + 1 + 1, k * 2 + 1, none⟩) rfl _
    simp only [] at NX
    rw [SZ.out] at NX
    have CN : Hid (CopS w W0 X (.slice (some ⟨B, off, none⟩) ps.length cap0) ps (k + 1) ((u2.setCell ⟨w.heap.size + 1 + 1, k * 2, none⟩ (.int .i64 c)).setCell ⟨w.heap.size + 1 + 1, k * 2 + 1, none⟩ (.slice (some ⟨g, 0, none⟩) at_.length at_.length))) := ⟨NX.out, C2.out.a.turn tn (by omega), C2.out.z.turn tn (by omega), C2.out.x.turn tn (by have := XL.out; omega), C2.out.bw.trans (tn.below (by omega) C2.out.bw.size)⟩
    refine hK _ _ (fun h => absurd h (by omega)) ?_
    clear hK K p0 p1 f0 f1 P2' NX C2 tn
    try simp only [Act.put, sA, List.set]
    generalize ((u2.setCell ⟨w.heap.size + 1 + 1, k * 2, none⟩ (.int .i64 c)).setCell ⟨w.heap.size + 1 + 1, k * 2 + 1, none⟩ (.slice (some ⟨g, 0, none⟩) at_.length at_.length)) = y9 at CN ⊢
    refine PhaseIn.done (by kernel_rfl) ?_ _
    go_wp2
    exact ⟨⟨k + 1, by omega, by go_num, CN⟩, by simp [intOf]; omega⟩
end Go.Proofs.YtggilenddbobnaaGreat.Pol
