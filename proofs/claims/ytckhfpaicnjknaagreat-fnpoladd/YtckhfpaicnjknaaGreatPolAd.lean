/-
  Both sums together: the program's PolAdd.
-/
import Derived.Test.YtckhfpaicnjknaaGreatPolEs
namespace Go.Proofs.YtckhfpaicnjknaaGreat.Pol
set_option linter.unusedVariables false
open Go.ChangeShapes Go.WideShapes Go.ChangeAt Go.RowKit Go.Shelf IntS Rng
/-- The parts that were put when so many sums are through. -/
def esA (ps qs : List Mono) (k : Nat) : List Mono := if k = 0 then [] else if k = 1 then ps else ps ++ qs
/-- One of two sums whose slices lie side by side. -/
theorem pick_sum {w wr : World} {ps qs : List Mono} {B B' T k n n' : Nat} {a a' : Option Addr} {cap cap' : Nat} (hk : k < 2) (r : Rec T [.slice a ps.length cap, .slice a' qs.length cap'] wr) (h : PRow w B (.slice a ps.length cap) ps) (h' : PRow w B' (.slice a' qs.length cap') qs) (g : Good ps) (g' : Good qs) :
    ∃ (xs : List Mono) (q : Option Addr) (c X : Nat), wr.cell? ⟨T, k, none⟩ = some (.slice q xs.length c) ∧ PRow w X (.slice q xs.length c) xs ∧ Good xs ∧ esA ps qs (k + 1) = esA ps qs k ++ xs ∧ (esA ps qs k).length ≤ 12 := by
  by_cases e : k = 0
  · subst e
    exact ⟨ps, a, cap, B, r.cell 0 _ rfl, h, g, by simp [esA], by simp [esA]⟩
  · obtain rfl : k = 1 := by omega
    exact ⟨qs, a', cap', B', r.cell 1 _ rfl, h', g', by simp [esA], by simp [esA]; exact g.many⟩
set_option maxRecDepth 8000 in
set_option maxHeartbeats 4000000 in
theorem implAdd (ps qs : List Mono) (B B' : Nat) (v v' : Value) (w : World) (h : PRow w B v ps) (h' : PRow w B' v' qs) :
    Calls Tryz.prog 8 #[.agg #[v], .agg #[v']] w fun e w' => ∃ a l c, e = .returned (.tuple #[.agg #[.slice a l c], .bool (addB ps qs)]) ∧ WPoly w' w.heap.size w'.heap.size (.slice a l c) (addP ps qs) ∧ Below w.heap.size w w' := by
  have bV : Below w.heap.size w (((w.alloc (.cells #[v] 25)).alloc (.cells #[v'] 25)).alloc (.cells #[.slice none 0 0] 25)) := (((Below.refl _ _).alloc (Nat.le_refl _) _).alloc (by simp) _).alloc (by simp; omega) _
  have R0 := Rec.new ((w.alloc (.cells #[v] 25)).alloc (.cells #[v'] 25)) [.slice none 0 0] 25
  rw [show ((w.alloc (.cells #[v] 25)).alloc (.cells #[v'] 25)).heap.size = w.heap.size + 2 by simp] at R0
  have Q0 := (Rec.new (w.alloc (.cells #[v] 25)) [v'] 25).alloc (.cells #[.slice none 0 0] 25)
  rw [show (w.alloc (.cells #[v] 25)).heap.size = w.heap.size + 1 by simp] at Q0
  have RR := hide R0
  have QQ := hide Q0
  have AA := hide (((Rec.new w [v] 25).alloc (.cells #[v'] 25)).alloc (.cells #[.slice none 0 0] 25))
  have HW := hide h
  have HW' := hide h'
  have H := hide (h.below bV)
  have BW := hide bV
  obtain ⟨a, cap, off, rfl, h2, h3, _, h4⟩ := h
  obtain ⟨a', cap', off', rfl, h2', h3', _, h4'⟩ := h'
  unfold maxLen at h3 h3'
  clear bV R0 Q0 h4 h4'
  obtain ⟨R, eR⟩ : ∃ R, addP ps qs = R := ⟨_, rfl⟩
  obtain ⟨T, eT⟩ : ∃ T, addB ps qs = T := ⟨_, rfl⟩
  rw [eR, eT]
  have ER := hide eR
  have ET := hide eT
  clear eR eT
  go_enter Tryz.func8, Tryz.ntmps8
  go_wp2_with fail
  generalize (((w.alloc (.cells #[.slice a ps.length cap] 25)).alloc (.cells #[.slice a' qs.length cap'] 25)).alloc (.cells #[.slice none 0 0] 25)) = V0 at RR QQ AA H BW ⊢
  have a0 := AA.out.cell 0 _ rfl
  go_wp2_with fail
  refine (implOk ps B _ _ H.out).mono ?_
  rintro e V ⟨rfl, hb⟩
  replace RR := hide (RR.out.below hb)
  replace QQ := hide (QQ.out.below hb)
  replace AA := hide (AA.out.below hb)
  replace BW := hide (BW.out.trans (hb.mono BW.out.size))
  clear hb a0 H
  cases ok : okP ps with
  | false =>
    have hf := add_no (ps := ps) (qs := qs) (fun h => by rw [ok] at h; exact absurd h.1 (by decide))
    have HD := hide (ER.out.symm.trans hf.2)
    obtain rfl := ET.out.symm.trans hf.1
    have r0 := RR.out.cell 0 _ rfl
    have s0 := RR.out.soft 0
    clear ok hf
    have B0 := hide (BW.out.setCell (p := ⟨w.heap.size + 2, 0, none⟩) (by show w.heap.size ≤ w.heap.size + 2; omega) (.slice none 0 0))
    have Z0 := hide (RR.out.set 0 (.slice none 0 0) (by simp) rfl)
    go_wp2
    generalize V.setCell ⟨w.heap.size + 2, 0, none⟩ (.slice none 0 0) = U at B0 Z0 ⊢
    have z0 := Z0.out.cell 0 _ rfl
    exact bodyPost_ret (v := .tuple #[.agg #[.slice none 0 0], .bool false]) (by simp [results, Tryz.results8, go_sem, z0]) rfl ⟨none, 0, 0, rfl, by rw [HD.out]; exact WPoly.nil _ _ _, B0.out⟩
  | true =>
    have OK := hide ok
    have H' := hide (HW'.out.below BW.out)
    clear ok
    have a0 := QQ.out.cell 0 _ rfl
    go_wp2_with fail
    refine (implOk qs B' _ _ H'.out).mono ?_
    rintro e u ⟨rfl, hb⟩
    replace RR := hide (RR.out.below hb)
    replace QQ := hide (QQ.out.below hb)
    replace AA := hide (AA.out.below hb)
    replace BW := hide (BW.out.trans (hb.mono BW.out.size))
    clear hb a0 H'
    cases ok' : okP qs with
    | false =>
      have hf := add_no (ps := ps) (qs := qs) (fun h => by rw [ok'] at h; exact absurd h.2 (by decide))
      have HD := hide (ER.out.symm.trans hf.2)
      obtain rfl := ET.out.symm.trans hf.1
      have r0 := RR.out.cell 0 _ rfl
      have s0 := RR.out.soft 0
      clear ok' hf
      have B0 := hide (BW.out.setCell (p := ⟨w.heap.size + 2, 0, none⟩) (by show w.heap.size ≤ w.heap.size + 2; omega) (.slice none 0 0))
      have Z0 := hide (RR.out.set 0 (.slice none 0 0) (by simp) rfl)
      go_wp2
      generalize u.setCell ⟨w.heap.size + 2, 0, none⟩ (.slice none 0 0) = U at B0 Z0 ⊢
      have z0 := Z0.out.cell 0 _ rfl
      exact bodyPost_ret (v := .tuple #[.agg #[.slice none 0 0], .bool false]) (by simp [results, Tryz.results8, go_sem, z0]) rfl ⟨none, 0, 0, rfl, by rw [HD.out]; exact WPoly.nil _ _ _, B0.out⟩
    | true =>
      have hf := add_yes OK.out ok'
      have HD := hide (hf.2.symm.trans ER.out)
      have HT := hide (hf.1.symm.trans ET.out)
      have OK' := hide ok'
      clear ok' hf ER ET
      have GP := hide (ok_good OK.out)
      have GQ := hide (ok_good OK'.out)
      have MP := hide (map_new u)
      have bm := (Below.refl _ u).alloc (Nat.le_refl _) (.map #[] 0)
      have a0 := (AA.out.below bm).cell 0 _ rfl
      have q0 := (QQ.out.below bm).cell 0 _ rfl
      have hmm := @run_makeMap Tryz.prog
      go_wp2_with fail
      have bt := (Below.refl _ (u.alloc (.map #[] 0))).alloc (Nat.le_refl _) (.cells #[.slice a ps.length cap, .slice a' qs.length cap'] 25)
      have TR := hide (Rec.new (u.alloc (.map #[] 0)) [.slice a ps.length cap, .slice a' qs.length cap'] 25)
      have su : (u.alloc (.map #[] 0)).heap.size = u.heap.size + 1 := by simp
      rw [su] at TR bt
      have MP2 := hide (MP.out.below (by rw [su]; exact bt))
      have BU : Hid (Below u.heap.size u ((u.alloc (.map #[] 0)).alloc (.cells #[.slice a ps.length cap, .slice a' qs.length cap'] 25))) := bm.trans (bt.mono (by omega))
      have RR2 := hide (RR.out.below BU.out)
      have US : Hid (u.heap.size < ((u.alloc (.map #[] 0)).alloc (.cells #[.slice a ps.length cap, .slice a' qs.length cap'] 25)).heap.size) := show _ < _ by simp; omega
      clear bm bt a0 q0 hmm su MP
      try simp only [World.size_alloc]
      generalize ((u.alloc (.map #[] 0)).alloc (.cells #[.slice a ps.length cap, .slice a' qs.length cap'] 25)) = U at TR MP2 BU RR2 US ⊢
      have lu : Hid (w.heap.size + 2 < u.heap.size) := RR.out.lt
      have BWU := hide (BW.out.trans (BU.out.mono BW.out.size))
      go_loopw [25] (fun i wr => ∃ (k : Nat), k ≤ 2 ∧ i = .int .i64 k ∧ Hid (MapOf wr u.heap.size (esA ps qs k)) ∧ Hid (Turn u.heap.size U wr)) (fun i _ => 2 - (intOf i).toNat)
      case atStart => exact ⟨0, by omega, rfl, MP2, Turn.refl _ _⟩
      case round =>
        obtain ⟨k, hk, rfl, HM, HT2⟩ := hrel
        clear MP2
        have bel : Hid (∀ {wi : World}, Turn u.heap.size U wi → Below w.heap.size w wi) := @fun wi ht => BWU.out.trans (ht.below (by have := BW.out.size; omega) (by have := BWU.out.size; omega))
        by_cases hlt : k < 2
        case neg =>
          obtain rfl : k = 2 := by omega
          have HM2 := HM.out
          rw [show esA ps qs 2 = ps ++ qs by simp [esA]] at HM2
          have C := hide (told (ps ++ qs) (addL ps qs) u.heap.size wr HM2 (told_add GP.out.told GQ.out.fine) (by rw [List.length_append]; have := GP.out.many; have := GQ.out.many; omega) (fun x hx => by
            rcases List.mem_append.1 hx with hx | hx
            · have := GP.out.four x hx; omega
            · have := GQ.out.four x hx; omega))
          rw [HD.out, HT.out] at C
          clear HM HM2
          go_wp2_with fail
          refine C.out.mono ?_
          rintro e u2 ⟨qa, ql, qc, rfl, W2, hb⟩
          have B1 := hide (bel.out HT2.out)
          have B3 := hide (B1.out.trans (hb.mono B1.out.size))
          have R3 := hide ((RR2.out.turn HT2.out (by have := lu.out; omega)).below hb)
          have lw : Hid (u.heap.size ≤ wr.heap.size) := show _ ≤ _ by have := US.out; have := HT2.out.size; omega
          have r0 := R3.out.cell 0 _ rfl
          have s0 := R3.out.soft 0
          have B4 := hide (B3.out.setCell (p := ⟨w.heap.size + 2, 0, none⟩) (by show w.heap.size ≤ w.heap.size + 2; omega) (.slice qa ql qc))
          have Z0 := hide (R3.out.set 0 (.slice qa ql qc) (by simp) rfl)
          have W4 := W2.keep (w' := u2.setCell ⟨w.heap.size + 2, 0, none⟩ (.slice qa ql qc)) (Keep.of_turn ((Turn.refl (w.heap.size + 2) _).setCell (p := ⟨w.heap.size + 2, 0, none⟩) rfl _)) (fun b' h1 _ (h2 : b' = _) => by have := lu.out; have := lw.out; omega)
          have W5 := hide (W4.wide (lo' := w.heap.size) (hi' := (u2.setCell ⟨w.heap.size + 2, 0, none⟩ (.slice qa ql qc)).heap.size) (by have := lu.out; have := lw.out; omega) (by simp [World.setCell]))
          clear C W2 hb B1 W4 B3 lw
          go_wp2
          generalize u2.setCell ⟨w.heap.size + 2, 0, none⟩ (.slice qa ql qc) = U2 at B4 Z0 W5 ⊢
          have z0 := Z0.out.cell 0 _ rfl
          exact bodyPost_ret (v := .tuple #[.agg #[.slice qa ql qc], .bool T]) (by simp [results, Tryz.results8, go_sem, z0]) rfl ⟨qa, ql, qc, rfl, W5.out, B4.out⟩
        obtain ⟨xs, q, c, X, px, RX, GX, EE, EL⟩ := pick_sum (n := 0) (n' := 0) hlt (TR.out.turn HT2.out (by omega)) HW.out HW'.out GP.out GQ.out
        have GXX := hide GX
        have EEE := hide EE
        have ELL := hide EL
        obtain ⟨a1, cap1, off1, e1, k2, k3, _, k4⟩ := RX
        injection e1 with f1 f2 f3
        subst f1 f3
        have K4 := hide k4
        unfold maxLen at k3
        obtain ⟨n, en⟩ : ∃ n, xs.length = n := ⟨_, rfl⟩
        have EN := hide en
        rw [en] at px k2
        have lk : ((k : Nat) : Int) < (2 : Int) := by omega
        have n12 : Hid (n ≤ 12) := show _ ≤ _ by rw [← EN.out]; exact GXX.out.many
        clear en k4 f2 GX EE EL
        go_wp2
        have tA : Hid (Turn u.heap.size U (wr.alloc (.cells #[.slice q n c] 25))) := HT2.out.trans (Turn.of_below ((Below.refl _ wr).alloc (Nat.le_refl _) _))
        have mA := hide (HM.out.below ((Below.refl _ wr).alloc (Nat.le_refl _) (.cells #[.slice q n c] 25)))
        generalize wr.alloc (.cells #[.slice q n c] 25) = wv at tA mA ⊢
        clear HM HT2 px
        go_loopw [32] (fun i wi => ∃ (j : Nat), j ≤ n ∧ i = .int .i64 j ∧ Hid (MapOf wi u.heap.size (esA ps qs k ++ xs.take j)) ∧ Hid (Turn u.heap.size U wi)) (fun i _ => n - (intOf i).toNat)
        case atStart => exact ⟨0, by omega, rfl, by rw [List.take_zero, List.append_nil]; exact mA, tA⟩
        case round =>
          obtain ⟨j, hj, rfl, HM, HT2⟩ := hrel
          clear mA tA
          by_cases hjn : j < n
          case neg =>
            obtain rfl : j = n := by omega
            have HM2 := HM.out
            rw [← EN.out, List.take_length, ← EEE.out] at HM2
            have HM3 := hide HM2
            clear HM HM2
            go_wp2
            exact ⟨⟨k + 1, by omega, by go_num, HM3, HT2⟩, by simp [intOf]; omega⟩
          obtain ⟨x, ex⟩ : ∃ x, xs[j]? = some x := ⟨_, List.getElem?_eq_getElem (by rw [EN.out]; exact hjn)⟩
          have hc4 := K4.out.resolve_left (fun e => by rw [e] at ex; simp at ex)
          obtain ⟨rfl, hc⟩ := hc4
          obtain ⟨co, at_⟩ := x
          obtain ⟨g1, s, bx, g2, g3⟩ := hc j _ ex
          have BR := bel.out HT2.out
          have cx := cell_below BR g1
          have sx := cell_below BR g2
          have RXX := hide (g3.below BR)
          have xm := List.mem_of_getElem? ex
          have MF : Hid ((0 < co ∧ co < 65536) ∧ at_.length ≤ 4 ∧ (∀ a ∈ at_, 0 ≤ a ∧ a < 200) ∧ Srt.sortI at_ = at_) := ⟨(GXX.out.fine _ xm).2, GXX.out.four _ xm, GXX.out.at_ _ xm, sort_self (GXX.out.ris _ xm)⟩
          have ES : Hid ((esA ps qs k ++ xs.take j) ++ [(co, at_)] = esA ps qs k ++ xs.take (j + 1)) := show _ = _ by
            rw [List.take_add_one, ex, List.append_assoc]
            rfl
          obtain ⟨qx, cx2, _, rfl, _⟩ := g3
          simp only [] at cx sx RXX
          have lj : ((j : Nat) : Int) < (n : Nat) := by omega
          clear ex g1 g2 hc xm BR
          have bA := (Below.refl _ wr).alloc (Nat.le_refl _) (.cells #[.int .i64 co, .slice qx at_.length cx2] 55)
          have HM2 := hide (HM.out.below bA)
          have RX2 := hide (RXX.out.below bA)
          have HT3 : Hid (Turn u.heap.size U (wr.alloc (.cells #[.int .i64 co, .slice qx at_.length cx2] 55))) := HT2.out.trans (Turn.of_below bA)
          have P := hide (put (esA ps qs k ++ xs.take j) u.heap.size co at_ bx _ _ HM2.out (by rw [List.length_append, List.length_take]; have := ELL.out; have := n12.out; omega) (by have := MF.out.1; omega) RX2.out (fun a ha => by have := MF.out.2.2.1 a ha; omega) (by have := MF.out.2.1; omega))
          clear bA HM RXX HM2 RX2 HT2
          go_wp2_with fail
          refine P.out.mono ?_
          rintro e w3 ⟨rfl, hM4, hT4⟩
          rw [MF.out.2.2.2, ES.out] at hM4
          have HM4 := hide hM4
          have HT4 := hide (HT3.out.trans hT4)
          clear P hM4 hT4 HT3 cx sx
          go_wp2
          exact ⟨⟨j + 1, by omega, by go_num, HM4, HT4⟩, by simp [intOf]; omega⟩
end Go.Proofs.YtckhfpaicnjknaaGreat.Pol
