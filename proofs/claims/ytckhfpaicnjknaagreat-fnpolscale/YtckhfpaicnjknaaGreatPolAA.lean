/-
  Both sums together: the specification's PolAdd.
-/
import Derived.Test.YtckhfpaicnjknaaGreatPolX
namespace Go.Proofs.YtckhfpaicnjknaaGreat.Pol
set_option linter.unusedVariables false
open Go.ChangeShapes Go.WideShapes Go.ChangeAt Go.RowKit IntS
def addL : List Mono → List Mono → List Mono
  | l, [] => l
  | l, m :: r => addL (plusL m false l) r
def addB (ps qs : List Mono) : Bool := if okP ps = true ∧ okP qs = true then fitB (addL ps qs) else false
def addP (ps qs : List Mono) : List Mono := if okP ps = true ∧ okP qs = true then fitP (addL ps qs) else []
theorem add_no {ps qs : List Mono} (h : ¬ (okP ps = true ∧ okP qs = true)) : addB ps qs = false ∧ addP ps qs = [] := ⟨if_neg h, if_neg h⟩
theorem add_yes {ps qs : List Mono} (h1 : okP ps = true) (h2 : okP qs = true) : addB ps qs = fitB (addL ps qs) ∧ addP ps qs = fitP (addL ps qs) := ⟨if_pos ⟨h1, h2⟩, if_pos ⟨h1, h2⟩⟩
theorem add_next {l qs : List Mono} {k : Nat} {x : Mono} (h : qs[k]? = some x) : addL l (qs.drop k) = addL (plusL x false l) (qs.drop (k + 1)) := by rw [drop_cons h, addL]
theorem add_end {l qs : List Mono} {k : Nat} (h : qs.length ≤ k) : addL l (qs.drop k) = l := by rw [List.drop_eq_nil_of_le h, addL]
def Words (ps : List Mono) : Prop := ∀ x ∈ ps, 0 ≤ x.1 ∧ x.1 < 65536
theorem ok_words {ps : List Mono} (h : okP ps = true) : Words ps := fun x hx => by
  obtain ⟨k, hk⟩ := List.getElem?_of_mem hx
  unfold okP at h
  simp only [Bool.and_eq_true] at h
  have := all_at h.2 (List.getElem?_eq_some_iff.1 hk).1
  unfold partAt at this
  simp only [Bool.and_eq_true] at this
  rw [getD_part hk] at this
  have h2 := this.1
  unfold monoB at h2
  simp only [Bool.and_eq_true] at h2
  have := of_decide_eq_true h2.1.1
  omega
theorem Words.cons {x : Mono} {r : List Mono} (hx : 0 ≤ x.1 ∧ x.1 < 65536) (h : Words r) : Words (x :: r) := fun y hy => by
  rcases List.mem_cons.1 hy with rfl | hy
  · exact hx
  · exact h y hy
theorem Words.head {x : Mono} {r : List Mono} (h : Words (x :: r)) : 0 ≤ x.1 ∧ x.1 < 65536 := h x (List.mem_cons_self ..)
theorem Words.tail {x : Mono} {r : List Mono} (h : Words (x :: r)) : Words r := fun y hy => h y (List.mem_cons_of_mem _ hy)
theorem plus_words {m : Mono} (hm : 0 ≤ m.1 ∧ m.1 < 65536) : ∀ (ps : List Mono) (d : Bool), Words ps → Words (plusL m d ps)
  | [], d, _ => by
    rw [plusL]
    split
    · intro x hx; simp at hx
    · exact Words.cons hm (fun x hx => by simp at hx)
  | x :: r, d, h => by
    have h1 := plus_words hm r d h.tail
    have h2 := plus_words hm r true h.tail
    rw [plusL]
    split
    · split
      · exact Words.cons h.head h2
      · exact Words.cons hm (Words.cons h.head h2)
    · split
      · split
        · exact Words.cons (by show 0 ≤ (x.1 + m.1) % 65536 ∧ (x.1 + m.1) % 65536 < 65536; omega) h2
        · exact h2
      · exact Words.cons h.head h1
set_option maxRecDepth 8000 in
set_option maxHeartbeats 16000000 in
theorem specAddO (ps qs : List Mono) (B B' : Nat) (v v' : Value) (w : World) (h : PRow w B v ps) (h' : PRow w B' v' qs) :
    Calls Tryz.prog 9 #[.agg #[v], .agg #[v']] w fun e w' => ∃ a l c, e = .returned (.tuple #[.agg #[.slice a l c], .bool (addB ps qs)]) ∧ WPoly w' w.heap.size w'.heap.size (.slice a l c) (addP ps qs) ∧ Mine w' w.heap.size (.slice a l c) ∧ Below w.heap.size w w' := by
  have bV : Below w.heap.size w (((w.alloc (.cells #[v] 25)).alloc (.cells #[v'] 25)).alloc (.cells #[.slice none 0 0] 25)) := (((Below.refl _ _).alloc (Nat.le_refl _) _).alloc (by simp) _).alloc (by simp; omega) _
  have R0 := Rec.new ((w.alloc (.cells #[v] 25)).alloc (.cells #[v'] 25)) [.slice none 0 0] 25
  rw [show ((w.alloc (.cells #[v] 25)).alloc (.cells #[v'] 25)).heap.size = w.heap.size + 2 by simp] at R0
  have Q0 := (Rec.new (w.alloc (.cells #[v] 25)) [v'] 25).alloc (.cells #[.slice none 0 0] 25)
  rw [show (w.alloc (.cells #[v] 25)).heap.size = w.heap.size + 1 by simp] at Q0
  have RR := hide R0
  have QQ := hide Q0
  have AA := hide (((Rec.new w [v] 25).alloc (.cells #[v'] 25)).alloc (.cells #[.slice none 0 0] 25))
  have HW := hide h
  have HW' := hide h'
  have H := hide (h.below bV)
  have BW := hide bV
  obtain ⟨a, cap, off, rfl, h2, h3, _, h4⟩ := h
  obtain ⟨a', cap', off', rfl, h2', h3', _, h4'⟩ := h'
  unfold maxLen at h3 h3'
  clear bV R0 Q0 h4
  obtain ⟨R, eR⟩ : ∃ R, addP ps qs = R := ⟨_, rfl⟩
  obtain ⟨T, eT⟩ : ∃ T, addB ps qs = T := ⟨_, rfl⟩
  rw [eR, eT]
  have ER := hide eR
  have ET := hide eT
  clear eR eT
  go_enter Tryz.func9, Tryz.ntmps9
  go_wp2_with fail
  generalize (((w.alloc (.cells #[.slice a ps.length cap] 25)).alloc (.cells #[.slice a' qs.length cap'] 25)).alloc (.cells #[.slice none 0 0] 25)) = V0 at RR QQ AA H BW ⊢
  have a0 := AA.out.cell 0 _ rfl
  go_wp2_with fail
  refine (specOk ps B _ _ H.out).mono ?_
  rintro e V ⟨rfl, hb⟩
  replace RR := hide (RR.out.below hb)
  replace QQ := hide (QQ.out.below hb)
  replace AA := hide (AA.out.below hb)
  replace BW := hide (BW.out.trans (hb.mono BW.out.size))
  clear hb a0 H
  cases ok : okP ps with
  | false =>
    have hf := add_no (ps := ps) (qs := qs) (fun h => by rw [ok] at h; exact absurd h.1 (by decide))
    have HD := hide (ER.out.symm.trans hf.2)
    obtain rfl := ET.out.symm.trans hf.1
    have r0 := RR.out.cell 0 _ rfl
    have s0 := RR.out.soft 0
    clear ok hf
    have B0 := hide (BW.out.setCell (p := ⟨w.heap.size + 2, 0, none⟩) (by show w.heap.size ≤ w.heap.size + 2; omega) (.slice none 0 0))
    have Z0 := hide (RR.out.set 0 (.slice none 0 0) (by simp) rfl)
    go_wp2
    generalize V.setCell ⟨w.heap.size + 2, 0, none⟩ (.slice none 0 0) = U at B0 Z0 ⊢
    have z0 := Z0.out.cell 0 _ rfl
    exact bodyPost_ret (v := .tuple #[.agg #[.slice none 0 0], .bool false]) (by simp [results, Tryz.results9, go_sem, z0]) rfl ⟨none, 0, 0, rfl, by rw [HD.out]; exact WPoly.nil _ _ _, Mine.nil _ _, B0.out⟩
  | true =>
    have OK := hide ok
    have H' := hide (HW'.out.below BW.out)
    clear ok
    have a0 := QQ.out.cell 0 _ rfl
    go_wp2_with fail
    refine (specOk qs B' _ _ H'.out).mono ?_
    rintro e u ⟨rfl, hb⟩
    replace RR := hide (RR.out.below hb)
    replace QQ := hide (QQ.out.below hb)
    replace AA := hide (AA.out.below hb)
    replace BW := hide (BW.out.trans (hb.mono BW.out.size))
    clear hb a0 H'
    cases ok' : okP qs with
    | false =>
      have hf := add_no (ps := ps) (qs := qs) (fun h => by rw [ok'] at h; exact absurd h.2 (by decide))
      have HD := hide (ER.out.symm.trans hf.2)
      obtain rfl := ET.out.symm.trans hf.1
      have r0 := RR.out.cell 0 _ rfl
      have s0 := RR.out.soft 0
      clear ok' hf
      have B0 := hide (BW.out.setCell (p := ⟨w.heap.size + 2, 0, none⟩) (by show w.heap.size ≤ w.heap.size + 2; omega) (.slice none 0 0))
      have Z0 := hide (RR.out.set 0 (.slice none 0 0) (by simp) rfl)
      go_wp2
      generalize u.setCell ⟨w.heap.size + 2, 0, none⟩ (.slice none 0 0) = U at B0 Z0 ⊢
      have z0 := Z0.out.cell 0 _ rfl
      exact bodyPost_ret (v := .tuple #[.agg #[.slice none 0 0], .bool false]) (by simp [results, Tryz.results9, go_sem, z0]) rfl ⟨none, 0, 0, rfl, by rw [HD.out]; exact WPoly.nil _ _ _, Mine.nil _ _, B0.out⟩
    | true =>
      have hf := add_yes OK.out ok'
      have HD := hide (hf.2.symm.trans ER.out)
      have HT := hide (hf.1.symm.trans ET.out)
      have OK' := hide ok'
      clear ok' hf ER ET
      obtain ⟨n, en⟩ : ∃ n, qs.length = n := ⟨_, rfl⟩
      have EN := hide en
      have H4 := hide h4'
      rw [en] at h2' QQ
      rw [en]
      clear en h4' HW'
      have H := hide (HW.out.below BW.out)
      clear HW
      have a0 := AA.out.cell 0 _ rfl
      go_wp2
      clear a0
      go_loopw [6, 7] (fun q i wr => ∃ (k l c BB : Nat) (L : List Mono) (vq : Option Addr), k ≤ n ∧ i = .int .i64 k ∧ q = .slice vq l c ∧ Hid (PRow wr BB (.slice vq l c) L) ∧ Hid (addL L (qs.drop k) = addL ps qs) ∧ Hid (L.length ≤ ps.length + k) ∧ Hid (Words L) ∧ Hid (Below u.heap.size u wr)) (fun _ i _ => n - (intOf i).toNat)
      case atStart => exact ⟨0, _, _, B, ps, _, by omega, rfl, rfl, H, rfl, Nat.le_refl _, ok_words OK.out, Below.refl _ _⟩
      case round =>
        obtain ⟨k, ll, lc, BB, L, vq, hk, rfl, rfl, HS, HL, HN, HV, HB⟩ := hrel
        clear H
        have a0 := (QQ.out.below HB.out).cell 0 _ rfl
        by_cases hlt : k < n
        case neg =>
          have HR : Hid (L = addL ps qs) := show _ = _ by have := HL.out; rw [add_end (by rw [EN.out]; omega)] at this; exact this
          go_wp2_with fail
          refine (l4FitO L BB _ _ HS.out).mono ?_
          rintro e u2 ⟨qa, ql, qc, rfl, W2, M2, hb⟩
          have HB2 := HB.out.trans (hb.mono HB.out.size)
          have RR2 := RR.out.below HB2
          have r0 := RR2.cell 0 _ rfl
          have s0 := RR2.soft 0
          have BB2 := BW.out.trans (HB2.mono BW.out.size)
          have B0 := hide (BB2.setCell (p := ⟨w.heap.size + 2, 0, none⟩) (by show w.heap.size ≤ w.heap.size + 2; omega) (.slice qa ql qc))
          have Z0 := hide (RR2.set 0 (.slice qa ql qc) (by simp) rfl)
          have lu := RR.out.lt
          have W3 := W2.keep (w' := u2.setCell ⟨w.heap.size + 2, 0, none⟩ (.slice qa ql qc)) (Keep.of_turn ((Turn.refl (w.heap.size + 2) u2).setCell (p := ⟨w.heap.size + 2, 0, none⟩) rfl _)) (fun b h1 _ (h2 : b = _) => by have := HB.out.size; omega)
          have W4 := hide (W3.wide (lo' := w.heap.size) (hi' := (u2.setCell ⟨w.heap.size + 2, 0, none⟩ (.slice qa ql qc)).heap.size) (by have := HB.out.size; omega) (by simp [World.setCell]))
          have E1 : Hid (fitB L = T) := show _ = _ by rw [HR.out]; exact HT.out
          have E2 : Hid (fitP L = R) := show _ = _ by rw [HR.out]; exact HD.out
          have MM : Hid (Mine (u2.setCell ⟨w.heap.size + 2, 0, none⟩ (.slice qa ql qc)) w.heap.size (.slice qa ql qc)) := (M2.turn ((Turn.refl (w.heap.size + 2) u2).setCell (p := ⟨w.heap.size + 2, 0, none⟩) rfl _) (by have := HB.out.size; omega)).mono (by have := HB.out.size; omega)
          clear W2 W3 HB2 RR2 BB2 hb lu a0 M2
          go_wp2
          generalize u2.setCell ⟨w.heap.size + 2, 0, none⟩ (.slice qa ql qc) = U2 at B0 Z0 W4 MM ⊢
          have z0 := Z0.out.cell 0 _ rfl
          exact bodyPost_ret (v := .tuple #[.agg #[.slice qa ql qc], .bool (fitB L)]) (by simp [results, Tryz.results9, go_sem, z0]) rfl ⟨qa, ql, qc, by rw [E1.out], by rw [← E2.out]; exact W4.out, MM.out, B0.out⟩
        obtain ⟨x, ex⟩ : ∃ x, qs[k]? = some x := ⟨_, List.getElem?_eq_getElem (by rw [EN.out]; exact hlt)⟩
        obtain ⟨rfl, hc⟩ := H4.out.resolve_left (fun e => by rw [e] at ex; simp at ex)
        have C0 := hide (ok_words OK'.out x (List.mem_of_getElem? ex))
        have HL2 := hide ((add_next (l := L) ex).symm.trans HL.out)
        obtain ⟨c, at_⟩ := x
        obtain ⟨g1, s, b, g2, g3⟩ := hc k _ ex
        have BU := BW.out.trans (HB.out.mono BW.out.size)
        have cx := cell_below BU g1
        have sx := cell_below BU g2
        have RX := hide (g3.below BU)
        obtain ⟨qa, ca, _, rfl, _⟩ := g3
        simp only [] at cx sx RX C0
        have lk : ((k : Nat) : Int) < (n : Nat) := by omega
        have L1 : Hid (L.length ≤ 1000) := show _ ≤ _ by have := HN.out; have := ok_len OK.out; have := ok_len OK'.out; have := EN.out; omega
        clear ex g1 g2 hc BU
        go_wp2_with fail
        refine (l4Plus L c at_ BB b _ _ _ HS.out RX.out L1.out C0.out HV.out).mono ?_
        rintro e u2 ⟨B2, qa2, ql2, qc2, rfl, P2, hb⟩
        have HB2 := hide (HB.out.trans (hb.mono HB.out.size))
        have NL : Hid ((plusL (c, at_) false L).length ≤ ps.length + (k + 1)) := show _ ≤ _ by have := plus_len (m := (c, at_)) L false; have := HN.out; omega
        have NV : Hid (Words (plusL (c, at_) false L)) := plus_words C0.out L false HV.out
        have P3 := hide P2
        clear hb a0 cx sx P2
        go_wp2
        exact ⟨⟨k + 1, ql2, qc2, B2, plusL (c, at_) false L, qa2, by omega, by go_num, rfl, P3, HL2, NL, NV, HB2⟩, by simp [intOf]; omega⟩
theorem specAdd (ps qs : List Mono) (B B' : Nat) (v v' : Value) (w : World) (h : PRow w B v ps) (h' : PRow w B' v' qs) :
    Calls Tryz.prog 9 #[.agg #[v], .agg #[v']] w fun e w' => ∃ a l c, e = .returned (.tuple #[.agg #[.slice a l c], .bool (addB ps qs)]) ∧ WPoly w' w.heap.size w'.heap.size (.slice a l c) (addP ps qs) ∧ Below w.heap.size w w' := (specAddO ps qs B B' v v' w h h').mono fun _ _ ⟨a, l, c, h1, h2, _, h3⟩ => ⟨a, l, c, h1, h2, h3⟩
end Go.Proofs.YtckhfpaicnjknaaGreat.Pol
