/-
  Both sums multiplied: the specification's PolMul.
-/
import Derived.Test.YtckhfpaicnjknaaGreatPolCC
namespace Go.Proofs.YtckhfpaicnjknaaGreat.Pol
set_option linter.unusedVariables false
open Go.ChangeShapes Go.WideShapes Go.ChangeAt Go.RowKit IntS
/-- A part times each part of a sum, put to a list. -/
def mulR (x : Mono) : List Mono → List Mono → List Mono
  | l, [] => l
  | l, y :: r => mulR x (if 0 < x.1 * y.1 % 65536 then plusL (x.1 * y.1 % 65536, mergeL x.2 y.2) false l else l) r
def mulL (qs : List Mono) : List Mono → List Mono → List Mono
  | l, [] => l
  | l, x :: r => mulL qs (mulR x l qs) r
def mulB (ps qs : List Mono) : Bool := if okP ps = true ∧ okP qs = true then fitB (mulL qs [] ps) else false
def mulP (ps qs : List Mono) : List Mono := if okP ps = true ∧ okP qs = true then fitP (mulL qs [] ps) else []
theorem mul_no {ps qs : List Mono} (h : ¬ (okP ps = true ∧ okP qs = true)) : mulB ps qs = false ∧ mulP ps qs = [] := ⟨if_neg h, if_neg h⟩
theorem mul_yes {ps qs : List Mono} (h1 : okP ps = true) (h2 : okP qs = true) : mulB ps qs = fitB (mulL qs [] ps) ∧ mulP ps qs = fitP (mulL qs [] ps) := ⟨if_pos ⟨h1, h2⟩, if_pos ⟨h1, h2⟩⟩
theorem mulL_next {l ps qs : List Mono} {k : Nat} {x : Mono} (h : ps[k]? = some x) : mulL qs l (ps.drop k) = mulL qs (mulR x l qs) (ps.drop (k + 1)) := by rw [drop_cons h, mulL]
theorem mulL_end {l ps qs : List Mono} {k : Nat} (h : ps.length ≤ k) : mulL qs l (ps.drop k) = l := by rw [List.drop_eq_nil_of_le h, mulL]
theorem mulR_end {x : Mono} {l qs : List Mono} {k : Nat} (h : qs.length ≤ k) : mulR x l (qs.drop k) = l := by rw [List.drop_eq_nil_of_le h, mulR]
theorem mulR_put {x y : Mono} {l qs : List Mono} {k : Nat} (h : qs[k]? = some y) (hc : 0 < x.1 * y.1 % 65536) : mulR x l (qs.drop k) = mulR x (plusL (x.1 * y.1 % 65536, mergeL x.2 y.2) false l) (qs.drop (k + 1)) := by rw [drop_cons h, mulR, if_pos hc]
theorem mulR_pass {x y : Mono} {l qs : List Mono} {k : Nat} (h : qs[k]? = some y) (hc : ¬ 0 < x.1 * y.1 % 65536) : mulR x l (qs.drop k) = mulR x l (qs.drop (k + 1)) := by rw [drop_cons h, mulR, if_neg hc]
theorem prow_none (w : World) (B g : Nat) : PRow w B (.slice (some ⟨g, 0, none⟩) 0 0) [] := ⟨some ⟨g, 0, none⟩, 0, 0, rfl, Nat.le_refl _, Nat.zero_le _, (fun h => by cases h), Or.inl rfl⟩
set_option maxRecDepth 8000 in
set_option maxHeartbeats 4000000 in
theorem specMul (ps qs : List Mono) (B B' : Nat) (v v' : Value) (w : World) (h : PRow w B v ps) (h' : PRow w B' v' qs) :
    Calls Tryz.prog 20 #[.agg #[v], .agg #[v']] w fun e w' => ∃ a l c, e = .returned (.tuple #[.agg #[.slice a l c], .bool (mulB ps qs)]) ∧ WPoly w' w.heap.size w'.heap.size (.slice a l c) (mulP ps qs) ∧ Below w.heap.size w w' := by
  have bV : Below w.heap.size w (((w.alloc (.cells #[v] 25)).alloc (.cells #[v'] 25)).alloc (.cells #[.slice none 0 0] 25)) := (((Below.refl _ _).alloc (Nat.le_refl _) _).alloc (by simp) _).alloc (by simp; omega) _
  have R0 := Rec.new ((w.alloc (.cells #[v] 25)).alloc (.cells #[v'] 25)) [.slice none 0 0] 25
  rw [show ((w.alloc (.cells #[v] 25)).alloc (.cells #[v'] 25)).heap.size = w.heap.size + 2 by simp] at R0
  have Q0 := (Rec.new (w.alloc (.cells #[v] 25)) [v'] 25).alloc (.cells #[.slice none 0 0] 25)
  rw [show (w.alloc (.cells #[v] 25)).heap.size = w.heap.size + 1 by simp] at Q0
  have RR := hide R0
  have QQ := hide Q0
  have AA := hide (((Rec.new w [v] 25).alloc (.cells #[v'] 25)).alloc (.cells #[.slice none 0 0] 25))
  have HW := hide h
  have HW' := hide h'
  have H := hide (h.below bV)
  have BW := hide bV
  obtain ⟨a, cap, off, rfl, h2, h3, _, h4⟩ := h
  obtain ⟨a', cap', off', rfl, h2', h3', _, h4'⟩ := h'
  unfold maxLen at h3 h3'
  clear bV R0 Q0
  obtain ⟨R, eR⟩ : ∃ R, mulP ps qs = R := ⟨_, rfl⟩
  obtain ⟨T, eT⟩ : ∃ T, mulB ps qs = T := ⟨_, rfl⟩
  rw [eR, eT]
  have ER := hide eR
  have ET := hide eT
  clear eR eT
  go_enter Tryz.func20, Tryz.ntmps20
  go_wp2_with fail
  generalize (((w.alloc (.cells #[.slice a ps.length cap] 25)).alloc (.cells #[.slice a' qs.length cap'] 25)).alloc (.cells #[.slice none 0 0] 25)) = V0 at RR QQ AA H BW ⊢
  have a0 := AA.out.cell 0 _ rfl
  go_wp2_with fail
  refine (specOk ps B _ _ H.out).mono ?_
  rintro e V ⟨rfl, hb⟩
  replace RR := hide (RR.out.below hb)
  replace QQ := hide (QQ.out.below hb)
  replace AA := hide (AA.out.below hb)
  replace BW := hide (BW.out.trans (hb.mono BW.out.size))
  clear hb a0 H
  cases ok : okP ps with
  | false =>
    have hf := mul_no (ps := ps) (qs := qs) (fun h => by rw [ok] at h; exact absurd h.1 (by decide))
    have HD := hide (ER.out.symm.trans hf.2)
    obtain rfl := ET.out.symm.trans hf.1
    have r0 := RR.out.cell 0 _ rfl
    have s0 := RR.out.soft 0
    clear ok hf
    have B0 := hide (BW.out.setCell (p := ⟨w.heap.size + 2, 0, none⟩) (by show w.heap.size ≤ w.heap.size + 2; omega) (.slice none 0 0))
    have Z0 := hide (RR.out.set 0 (.slice none 0 0) (by simp) rfl)
    go_wp2
    generalize V.setCell ⟨w.heap.size + 2, 0, none⟩ (.slice none 0 0) = U at B0 Z0 ⊢
    have z0 := Z0.out.cell 0 _ rfl
    exact bodyPost_ret (v := .tuple #[.agg #[.slice none 0 0], .bool false]) (by simp [results, Tryz.results20, go_sem, z0]) rfl ⟨none, 0, 0, rfl, by rw [HD.out]; exact WPoly.nil _ _ _, B0.out⟩
  | true =>
    have OK := hide ok
    have H' := hide (HW'.out.below BW.out)
    clear ok
    have a0 := QQ.out.cell 0 _ rfl
    go_wp2_with fail
    refine (specOk qs B' _ _ H'.out).mono ?_
    rintro e u ⟨rfl, hb⟩
    replace RR := hide (RR.out.below hb)
    replace QQ := hide (QQ.out.below hb)
    replace AA := hide (AA.out.below hb)
    replace BW := hide (BW.out.trans (hb.mono BW.out.size))
    clear hb a0 H'
    cases ok' : okP qs with
    | false =>
      have hf := mul_no (ps := ps) (qs := qs) (fun h => by rw [ok'] at h; exact absurd h.2 (by decide))
      have HD := hide (ER.out.symm.trans hf.2)
      obtain rfl := ET.out.symm.trans hf.1
      have r0 := RR.out.cell 0 _ rfl
      have s0 := RR.out.soft 0
      clear ok' hf
      have B0 := hide (BW.out.setCell (p := ⟨w.heap.size + 2, 0, none⟩) (by show w.heap.size ≤ w.heap.size + 2; omega) (.slice none 0 0))
      have Z0 := hide (RR.out.set 0 (.slice none 0 0) (by simp) rfl)
      go_wp2
      generalize u.setCell ⟨w.heap.size + 2, 0, none⟩ (.slice none 0 0) = U at B0 Z0 ⊢
      have z0 := Z0.out.cell 0 _ rfl
      exact bodyPost_ret (v := .tuple #[.agg #[.slice none 0 0], .bool false]) (by simp [results, Tryz.results20, go_sem, z0]) rfl ⟨none, 0, 0, rfl, by rw [HD.out]; exact WPoly.nil _ _ _, B0.out⟩
    | true =>
      have hf := mul_yes OK.out ok'
      have HD := hide (hf.2.symm.trans ER.out)
      have HT := hide (hf.1.symm.trans ET.out)
      have OK' := hide ok'
      clear ok' hf ER ET
      obtain ⟨n, en⟩ : ∃ n, ps.length = n := ⟨_, rfl⟩
      obtain ⟨m, em⟩ : ∃ m, qs.length = m := ⟨_, rfl⟩
      have EN := hide en
      have EM := hide em
      have n12 : Hid (n ≤ 12) := show _ ≤ _ by rw [← en]; exact ok_len OK.out
      have m12 : Hid (m ≤ 12) := show _ ≤ _ by rw [← em]; exact ok_len OK'.out
      have H4 := hide h4
      have H4' := hide h4'
      rw [en] at h2 AA
      rw [em] at h2' QQ
      rw [en, em]
      clear en em h4 h4' HW HW'
      go_wp2
      have hbl := (Below.refl _ u).alloc (Nat.le_refl _) (.cells #[] 55)
      have P0 := hide (prow_none (u.alloc (.cells #[] 55)) 0 u.heap.size)
      have BU := hide hbl
      clear hbl
      generalize u.alloc (.cells #[] 55) = U at BU P0 ⊢
      go_loopw [6, 7] (fun q i wr => ∃ (ni c BB : Nat) (L : List Mono) (vq : Option Addr), ni ≤ n ∧ i = .int .i64 ni ∧ q = .slice vq L.length c ∧ Hid (PRow wr BB (.slice vq L.length c) L) ∧ Hid (mulL qs L (ps.drop ni) = mulL qs [] ps) ∧ Hid (L.length ≤ ni * 12) ∧ Hid (Words L) ∧ Hid (Below u.heap.size u wr)) (fun _ i _ => n - (intOf i).toNat)
      case atStart => exact ⟨0, 0, 0, [], _, by omega, rfl, rfl, P0, rfl, Nat.le_refl _, (fun x hx => by cases hx), BU⟩
      case round =>
        obtain ⟨ni, lc, BB, L, vq, hni, rfl, rfl, HS, HL, HN, HV, HB⟩ := hrel
        clear P0 BU
        have a0 := (AA.out.below HB.out).cell 0 _ rfl
        by_cases hlt : ni < n
        case neg =>
          have HR : Hid (L = mulL qs [] ps) := show _ = _ by have := HL.out; rw [mulL_end (by rw [EN.out]; omega)] at this; exact this
          go_wp2_with fail
          refine (l4Fit L BB _ _ HS.out).mono ?_
          rintro e u2 ⟨qa, ql, qc, rfl, W2, hb⟩
          have HB2 := HB.out.trans (hb.mono HB.out.size)
          have RR2 := RR.out.below HB2
          have r0 := RR2.cell 0 _ rfl
          have s0 := RR2.soft 0
          have BB2 := BW.out.trans (HB2.mono BW.out.size)
          have B0 := hide (BB2.setCell (p := ⟨w.heap.size + 2, 0, none⟩) (by show w.heap.size ≤ w.heap.size + 2; omega) (.slice qa ql qc))
          have Z0 := hide (RR2.set 0 (.slice qa ql qc) (by simp) rfl)
          have lu := RR.out.lt
          have W3 := W2.keep (w' := u2.setCell ⟨w.heap.size + 2, 0, none⟩ (.slice qa ql qc)) (Keep.of_turn ((Turn.refl (w.heap.size + 2) u2).setCell (p := ⟨w.heap.size + 2, 0, none⟩) rfl _)) (fun b h1 _ (h2 : b = _) => by have := HB.out.size; omega)
          have W4 := hide (W3.wide (lo' := w.heap.size) (hi' := (u2.setCell ⟨w.heap.size + 2, 0, none⟩ (.slice qa ql qc)).heap.size) (by have := HB.out.size; omega) (by simp [World.setCell]))
          have E1 : Hid (fitB L = T) := show _ = _ by rw [HR.out]; exact HT.out
          have E2 : Hid (fitP L = R) := show _ = _ by rw [HR.out]; exact HD.out
          clear W2 W3 HB2 RR2 BB2 hb lu a0
          go_wp2
          generalize u2.setCell ⟨w.heap.size + 2, 0, none⟩ (.slice qa ql qc) = U2 at B0 Z0 W4 ⊢
          have z0 := Z0.out.cell 0 _ rfl
          exact bodyPost_ret (v := .tuple #[.agg #[.slice qa ql qc], .bool (fitB L)]) (by simp [results, Tryz.results20, go_sem, z0]) rfl ⟨qa, ql, qc, by rw [E1.out], by rw [← E2.out]; exact W4.out, B0.out⟩
        obtain ⟨x, ex⟩ : ∃ x, ps[ni]? = some x := ⟨_, List.getElem?_eq_getElem (by rw [EN.out]; exact hlt)⟩
        obtain ⟨rfl, hc⟩ := H4.out.resolve_left (fun e => by rw [e] at ex; simp at ex)
        have C0 := hide (ok_words OK.out x (List.mem_of_getElem? ex))
        have F0 := hide (ok_atoms OK.out (List.mem_of_getElem? ex))
        have HL2 := hide ((mulL_next (l := L) (qs := qs) ex).symm.trans HL.out)
        obtain ⟨c, at_⟩ := x
        obtain ⟨g1, s, b, g2, g3⟩ := hc ni _ ex
        have G1 := hide g1
        have G2 := hide g2
        have G3 := hide g3
        obtain ⟨qx, cx, _, rfl, _⟩ := g3
        have lk : ((ni : Nat) : Int) < (n : Nat) := by omega
        simp only [] at G1 G2 G3 C0 F0
        clear ex g1 g2 hc HL
        go_wp2
        clear a0
        obtain ⟨M, eM⟩ : ∃ M, mulR (c, at_) L qs = M := ⟨_, rfl⟩
        rw [eM] at HL2
        have HM : Hid (mulR (c, at_) L (qs.drop 0) = M) := eM
        clear eM
        go_loopw [6, 8] (fun q i wr => ∃ (nk c2 BB : Nat) (L : List Mono) (vq : Option Addr), nk ≤ m ∧ i = .int .i64 nk ∧ q = .slice vq L.length c2 ∧ Hid (PRow wr BB (.slice vq L.length c2) L) ∧ Hid (mulR (c, at_) L (qs.drop nk) = M) ∧ Hid (L.length ≤ ni * 12 + nk) ∧ Hid (Words L) ∧ Hid (Below u.heap.size u wr)) (fun _ i _ => m - (intOf i).toNat)
        case atStart => exact ⟨0, _, _, L, _, by omega, rfl, rfl, HS, HM, by have := HN.out; exact (show _ ≤ _ by omega), HV, HB⟩
        case round =>
          clear HS HM HN HV HB
          obtain ⟨nk, lc, BB, L, vq, hnk, rfl, rfl, HS, HM, HN, HV, HB⟩ := hrel
          have b0 := (QQ.out.below HB.out).cell 0 _ rfl
          by_cases hkm : nk < m
          case neg =>
            obtain rfl : nk = m := by omega
            have HR : Hid (L = M) := show _ = _ by have := HM.out; rw [mulR_end (by rw [EM.out]; omega)] at this; exact this
            have HL3 : Hid (mulL qs L (ps.drop (ni + 1)) = mulL qs [] ps) := show _ = _ by rw [HR.out]; exact HL2.out
            have HN2 : Hid (L.length ≤ (ni + 1) * 12) := show _ ≤ _ by have := HN.out; have := m12.out; omega
            clear HR HM
            go_wp2
            exact ⟨⟨ni + 1, lc, BB, L, vq, by omega, by go_num, rfl, HS, HL3, HN2, HV, HB⟩, by simp [intOf]; omega⟩
          obtain ⟨y, ey⟩ : ∃ y, qs[nk]? = some y := ⟨_, List.getElem?_eq_getElem (by rw [EM.out]; exact hkm)⟩
          obtain ⟨rfl, hd⟩ := H4'.out.resolve_left (fun e => by rw [e] at ey; simp at ey)
          have D0 := hide (ok_words OK'.out y (List.mem_of_getElem? ey))
          have E0 := hide (ok_atoms OK'.out (List.mem_of_getElem? ey))
          have EYY := hide ey
          obtain ⟨d, bt_⟩ := y
          obtain ⟨k1, s', b', k2, k3⟩ := hd nk _ ey
          have BU := BW.out.trans (HB.out.mono BW.out.size)
          have cx1 := cell_below BU G1.out
          have sx1 := cell_below BU G2.out
          have RX := hide (G3.out.below BU)
          have cy1 := cell_below BU k1
          have sy1 := cell_below BU k2
          have RY := hide (k3.below BU)
          obtain ⟨qy, cy, _, rfl, _⟩ := k3
          simp only [] at cy1 sy1 RY D0 E0
          have a0 := (AA.out.below HB.out).cell 0 _ rfl
          have lj : ((nk : Nat) : Int) < (m : Nat) := by omega
          have lt1 : c * d ≤ 4294967296 := by
            have h1 := C0.out
            have h2 := D0.out
            have : c * d ≤ 65536 * 65536 := Int.mul_le_mul (by omega) (by omega) h2.1 (by omega)
            omega
          have lt0 : 0 ≤ c * d := Int.mul_nonneg C0.out.1 D0.out.1
          clear ey k1 k2 hd BU
          go_wp2_with fail
          refine (wpIn_wide (n := 0)).1 ?_
          have hHeld : wr.drew.cell? ⟨w.heap.size, 0, none⟩ = some (.slice (some ⟨B, off, none⟩) n cap) ∧ wr.drew.cell? ⟨w.heap.size + 1, 0, none⟩ = some (.slice (some ⟨B', off', none⟩) m cap') ∧ wr.drew.cell? ⟨B, off + ni * 2, none⟩ = some (.int .i64 c) ∧ wr.drew.cell? ⟨B', off' + nk * 2, none⟩ = some (.int .i64 d) ∧ wr.drew.cell? ⟨B, off + ni * 2 + 1, none⟩ = some (.slice qx at_.length cx) ∧ wr.drew.cell? ⟨B', off' + nk * 2 + 1, none⟩ = some (.slice qy bt_.length cy) := ⟨a0, b0, cx1, cy1, sx1, sy1⟩
          refine PhaseIn.region (S := fun w' => w'.cell? ⟨w.heap.size, 0, none⟩ = some (.slice (some ⟨B, off, none⟩) n cap) ∧ w'.cell? ⟨w.heap.size + 1, 0, none⟩ = some (.slice (some ⟨B', off', none⟩) m cap') ∧ w'.cell? ⟨B, off + ni * 2, none⟩ = some (.int .i64 c) ∧ w'.cell? ⟨B', off' + nk * 2, none⟩ = some (.int .i64 d) ∧ w'.cell? ⟨B, off + ni * 2 + 1, none⟩ = some (.slice qx at_.length cx) ∧ w'.cell? ⟨B', off' + nk * 2 + 1, none⟩ = some (.slice qy bt_.length cy)) 15 (by kernel_rfl) ?_
          have hdr : Below wr.heap.size wr wr.drew := (Below.refl _ _).drew
          have HS1 := hide (HS.out.below hdr)
          have RX1 := hide (RX.out.below hdr)
          have RY1 := hide (RY.out.below hdr)
          have HB1 := hide (HB.out.trans (hdr.mono HB.out.size))
          generalize wr.drew = wd at hHeld HS1 RX1 RY1 HB1 ⊢
          clear hdr a0 b0 cx1 cy1 sx1 sy1 HS RX RY HB
          refine PhaseIn.takeD (i := 0) (v := ?_) [0, 1, 3, 4, 5, 12, 13, 14] 34 rfl (by rfl) (by kernel_rfl) (by kernel_rfl) (by kernel_rfl) (by kernel_rfl) (by kernel_rfl) (fun _ _ _ h => h) (Or.inl ⟨by kernel_rfl, ?_⟩) hHeld ?_
          rotate_left
          · intro w' hSw
            (try dsimp only at hSw)
            go_simp
            first | done | with_reducible rfl
          try simp only [Act.put, List.setIfInBounds_toArray, List.set]
          refine PhaseIn.takeD (i := 1) (v := ?_) [1, 3, 4, 5, 12, 13, 14] 35 rfl (by rfl) (by kernel_rfl) (by kernel_rfl) (by kernel_rfl) (by kernel_rfl) (by kernel_rfl) (fun _ _ _ h => h) (Or.inl ⟨by kernel_rfl, ?_⟩) hHeld ?_
          rotate_left
          · intro w' hSw
            (try dsimp only at hSw)
            go_simp
            first | done | with_reducible rfl
          try simp only [Act.put, List.setIfInBounds_toArray, List.set]
          refine PhaseIn.takeD (i := 2) (v := ?_) [2, 3, 4, 5, 12, 13, 14] 36 rfl (by rfl) (by kernel_rfl) (by kernel_rfl) (by kernel_rfl) (by kernel_rfl) (by kernel_rfl) (fun _ _ _ h => h) (Or.inl ⟨by kernel_rfl, ?_⟩) hHeld ?_
          rotate_left
          · intro w' hSw
            (try dsimp only at hSw)
            go_simp
            first | done | with_reducible rfl
          try simp only [Act.put, List.setIfInBounds_toArray, List.set]
          refine PhaseIn.takeD (i := 3) (v := ?_) [3, 4, 5, 12, 13, 14] 37 rfl (by rfl) (by kernel_rfl) (by kernel_rfl) (by kernel_rfl) (by kernel_rfl) (by kernel_rfl) (fun _ _ _ h => h) (Or.inl ⟨by kernel_rfl, ?_⟩) hHeld ?_
          rotate_left
          · intro w' hSw
            (try dsimp only at hSw)
            go_simp
            first | done | with_reducible rfl
          try simp only [Act.put, List.setIfInBounds_toArray, List.set]
          refine PhaseIn.takeD (i := 4) (v := ?_) [4, 5, 12, 13, 14] 38 rfl (by rfl) (by kernel_rfl) (by kernel_rfl) (by kernel_rfl) (by kernel_rfl) (by kernel_rfl) (fun _ _ _ h => h) (Or.inl ⟨by kernel_rfl, ?_⟩) hHeld ?_
          rotate_left
          · intro w' hSw
            (try dsimp only at hSw)
            go_simp
            first | done | with_reducible rfl
          try simp only [Act.put, List.setIfInBounds_toArray, List.set]
          refine PhaseIn.takeD (i := 5) (v := ?_) [5, 12, 13, 14] 39 rfl (by rfl) (by kernel_rfl) (by kernel_rfl) (by kernel_rfl) (by kernel_rfl) (by kernel_rfl) (fun _ _ _ h => h) (Or.inl ⟨by kernel_rfl, ?_⟩) hHeld ?_
          rotate_left
          · intro w' hSw
            (try dsimp only at hSw)
            go_simp
            first | done | with_reducible rfl
          try simp only [Act.put, List.setIfInBounds_toArray, List.set]
          refine PhaseIn.takeD (i := 6) (v := ?_) [6, 7, 9, 10, 11, 12, 13, 14] 40 rfl (by rfl) (by kernel_rfl) (by kernel_rfl) (by kernel_rfl) (by kernel_rfl) (by kernel_rfl) (fun _ _ _ h => h) (Or.inl ⟨by kernel_rfl, ?_⟩) hHeld ?_
          rotate_left
          · intro w' hSw
            (try dsimp only at hSw)
            go_simp
            first | done | with_reducible rfl
          try simp only [Act.put, List.setIfInBounds_toArray, List.set]
          refine PhaseIn.takeD (i := 7) (v := ?_) [7, 9, 10, 11, 12, 13, 14] 41 rfl (by rfl) (by kernel_rfl) (by kernel_rfl) (by kernel_rfl) (by kernel_rfl) (by kernel_rfl) (fun _ _ _ h => h) (Or.inl ⟨by kernel_rfl, ?_⟩) hHeld ?_
          rotate_left
          · intro w' hSw
            (try dsimp only at hSw)
            go_simp
            first | done | with_reducible rfl
          try simp only [Act.put, List.setIfInBounds_toArray, List.set]
          refine PhaseIn.takeD (i := 8) (v := ?_) [8, 9, 10, 11, 12, 13, 14] 42 rfl (by rfl) (by kernel_rfl) (by kernel_rfl) (by kernel_rfl) (by kernel_rfl) (by kernel_rfl) (fun _ _ _ h => h) (Or.inl ⟨by kernel_rfl, ?_⟩) hHeld ?_
          rotate_left
          · intro w' hSw
            (try dsimp only at hSw)
            go_simp
            first | done | with_reducible rfl
          try simp only [Act.put, List.setIfInBounds_toArray, List.set]
          refine PhaseIn.takeD (i := 9) (v := ?_) [9, 10, 11, 12, 13, 14] 43 rfl (by rfl) (by kernel_rfl) (by kernel_rfl) (by kernel_rfl) (by kernel_rfl) (by kernel_rfl) (fun _ _ _ h => h) (Or.inl ⟨by kernel_rfl, ?_⟩) hHeld ?_
          rotate_left
          · intro w' hSw
            (try dsimp only at hSw)
            go_simp
            first | done | with_reducible rfl
          try simp only [Act.put, List.setIfInBounds_toArray, List.set]
          refine PhaseIn.takeD (i := 10) (v := ?_) [10, 11, 12, 13, 14] 44 rfl (by rfl) (by kernel_rfl) (by kernel_rfl) (by kernel_rfl) (by kernel_rfl) (by kernel_rfl) (fun _ _ _ h => h) (Or.inl ⟨by kernel_rfl, ?_⟩) hHeld ?_
          rotate_left
          · intro w' hSw
            (try dsimp only at hSw)
            go_simp
            first | done | with_reducible rfl
          try simp only [Act.put, List.setIfInBounds_toArray, List.set]
          refine PhaseIn.takeD (i := 11) (v := ?_) [11, 12, 13, 14] 45 rfl (by rfl) (by kernel_rfl) (by kernel_rfl) (by kernel_rfl) (by kernel_rfl) (by kernel_rfl) (fun _ _ _ h => h) (Or.inl ⟨by kernel_rfl, ?_⟩) hHeld ?_
          rotate_left
          · intro w' hSw
            (try dsimp only at hSw)
            go_simp
            first | done | with_reducible rfl
          try simp only [Act.put, List.setIfInBounds_toArray, List.set]
          refine PhaseIn.takeD (i := 12) (v := .int .i64 (c * d)) [12, 13, 14] 46 rfl (by rfl) (by kernel_rfl) (by kernel_rfl) (by kernel_rfl) (by kernel_rfl) (by kernel_rfl) (fun _ _ _ h => h) (Or.inl ⟨by kernel_rfl, ?_⟩) hHeld ?_
          · intro w' hSw
            (try dsimp only at hSw)
            have hwr := IntWalk.i64_in (c * d) ⟨by omega, by omega⟩
            go_simp
            first | done | with_reducible rfl
          try simp only [Act.put, List.setIfInBounds_toArray, List.set]
          refine PhaseIn.one (i := 13) (by kernel_rfl) rfl (by kernel_rfl) (fun K hK => ?_)
          unfold Oper.wpIn
          refine ⟨fun _ _ => trivial, ?_⟩
          go_simp
          refine ⟨rfl, (callsIn_wide.2 (Wrd.specWrap (c * d) _)).mono ?_⟩
          rintro e wz ⟨rfl, rfl⟩
          refine hK _ _ (fun _ => hHeld) ?_
          clear hK K
          try simp only [Act.put, List.setIfInBounds_toArray, List.set]
          refine PhaseIn.takeD (i := 14) (v := ?_) [14] 9 rfl (by rfl) (by kernel_rfl) (by kernel_rfl) (by kernel_rfl) (by kernel_rfl) (by kernel_rfl) (fun _ _ _ h => h) (Or.inl ⟨by kernel_rfl, ?_⟩) hHeld ?_
          rotate_left
          · intro w' hSw
            (try dsimp only at hSw)
            go_simp
            first | done | with_reducible rfl
          try simp only [Act.put, List.setIfInBounds_toArray, List.set]
          refine PhaseIn.done (by kernel_rfl) ?_ _
          have q0 : 0 ≤ c * d % 65536 ∧ c * d % 65536 < 65536 := by omega
          clear lt0 lt1
          have KP := hide (fun h0 => mulR_put (x := (c, at_)) (l := L) EYY.out h0)
          have KN := hide (fun h0 => mulR_pass (x := (c, at_)) (l := L) EYY.out h0)
          simp only [] at KP KN
          obtain ⟨t, et⟩ : ∃ t, c * d % 65536 = t := ⟨_, rfl⟩
          rw [et] at q0 KP KN ⊢
          clear et
          by_cases hp : 0 < t
          case neg =>
            have HM2 : Hid (mulR (c, at_) L (qs.drop (nk + 1)) = M) := (KN.out hp).symm.trans HM.out
            have HN2 : Hid (L.length ≤ ni * 12 + (nk + 1)) := Nat.le_succ_of_le HN.out
            clear hHeld
            go_wp2
            exact ⟨⟨nk + 1, lc, BB, L, vq, by omega, by go_num, rfl, HS1, HM2, HN2, HV, HB1⟩, by simp [intOf]; omega⟩
          have L1 : Hid (L.length ≤ 1000) := show _ ≤ _ by have := HN.out; have := n12.out; have := m12.out; omega
          obtain ⟨a0, b0, cx1, cy1, sx1, sy1⟩ := hHeld
          go_wp2_with fail
          refine (wpIn_wide (n := 0)).1 ?_
          have hHeld : wz.drew.cell? ⟨w.heap.size, 0, none⟩ = some (.slice (some ⟨B, off, none⟩) n cap) ∧ wz.drew.cell? ⟨w.heap.size + 1, 0, none⟩ = some (.slice (some ⟨B', off', none⟩) m cap') ∧ wz.drew.cell? ⟨B, off + ni * 2, none⟩ = some (.int .i64 c) ∧ wz.drew.cell? ⟨B', off' + nk * 2, none⟩ = some (.int .i64 d) ∧ wz.drew.cell? ⟨B, off + ni * 2 + 1, none⟩ = some (.slice qx at_.length cx) ∧ wz.drew.cell? ⟨B', off' + nk * 2 + 1, none⟩ = some (.slice qy bt_.length cy) := ⟨a0, b0, cx1, cy1, sx1, sy1⟩
          refine PhaseIn.region (S := fun w' => w'.cell? ⟨w.heap.size, 0, none⟩ = some (.slice (some ⟨B, off, none⟩) n cap) ∧ w'.cell? ⟨w.heap.size + 1, 0, none⟩ = some (.slice (some ⟨B', off', none⟩) m cap') ∧ w'.cell? ⟨B, off + ni * 2, none⟩ = some (.int .i64 c) ∧ w'.cell? ⟨B', off' + nk * 2, none⟩ = some (.int .i64 d) ∧ w'.cell? ⟨B, off + ni * 2 + 1, none⟩ = some (.slice qx at_.length cx) ∧ w'.cell? ⟨B', off' + nk * 2 + 1, none⟩ = some (.slice qy bt_.length cy)) 18 (by kernel_rfl) ?_
          have hdr : Below wz.heap.size wz wz.drew := (Below.refl _ _).drew
          have HS2 := hide (HS1.out.below hdr)
          have RX2 := hide (RX1.out.below hdr)
          have RY2 := hide (RY1.out.below hdr)
          have HB2 := hide (HB1.out.trans (hdr.mono HB1.out.size))
          generalize wz.drew = we at hHeld HS2 RX2 RY2 HB2 ⊢
          clear hdr a0 b0 cx1 cy1 sx1 sy1 HS1 RX1 RY1 HB1
          refine PhaseIn.takeD (i := 0) (v := ?_) [0, 16, 17] 50 rfl (by rfl) (by kernel_rfl) (by kernel_rfl) (by kernel_rfl) (by kernel_rfl) (by kernel_rfl) (fun _ _ _ h => h) (Or.inl ⟨by kernel_rfl, ?_⟩) hHeld ?_
          rotate_left
          · intro w' hSw
            (try dsimp only at hSw)
            go_simp
            first | done | with_reducible rfl
          try simp only [Act.put, List.setIfInBounds_toArray, List.set]
          refine PhaseIn.takeD (i := 1) (v := ?_) [1, 15, 16, 17] 51 rfl (by rfl) (by kernel_rfl) (by kernel_rfl) (by kernel_rfl) (by kernel_rfl) (by kernel_rfl) (fun _ _ _ h => h) (Or.inl ⟨by kernel_rfl, ?_⟩) hHeld ?_
          rotate_left
          · intro w' hSw
            (try dsimp only at hSw)
            go_simp
            first | done | with_reducible rfl
          try simp only [Act.put, List.setIfInBounds_toArray, List.set]
          refine PhaseIn.takeD (i := 2) (v := ?_) [2, 3, 5, 6, 7, 14, 15, 16, 17] 52 rfl (by rfl) (by kernel_rfl) (by kernel_rfl) (by kernel_rfl) (by kernel_rfl) (by kernel_rfl) (fun _ _ _ h => h) (Or.inl ⟨by kernel_rfl, ?_⟩) hHeld ?_
          rotate_left
          · intro w' hSw
            (try dsimp only at hSw)
            go_simp
            first | done | with_reducible rfl
          try simp only [Act.put, List.setIfInBounds_toArray, List.set]
          refine PhaseIn.takeD (i := 3) (v := ?_) [3, 5, 6, 7, 14, 15, 16, 17] 53 rfl (by rfl) (by kernel_rfl) (by kernel_rfl) (by kernel_rfl) (by kernel_rfl) (by kernel_rfl) (fun _ _ _ h => h) (Or.inl ⟨by kernel_rfl, ?_⟩) hHeld ?_
          rotate_left
          · intro w' hSw
            (try dsimp only at hSw)
            go_simp
            first | done | with_reducible rfl
          try simp only [Act.put, List.setIfInBounds_toArray, List.set]
          refine PhaseIn.takeD (i := 4) (v := ?_) [4, 5, 6, 7, 14, 15, 16, 17] 54 rfl (by rfl) (by kernel_rfl) (by kernel_rfl) (by kernel_rfl) (by kernel_rfl) (by kernel_rfl) (fun _ _ _ h => h) (Or.inl ⟨by kernel_rfl, ?_⟩) hHeld ?_
          rotate_left
          · intro w' hSw
            (try dsimp only at hSw)
            go_simp
            first | done | with_reducible rfl
          try simp only [Act.put, List.setIfInBounds_toArray, List.set]
          refine PhaseIn.takeD (i := 5) (v := ?_) [5, 6, 7, 14, 15, 16, 17] 55 rfl (by rfl) (by kernel_rfl) (by kernel_rfl) (by kernel_rfl) (by kernel_rfl) (by kernel_rfl) (fun _ _ _ h => h) (Or.inl ⟨by kernel_rfl, ?_⟩) hHeld ?_
          rotate_left
          · intro w' hSw
            (try dsimp only at hSw)
            go_simp
            first | done | with_reducible rfl
          try simp only [Act.put, List.setIfInBounds_toArray, List.set]
          refine PhaseIn.takeD (i := 6) (v := ?_) [6, 7, 14, 15, 16, 17] 56 rfl (by rfl) (by kernel_rfl) (by kernel_rfl) (by kernel_rfl) (by kernel_rfl) (by kernel_rfl) (fun _ _ _ h => h) (Or.inl ⟨by kernel_rfl, ?_⟩) hHeld ?_
          rotate_left
          · intro w' hSw
            (try dsimp only at hSw)
            go_simp
            first | done | with_reducible rfl
          try simp only [Act.put, List.setIfInBounds_toArray, List.set]
          refine PhaseIn.takeD (i := 7) (v := ?_) [7, 14, 15, 16, 17] 57 rfl (by rfl) (by kernel_rfl) (by kernel_rfl) (by kernel_rfl) (by kernel_rfl) (by kernel_rfl) (fun _ _ _ h => h) (Or.inl ⟨by kernel_rfl, ?_⟩) hHeld ?_
          rotate_left
          · intro w' hSw
            (try dsimp only at hSw)
            go_simp
            first | done | with_reducible rfl
          try simp only [Act.put, List.setIfInBounds_toArray, List.set]
          refine PhaseIn.takeD (i := 8) (v := ?_) [8, 9, 11, 12, 13, 14, 15, 16, 17] 58 rfl (by rfl) (by kernel_rfl) (by kernel_rfl) (by kernel_rfl) (by kernel_rfl) (by kernel_rfl) (fun _ _ _ h => h) (Or.inl ⟨by kernel_rfl, ?_⟩) hHeld ?_
          rotate_left
          · intro w' hSw
            (try dsimp only at hSw)
            go_simp
            first | done | with_reducible rfl
          try simp only [Act.put, List.setIfInBounds_toArray, List.set]
          refine PhaseIn.takeD (i := 9) (v := ?_) [9, 11, 12, 13, 14, 15, 16, 17] 59 rfl (by rfl) (by kernel_rfl) (by kernel_rfl) (by kernel_rfl) (by kernel_rfl) (by kernel_rfl) (fun _ _ _ h => h) (Or.inl ⟨by kernel_rfl, ?_⟩) hHeld ?_
          rotate_left
          · intro w' hSw
            (try dsimp only at hSw)
            go_simp
            first | done | with_reducible rfl
          try simp only [Act.put, List.setIfInBounds_toArray, List.set]
          refine PhaseIn.takeD (i := 10) (v := ?_) [10, 11, 12, 13, 14, 15, 16, 17] 60 rfl (by rfl) (by kernel_rfl) (by kernel_rfl) (by kernel_rfl) (by kernel_rfl) (by kernel_rfl) (fun _ _ _ h => h) (Or.inl ⟨by kernel_rfl, ?_⟩) hHeld ?_
          rotate_left
          · intro w' hSw
            (try dsimp only at hSw)
            go_simp
            first | done | with_reducible rfl
          try simp only [Act.put, List.setIfInBounds_toArray, List.set]
          refine PhaseIn.takeD (i := 11) (v := ?_) [11, 12, 13, 14, 15, 16, 17] 61 rfl (by rfl) (by kernel_rfl) (by kernel_rfl) (by kernel_rfl) (by kernel_rfl) (by kernel_rfl) (fun _ _ _ h => h) (Or.inl ⟨by kernel_rfl, ?_⟩) hHeld ?_
          rotate_left
          · intro w' hSw
            (try dsimp only at hSw)
            go_simp
            first | done | with_reducible rfl
          try simp only [Act.put, List.setIfInBounds_toArray, List.set]
          refine PhaseIn.takeD (i := 12) (v := ?_) [12, 13, 14, 15, 16, 17] 62 rfl (by rfl) (by kernel_rfl) (by kernel_rfl) (by kernel_rfl) (by kernel_rfl) (by kernel_rfl) (fun _ _ _ h => h) (Or.inl ⟨by kernel_rfl, ?_⟩) hHeld ?_
          rotate_left
          · intro w' hSw
            (try dsimp only at hSw)
            go_simp
            first | done | with_reducible rfl
          try simp only [Act.put, List.setIfInBounds_toArray, List.set]
          refine PhaseIn.takeD (i := 13) (v := ?_) [13, 14, 15, 16, 17] 63 rfl (by rfl) (by kernel_rfl) (by kernel_rfl) (by kernel_rfl) (by kernel_rfl) (by kernel_rfl) (fun _ _ _ h => h) (Or.inl ⟨by kernel_rfl, ?_⟩) hHeld ?_
          rotate_left
          · intro w' hSw
            (try dsimp only at hSw)
            go_simp
            first | done | with_reducible rfl
          try simp only [Act.put, List.setIfInBounds_toArray, List.set]
          refine PhaseIn.one (i := 14) (by kernel_rfl) rfl (by kernel_rfl) (fun K hK => ?_)
          unfold Oper.wpIn
          refine ⟨fun _ _ => trivial, ?_⟩
          go_simp
          refine ⟨rfl, (callsIn_wide.2 (l4Merge at_ bt_ b b' _ _ _ RX2.out RY2.out (by have := F0.out; omega) (by have := E0.out; omega))).mono ?_⟩
          rintro e w2 ⟨bm, qm, lm, cm, rfl, RM2, hb2⟩
          have hHeld2 : w2.cell? ⟨w.heap.size, 0, none⟩ = some (.slice (some ⟨B, off, none⟩) n cap) ∧ w2.cell? ⟨w.heap.size + 1, 0, none⟩ = some (.slice (some ⟨B', off', none⟩) m cap') ∧ w2.cell? ⟨B, off + ni * 2, none⟩ = some (.int .i64 c) ∧ w2.cell? ⟨B', off' + nk * 2, none⟩ = some (.int .i64 d) ∧ w2.cell? ⟨B, off + ni * 2 + 1, none⟩ = some (.slice qx at_.length cx) ∧ w2.cell? ⟨B', off' + nk * 2 + 1, none⟩ = some (.slice qy bt_.length cy) := ⟨cell_below hb2 hHeld.1, cell_below hb2 hHeld.2.1, cell_below hb2 hHeld.2.2.1, cell_below hb2 hHeld.2.2.2.1, cell_below hb2 hHeld.2.2.2.2.1, cell_below hb2 hHeld.2.2.2.2.2⟩
          refine hK _ _ (fun _ => hHeld2) ?_
          have HS3 := hide (HS2.out.below hb2)
          have HB3 := hide (HB2.out.trans (hb2.mono HB2.out.size))
          have RM3 := hide RM2
          clear hK K hHeld HS2 RX2 RY2 HB2 hb2 RM2
          try simp only [Act.put, List.setIfInBounds_toArray, List.set]
          refine PhaseIn.takeD (i := 15) (v := ?_) [15, 16, 17] 65 rfl (by rfl) (by kernel_rfl) (by kernel_rfl) (by kernel_rfl) (by kernel_rfl) (by kernel_rfl) (fun _ _ _ h => h) (Or.inl ⟨by kernel_rfl, ?_⟩) hHeld2 ?_
          rotate_left
          · intro w' hSw
            (try dsimp only at hSw)
            go_simp
            first | done | with_reducible rfl
          try simp only [Act.put, List.setIfInBounds_toArray, List.set]
          refine PhaseIn.one (i := 16) (by kernel_rfl) rfl (by kernel_rfl) (fun K hK => ?_)
          unfold Oper.wpIn
          refine ⟨fun _ _ => trivial, ?_⟩
          go_simp
          refine ⟨rfl, (callsIn_wide.2 (l4Plus L t (mergeL at_ bt_) BB bm _ _ _ HS3.out RM3.out L1.out q0 HV.out)).mono ?_⟩
          rintro e w3 ⟨B2, qa2, ql2, qc2, rfl, P2, hb3⟩
          have hHeld3 : w3.cell? ⟨w.heap.size, 0, none⟩ = some (.slice (some ⟨B, off, none⟩) n cap) ∧ w3.cell? ⟨w.heap.size + 1, 0, none⟩ = some (.slice (some ⟨B', off', none⟩) m cap') ∧ w3.cell? ⟨B, off + ni * 2, none⟩ = some (.int .i64 c) ∧ w3.cell? ⟨B', off' + nk * 2, none⟩ = some (.int .i64 d) ∧ w3.cell? ⟨B, off + ni * 2 + 1, none⟩ = some (.slice qx at_.length cx) ∧ w3.cell? ⟨B', off' + nk * 2 + 1, none⟩ = some (.slice qy bt_.length cy) := ⟨cell_below hb3 hHeld2.1, cell_below hb3 hHeld2.2.1, cell_below hb3 hHeld2.2.2.1, cell_below hb3 hHeld2.2.2.2.1, cell_below hb3 hHeld2.2.2.2.2.1, cell_below hb3 hHeld2.2.2.2.2.2⟩
          refine hK _ _ (fun _ => hHeld3) ?_
          have HB4 := hide (HB3.out.trans (hb3.mono HB3.out.size))
          have ql : ql2 = (plusL (t, mergeL at_ bt_) false L).length := by obtain ⟨a9, c9, o9, e9, _⟩ := P2; injection e9
          subst ql
          have P3 := hide P2
          clear hK K hHeld2 HS3 RM3 HB3 hb3 P2
          try simp only [Act.put, List.setIfInBounds_toArray, List.set]
          refine PhaseIn.takeD (i := 17) (v := ?_) [17] 6 rfl (by rfl) (by kernel_rfl) (by kernel_rfl) (by kernel_rfl) (by kernel_rfl) (by kernel_rfl) (fun _ _ _ h => h) (Or.inl ⟨by kernel_rfl, ?_⟩) hHeld3 ?_
          rotate_left
          · intro w' hSw
            (try dsimp only at hSw)
            go_simp
            first | done | with_reducible rfl
          try simp only [Act.put, List.setIfInBounds_toArray, List.set]
          refine PhaseIn.done (by kernel_rfl) ?_ _
          have NL : Hid ((plusL (t, mergeL at_ bt_) false L).length ≤ ni * 12 + (nk + 1)) := show _ ≤ _ by have := plus_len (m := (t, mergeL at_ bt_)) L false; have := HN.out; omega
          have NV : Hid (Words (plusL (t, mergeL at_ bt_) false L)) := plus_words q0 L false HV.out
          have HM2 : Hid (mulR (c, at_) (plusL (t, mergeL at_ bt_) false L) (qs.drop (nk + 1)) = M) := (KP.out hp).symm.trans HM.out
          clear hHeld3
          go_wp2
          exact ⟨⟨nk + 1, qc2, B2, plusL (t, mergeL at_ bt_) false L, qa2, by omega, by go_num, rfl, P3, HM2, NL, NV, HB4⟩, by simp [intOf]; omega⟩
end Go.Proofs.YtckhfpaicnjknaaGreat.Pol
