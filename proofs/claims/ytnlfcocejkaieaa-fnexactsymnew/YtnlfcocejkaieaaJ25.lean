/-
  The laws' own markTabTab.
  The laws' own markTabTab, markTabAtom, heldTabTab.
-/
import Derived.Test.YtnlfcocejkaieaaJ24
namespace Go.Proofs.Ytnlfcocejkaieaa.Tab
set_option linter.unusedVariables false
open Go.ChangeShapes Go.WideShapes Go.ChangeAt Go.RowKit IntS Pol
set_option maxRecDepth 8000 in
set_option maxHeartbeats 8000000 in
theorem markTabAtomS (ts : List At) (k : Int) (lo hi : Nat) (v : Value) (w : World) (h : WTab w lo hi v ts) (hs : ts.length + totT ts ≤ 1000000000) (k0 : 0 ≤ k) (k1 : k ≤ 1000000000) :
    Calls Try.prog 17 #[v, .int .i64 k] w fun e w' => e = .returned (.int .i64 (k + offT ts ts.length)) ∧ WTab w' lo hi v (markT ts k) ∧ Keep (fun b => lo ≤ b ∧ b < hi) w w' := by
  obtain ⟨a, G, cap, l, m, hh, sx, sy, rfl, h⟩ := h
  have h2 := h.le
  have h3 := h.mx
  unfold maxLen at h3
  obtain ⟨n, en⟩ : ∃ n, ts.length = n := ⟨_, rfl⟩
  have EN := hide en
  have HS : Hid (n + totT ts ≤ 1000000000) := show _ ≤ _ by omega
  have HW := hide h
  rw [en] at h2 ⊢
  have ML : Hid ((markT ts k).length = n) := show _ = _ by rw [markT_len, en]
  have MW : Hid (mixT ts k n = markT ts k) := show _ = _ by rw [← en]; exact mixT_whole ts k
  clear en hs h
  by_cases n0 : n = 0
  · subst n0
    have FF : Hid (WTab w lo hi (.slice a 0 cap) (markT ts k)) := ⟨a, G, cap, l, m, hh, sx, sy, by rw [ML.out], by rw [← MW.out, mixT_zero]; exact HW.out⟩
    have OZ : Hid (k + offT ts 0 = k) := show _ = _ by unfold offT; simp [totT]
    rw [OZ.out]
    go_enter Try.func17, Try.ntmps17
    go_wp2
    refine wp_loop_rounds 1 ?_
    rw [rounds_succ]
    go_wp2
    go_ret
    exact ⟨rfl, FF.out, Keep.refl _ _⟩
  · have hG := HW.out.at_.resolve_left (fun e => n0 (by rw [← EN.out, e]; rfl))
    obtain ⟨rfl, hG2⟩ := hG
    have GG := hide hG2
    clear hG2
    obtain ⟨KE, eKE⟩ : ∃ KE, k + offT ts n = KE := ⟨_, rfl⟩
    rw [eKE]
    have EKE := hide eKE
    clear eKE
    go_enter Try.func17, Try.ntmps17
    go_wp2
    go_loopw [1, 5] (fun q i wr => ∃ (j : Nat) (kk : Int), j ≤ n ∧ i = .int .i64 j ∧ q = .int .i64 kk ∧ Hid (kk = k + offT ts j) ∧ 0 ≤ kk ∧ kk ≤ 10000000000 ∧ Hid (WT wr lo hi (some ⟨G, 0, none⟩) G cap l m hh sx sy (mixT ts k j)) ∧ Hid (Keep (fun b => lo ≤ b ∧ b < hi) w wr)) (fun _ i _ => n - (intOf i).toNat)
    case atStart => exact ⟨0, k, by omega, rfl, rfl, by show _ = _; unfold offT; simp [totT], k0, by omega, by show WT _ _ _ _ _ _ _ _ _ _ _ _; rw [mixT_zero]; exact HW.out, Keep.refl _ _⟩
    case round =>
      obtain ⟨j, kk, hj, rfl, rfl, HK, kk0, kk1, HP, HB⟩ := hrel
      by_cases hlt : j < n
      case neg =>
        obtain rfl : j = n := by omega
        have HD : Hid (kk = KE) := HK.out.trans EKE.out
        have FF : Hid (WTab wr lo hi (.slice (some ⟨G, 0, none⟩) j cap) (markT ts k)) := ⟨_, G, cap, l, m, hh, sx, sy, by rw [ML.out], by rw [← MW.out]; exact HP.out⟩
        go_wp2
        go_ret
        exact ⟨ret_int HD.out, FF.out, HB.out⟩
      obtain ⟨t, et⟩ : ∃ t, ts[j]? = some t := ⟨_, List.getElem?_eq_getElem (by rw [EN.out]; exact hlt)⟩
      have em := (mixT_at (k := k) (n := j) et).trans (by rw [if_neg (Nat.lt_irrefl _)])
      obtain ⟨⟨p1, f1, p2, f2, p3, p4⟩, px, py, i1, i2, i3, i4, i5⟩ := HP.out.cells j t em
      have sz := totT_at et
      have sz2 := totT_le (ts := ts) j
      have ON := hide (offT_next et)
      have MX := hide (mixT_next (k := k) et)
      have XS : Hid (t.x.length + tot t.x ≤ 1000000000) := show _ ≤ _ by have := HS.out; unfold szA at sz; omega
      have YS : Hid (t.y.length + tot t.y ≤ 1000000000) := show _ ≤ _ by have := HS.out; unfold szA at sz; omega
      have LT : Hid (offT ts j ≤ 3000000000) := show _ ≤ _ by have := HS.out; unfold offT; omega
      have XO : Hid (0 ≤ offs t.x t.x.length ∧ offs t.x t.x.length ≤ 1000000000) := ⟨by rw [offs_full]; omega, by rw [offs_full]; have := XS.out; omega⟩
      have YO : Hid (0 ≤ offs t.y t.y.length ∧ offs t.y t.y.length ≤ 1000000000) := ⟨by rw [offs_full]; omega, by rw [offs_full]; have := YS.out; omega⟩
      have lw : G < wr.heap.size := Nat.lt_of_lt_of_le GG.out.2.2 HB.out.size
      have lj : ((j : Nat) : Int) < (n : Nat) := by omega
      have PX := hide (poly_other (poly_other px ⟨G, j * 4, none⟩ (.int .i64 kk) (by show G < l j ∨ m j ≤ G; omega)) ⟨G, j * 4 + 1, none⟩ (.int .i64 (kk + 1)) (by show G < l j ∨ m j ≤ G; omega))
      have PY := hide (poly_other (poly_other py ⟨G, j * 4, none⟩ (.int .i64 kk) (by show G < m j ∨ hh j ≤ G; omega)) ⟨G, j * 4 + 1, none⟩ (.int .i64 (kk + 1)) (by show G < m j ∨ hh j ≤ G; omega))
      have KW : Hid (Keep (fun b => b = G ∨ (l j ≤ b ∧ b < hh j)) wr ((wr.setCell ⟨G, j * 4, none⟩ (.int .i64 kk)).setCell ⟨G, j * 4 + 1, none⟩ (.int .i64 (kk + 1)))) := (Keep.of_turn (((Turn.refl G wr).setCell (p := ⟨G, j * 4, none⟩) rfl (.int .i64 kk)).setCell (p := ⟨G, j * 4 + 1, none⟩) rfl (.int .i64 (kk + 1)))).mono (fun b _ h => Or.inl h)
      have hf1 : (wr.setCell ⟨G, j * 4, none⟩ (.int .i64 kk)).cell? ⟨G, j * 4 + 1, none⟩ = some (.int .i64 t.k) := (World.cell?_setCell_other _ _ _ _ (off_ne (by omega))).trans p2
      have d0 : ((wr.setCell ⟨G, j * 4, none⟩ (.int .i64 kk)).setCell ⟨G, j * 4 + 1, none⟩ (.int .i64 (kk + 1))).cell? ⟨G, j * 4, none⟩ = some (.int .i64 kk) := (World.cell?_setCell_other _ _ _ _ (off_ne (by omega))).trans (World.cell?_setCell_same _ _ _ p1)
      have d1 : ((wr.setCell ⟨G, j * 4, none⟩ (.int .i64 kk)).setCell ⟨G, j * 4 + 1, none⟩ (.int .i64 (kk + 1))).cell? ⟨G, j * 4 + 1, none⟩ = some (.int .i64 (kk + 1)) := World.cell?_setCell_same _ _ _ hf1
      have far : ∀ o, o ≠ j * 4 → o ≠ j * 4 + 1 → ((wr.setCell ⟨G, j * 4, none⟩ (.int .i64 kk)).setCell ⟨G, j * 4 + 1, none⟩ (.int .i64 (kk + 1))).cell? ⟨G, o, none⟩ = wr.cell? ⟨G, o, none⟩ := fun o e1 e2 => by
        rw [World.cell?_setCell_other _ _ _ _ (off_ne (fun h => e2 h.symm)), World.cell?_setCell_other _ _ _ _ (off_ne (fun h => e1 h.symm))]
      have fro : ∀ o, ((wr.setCell ⟨G, j * 4, none⟩ (.int .i64 kk)).setCell ⟨G, j * 4 + 1, none⟩ (.int .i64 (kk + 1))).frozen? ⟨G, o, none⟩ = wr.frozen? ⟨G, o, none⟩ := fun o => by
        rw [World.frozen?_setCell, World.frozen?_setCell]
      have d2 := (far (j * 4 + 2) (by omega) (by omega)).trans p3
      have d3 := (far (j * 4 + 3) (by omega) (by omega)).trans p4
      have D0 := hide d0
      have D1 := hide d1
      have D3 := hide d3
      have FA := hide far
      have FO := hide fro
      have SW : Hid (G < ((wr.setCell ⟨G, j * 4, none⟩ (.int .i64 kk)).setCell ⟨G, j * 4 + 1, none⟩ (.int .i64 (kk + 1))).heap.size) := show _ < _ by rw [setCell_size, setCell_size]; exact lw
      obtain ⟨qx, _, cx, _, _, ex, _⟩ := px
      obtain ⟨qy, _, cy, _, _, ey, _⟩ := py
      rw [ex] at d2
      have EX := hide ex
      have EY := hide ey
      have EM := hide em
      have IV : Hid (lo ≤ l j ∧ l j ≤ m j ∧ m j ≤ hh j ∧ hh j ≤ hi ∧ (G < l j ∨ hh j ≤ G)) := ⟨i1, i2, i3, i4, i5⟩
      clear et em sz sz2 hf1 d0 d1 d3 far fro ex ey p3 p4 i1 i2 i3 i4 i5
      go_wp2_with fail
      generalize (wr.setCell ⟨G, j * 4, none⟩ (.int .i64 kk)).setCell ⟨G, j * 4 + 1, none⟩ (.int .i64 (kk + 1)) = U at PX PY KW d2 D0 D1 D3 FA FO SW ⊢
      rw [EX.out] at PX
      obtain ⟨k2, e2⟩ : ∃ k2, kk + 1 + 1 = k2 := ⟨_, rfl⟩
      rw [e2]
      have E2 : Hid (k2 = k + offT ts j + 2) := show _ = _ by have := HK.out; omega
      have b2 : 0 ≤ k2 ∧ k2 ≤ 10000000002 := by omega
      clear e2 d2 p1 p2 f1 f2
      refine (markTrmMonoS t.x k2 (l j) (m j) _ _ PX.out XS.out (by omega) (by omega)).mono ?_
      rintro e u ⟨rfl, QX, hk⟩
      have iv := IV.out
      have D0' := (World.cell?_of_block (w := U) (a := ⟨G, j * 4, none⟩) (hk.block G SW.out (by omega))).trans D0.out
      have D1' := (World.cell?_of_block (w := U) (a := ⟨G, j * 4 + 1, none⟩) (hk.block G SW.out (by omega))).trans D1.out
      have d3 := (World.cell?_of_block (w := U) (a := ⟨G, j * 4 + 3, none⟩) (hk.block G SW.out (by omega))).trans D3.out
      have FA' : ∀ o, o ≠ j * 4 → o ≠ j * 4 + 1 → u.cell? ⟨G, o, none⟩ = wr.cell? ⟨G, o, none⟩ := fun o h1 h2 => (World.cell?_of_block (w := U) (a := ⟨G, o, none⟩) (hk.block G SW.out (by omega))).trans (FA.out o h1 h2)
      have FO' : ∀ o, u.frozen? ⟨G, o, none⟩ = wr.frozen? ⟨G, o, none⟩ := fun o => (World.frozen?_of_block (w := U) (a := ⟨G, o, none⟩) (hk.block G SW.out (by omega))).trans (FO.out o)
      have SW' : G < u.heap.size := Nat.lt_of_lt_of_le SW.out hk.size
      have KW' := KW.out.trans (hk.mono (fun b _ h => Or.inr ⟨h.1, by have := h.2; omega⟩))
      have PY' := PY.out.keep hk (fun b h1 h2 h3 => by omega)
      rw [EY.out] at d3 PY'
      replace D0 := hide D0'
      replace D1 := hide D1'
      replace FA := hide FA'
      replace FO := hide FO'
      replace SW := hide SW'
      replace KW := hide KW'
      replace PY := hide PY'
      replace QX := hide QX
      clear D0' D1' FA' FO' SW' KW' PY' PX D3 hk iv
      obtain ⟨k3, e3⟩ : ∃ k3, k2 + offs t.x t.x.length = k3 := ⟨_, rfl⟩
      rw [e3]
      have E3 := hide e3
      have b3 : 0 ≤ k3 ∧ k3 ≤ 20000000000 := by have := XO.out; omega
      clear e3
      go_wp2_with fail
      refine (markTrmMonoS t.y k3 (m j) (hh j) _ _ PY.out YS.out (by omega) (by omega)).mono ?_
      rintro e u' ⟨rfl, QY, hk⟩
      have iv := IV.out
      have D0' := (World.cell?_of_block (w := u) (a := ⟨G, j * 4, none⟩) (hk.block G SW.out (by omega))).trans D0.out
      have D1' := (World.cell?_of_block (w := u) (a := ⟨G, j * 4 + 1, none⟩) (hk.block G SW.out (by omega))).trans D1.out
      have FA' : ∀ o, o ≠ j * 4 → o ≠ j * 4 + 1 → u'.cell? ⟨G, o, none⟩ = wr.cell? ⟨G, o, none⟩ := fun o h1 h2 => (World.cell?_of_block (w := u) (a := ⟨G, o, none⟩) (hk.block G SW.out (by omega))).trans (FA.out o h1 h2)
      have FO' : ∀ o, u'.frozen? ⟨G, o, none⟩ = wr.frozen? ⟨G, o, none⟩ := fun o => (World.frozen?_of_block (w := u) (a := ⟨G, o, none⟩) (hk.block G SW.out (by omega))).trans (FO.out o)
      have KW' := KW.out.trans (hk.mono (fun b _ h => Or.inr ⟨by have := h.1; omega, h.2⟩))
      have QX' := QX.out.keep hk (fun b h1 h2 h3 => by omega)
      rw [← EX.out] at QX'
      rw [← EY.out] at QY
      have NW := WT.mark HP.out EM.out KW' D0' D1' FA' FO' QX' QY
      have eM : (⟨kk, kk + 1, markP t.x k2, markP t.y k3⟩ : At) = markT1 ts k j t := by
        unfold markT1
        rw [← E3.out, E2.out, HK.out]
      rw [eM, MX.out] at NW
      have NW2 := hide NW
      have QK := hide (HB.out.trans (KW'.mono (fun b _ h => by
        rcases h with h | h
        · subst h; exact ⟨GG.out.1, GG.out.2.1⟩
        · omega)))
      obtain ⟨k4, e4⟩ : ∃ k4, k3 + offs t.y t.y.length = k4 := ⟨_, rfl⟩
      have QE : Hid (k4 = k + offT ts (j + 1)) := show _ = _ by have := E3.out; have := E2.out; have := ON.out; omega
      have b4 : 0 ≤ k4 ∧ k4 ≤ 10000000000 := by have := XO.out; have := YO.out; have := LT.out; have := E3.out; have := E2.out; omega
      rw [e4]
      clear D0' D1' FA' FO' KW' QX' QY eM NW hk iv e4 d3 D0 D1 FA FO SW KW PY QX HP HB
      go_wp2
      exact ⟨⟨j + 1, k4, by omega, by go_num, rfl, QE, b4.1, b4.2, NW2, QK⟩, by simp [intOf]; omega⟩
end Go.Proofs.Ytnlfcocejkaieaa.Tab
namespace Go.Proofs.Ytnlfcocejkaieaa.Tab
set_option linter.unusedVariables false
open Go.ChangeShapes Go.WideShapes Go.ChangeAt Go.RowKit IntS Pol
set_option maxRecDepth 8000 in
set_option maxHeartbeats 4000000 in
theorem markTabTab (ts : List At) (k : Int) (lo hi : Nat) (v : Value) (w : World) (h : WTab w lo hi v ts) (hs : ts.length + totT ts ≤ 1000000000) (k0 : 0 ≤ k) (k1 : k ≤ 1000000000) :
    Calls Try.prog 8 #[.agg #[v], .int .i64 k] w fun e w' => e = .returned (.int .i64 (k + offT ts ts.length)) ∧ WTab w' lo hi v (markT ts k) ∧ Keep (fun b => lo ≤ b ∧ b < hi) w w' := by
  have bV : Below w.heap.size w (w.alloc (.cells #[v] 24)) := (Below.refl _ _).alloc (Nat.le_refl _) _
  have H := hide (h.below bV)
  have BW := hide bV
  have HS := hide hs
  obtain ⟨a, G, cap, l, m, hh, sx, sy, rfl, _⟩ := h
  clear bV hs
  go_enter Try.func8, Try.ntmps8
  go_wp2_with fail
  refine (markTabAtomS ts k lo hi _ _ H.out HS.out k0 k1).mono ?_
  rintro e u ⟨rfl, M, K⟩
  have KK := hide ((Keep.of_below BW.out).trans K)
  have MM := hide M
  clear M K H
  go_wp2
  go_ret
  exact ⟨rfl, MM.out, KK.out⟩
set_option maxRecDepth 8000 in
set_option maxHeartbeats 8000000 in
theorem heldTabAtomS (ts : List At) (k : Int) (B : Nat) (v : Value) (w : World) (h : TRow w B v (markT ts k)) (hs : ts.length + totT ts ≤ 1000000000) (k0 : 0 ≤ k) (k1 : k ≤ 1000000000) :
    Calls Try.prog 19 #[v, .int .i64 k] w fun e w' => e = .returned (.int .i64 (k + offT ts ts.length)) ∧ Below w.heap.size w w' := by
  obtain ⟨a, cap, off, rfl, h2, h3, hz, h4⟩ := h
  unfold maxLen at h3
  clear hz
  obtain ⟨n, en⟩ : ∃ n, ts.length = n := ⟨_, rfl⟩
  have EN := hide en
  have HS : Hid (n + totT ts ≤ 1000000000) := show _ ≤ _ by omega
  rw [markT_len, en] at h2 ⊢
  have H4 := hide h4
  obtain ⟨KE, eKE⟩ : ∃ KE, k + offT ts n = KE := ⟨_, rfl⟩
  rw [eKE]
  have EKE := hide eKE
  clear en h4 hs eKE
  go_enter Try.func19, Try.ntmps19
  by_cases n0 : n = 0
  · subst n0
    have OZ : Hid (k = KE) := show _ = _ by rw [← EKE.out]; unfold offT; simp [totT]
    go_wp2
    refine wp_loop_rounds 1 ?_
    rw [rounds_succ]
    go_wp2
    go_ret
    exact ⟨ret_int OZ.out, Below.refl _ _⟩
  · obtain ⟨rfl, hc⟩ := H4.out.resolve_left (fun e => n0 (by have := congrArg List.length e; rw [markT_len, EN.out] at this; exact this))
    have HC := hide hc
    clear hc H4
    go_wp2
    go_loopw [1, 5] (fun q i wr => ∃ (j : Nat) (kk : Int), j ≤ n ∧ i = .int .i64 j ∧ q = .int .i64 kk ∧ Hid (kk = k + offT ts j) ∧ 0 ≤ kk ∧ kk ≤ 10000000000 ∧ Hid (Below w.heap.size w wr)) (fun _ i _ => n - (intOf i).toNat)
    case atStart => exact ⟨0, k, by omega, rfl, rfl, by show _ = _; unfold offT; simp [totT], k0, by omega, Below.refl _ _⟩
    case round =>
      obtain ⟨j, kk, hj, rfl, rfl, HK, kk0, kk1, HB⟩ := hrel
      by_cases hlt : j < n
      case neg =>
        obtain rfl : j = n := by omega
        have HD : Hid (kk = KE) := HK.out.trans EKE.out
        go_wp2
        go_ret
        exact ⟨ret_int HD.out, HB.out⟩
      obtain ⟨t, et⟩ : ∃ t, ts[j]? = some t := ⟨_, List.getElem?_eq_getElem (by rw [EN.out]; exact hlt)⟩
      have AA := (HC.out j _ (markT_at et)).below HB.out
      have sz := totT_at et
      have sz2 := totT_le (ts := ts) j
      have ON := hide (offT_next et)
      have XS : Hid (t.x.length + tot t.x ≤ 1000000000) := show _ ≤ _ by have := HS.out; unfold szA at sz; omega
      have YS : Hid (t.y.length + tot t.y ≤ 1000000000) := show _ ≤ _ by have := HS.out; unfold szA at sz; omega
      have LT : Hid (offT ts j ≤ 3000000000) := show _ ≤ _ by have := HS.out; unfold offT; omega
      have XO : Hid (0 ≤ offs t.x t.x.length ∧ offs t.x t.x.length ≤ 1000000000) := ⟨by rw [offs_full]; omega, by rw [offs_full]; have := XS.out; omega⟩
      have YO : Hid (0 ≤ offs t.y t.y.length ∧ offs t.y t.y.length ≤ 1000000000) := ⟨by rw [offs_full]; omega, by rw [offs_full]; have := YS.out; omega⟩
      obtain ⟨k2, e2⟩ : ∃ k2, kk + 1 + 1 = k2 := ⟨_, rfl⟩
      obtain ⟨k3, e3⟩ : ∃ k3, k2 + offs t.x t.x.length = k3 := ⟨_, rfl⟩
      unfold markT1 AtAt at AA
      simp only [mark_len] at AA
      rw [← HK.out, show kk + 2 = k2 by omega, e3] at AA
      obtain ⟨c0, c1, qx, cx, bx, qy, cy, b, c2, px, c3, py⟩ := AA
      have PX := hide px
      have PY := hide py
      have E3 := hide e3
      have E2 : Hid (k2 = kk + 2) := show _ = _ by omega
      have b2 : 0 ≤ k2 ∧ k2 ≤ 10000000002 := by omega
      have b3 : 0 ≤ k3 ∧ k3 ≤ 20000000000 := by have := XO.out; omega
      have lj : ((j : Nat) : Int) < (n : Nat) := by omega
      have nk : (kk != kk) = false := by simp
      have nk1 : (kk + 1 != kk + 1) = false := by simp
      have C3 := hide c3
      clear et sz sz2 px py e3 c3
      go_wp2_with fail
      clear e2
      refine (heldTrmMonoS t.x k2 bx _ _ PX.out XS.out (by omega) (by omega)).mono ?_
      rintro e u ⟨rfl, hb⟩
      rw [E3.out]
      have HY := hide (PY.out.below hb)
      have c3 := cell_below hb C3.out
      have HB2 := hide (HB.out.trans (hb.mono HB.out.size))
      have q3 : ¬ k3 < 0 := by omega
      clear hb PX PY HB c0 c1 c2
      go_wp2_with fail
      refine (heldTrmMonoS t.y k3 b _ _ HY.out YS.out (by omega) (by omega)).mono ?_
      rintro e u2 ⟨rfl, hb⟩
      have HB3 := hide (HB2.out.trans (hb.mono HB2.out.size))
      obtain ⟨k4, e4⟩ : ∃ k4, k3 + offs t.y t.y.length = k4 := ⟨_, rfl⟩
      have QE : Hid (k4 = k + offT ts (j + 1)) := show _ = _ by have := E3.out; have := E2.out; have := ON.out; have := HK.out; omega
      have b4 : 0 ≤ k4 ∧ k4 ≤ 10000000000 := by have := XO.out; have := YO.out; have := LT.out; have := E3.out; have := E2.out; have := HK.out; omega
      rw [e4]
      have q4 : ¬ k4 < 0 := by omega
      clear e4 hb c3 HY HB2
      go_wp2
      exact ⟨⟨j + 1, k4, by omega, by go_num, rfl, QE, b4.1, b4.2, HB3⟩, by simp [intOf]; omega⟩
theorem heldTabTab (ts : List At) (k : Int) (B : Nat) (v : Value) (w : World) (h : TRow w B v (markT ts k)) (hs : ts.length + totT ts ≤ 1000000000) (k0 : 0 ≤ k) (k1 : k ≤ 1000000000) :
    Calls Try.prog 10 #[.agg #[v], .int .i64 k] w fun e w' => e = .returned (.int .i64 (k + offT ts ts.length)) ∧ Below w.heap.size w w' := by
  have bV : Below w.heap.size w (w.alloc (.cells #[v] 24)) := (Below.refl _ _).alloc (Nat.le_refl _) _
  have H := hide (h.below bV)
  have BW := hide bV
  have HS := hide hs
  have OO : 0 ≤ k + offT ts ts.length := by unfold offT; omega
  obtain ⟨KE, eKE⟩ : ∃ KE, k + offT ts ts.length = KE := ⟨_, rfl⟩
  have EKE := hide eKE
  rw [eKE] at OO ⊢
  have qn : ¬ KE < 0 := by omega
  obtain ⟨a, cap, off, rfl, _⟩ := h
  clear bV hs eKE
  go_enter Try.func10, Try.ntmps10
  go_wp2_with fail
  refine (heldTabAtomS ts k B _ _ H.out HS.out k0 k1).mono ?_
  rintro e u ⟨rfl, hb⟩
  rw [EKE.out]
  replace BW := hide (BW.out.trans (hb.mono BW.out.size))
  clear hb H
  go_wp2
  go_ret
  exact ⟨rfl, BW.out⟩
end Go.Proofs.Ytnlfcocejkaieaa.Tab
