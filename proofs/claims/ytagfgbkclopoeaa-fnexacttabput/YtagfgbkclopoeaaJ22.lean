/-
  The laws' own markTabTab, markTabAtom, heldTabTab.
  The laws' own markTabAtom.
-/
import Derived.Test.YtagfgbkclopoeaaJ21
namespace Go.Proofs.Ytagfgbkclopoeaa.Tab
set_option linter.unusedVariables false
open Go.ChangeShapes Go.WideShapes Go.ChangeAt Go.RowKit IntS Pol
set_option maxRecDepth 8000 in
set_option maxHeartbeats 4000000 in
theorem markTabTab (ts : List At) (k : Int) (lo hi : Nat) (v : Value) (w : World) (h : WTab w lo hi v ts) (hs : ts.length + totT ts ≤ 1000000000) (k0 : 0 ≤ k) (k1 : k ≤ 1000000000) :
    Calls Try.prog 13 #[.agg #[v], .int .i64 k] w fun e w' => e = .returned (.int .i64 (k + offT ts ts.length)) ∧ WTab w' lo hi v (markT ts k) ∧ Keep (fun b => lo ≤ b ∧ b < hi) w w' := by
  have bV : Below w.heap.size w (w.alloc (.cells #[v] 34)) := (Below.refl _ _).alloc (Nat.le_refl _) _
  have H := hide (h.below bV)
  have BW := hide bV
  have HS := hide hs
  obtain ⟨a, G, cap, l, m, hh, sx, sy, rfl, _⟩ := h
  clear bV hs
  go_enter Try.func13, Try.ntmps13
  go_wp2_with fail
  refine (markTabAtomS ts k lo hi _ _ H.out HS.out k0 k1).mono ?_
  rintro e u ⟨rfl, M, K⟩
  have KK := hide ((Keep.of_below BW.out).trans K)
  have MM := hide M
  clear M K H
  go_wp2
  go_ret
  exact ⟨rfl, MM.out, KK.out⟩
set_option maxRecDepth 8000 in
set_option maxHeartbeats 8000000 in
theorem heldTabAtomS (ts : List At) (k : Int) (B : Nat) (v : Value) (w : World) (h : TRow w B v (markT ts k)) (hs : ts.length + totT ts ≤ 1000000000) (k0 : 0 ≤ k) (k1 : k ≤ 1000000000) :
    Calls Try.prog 38 #[v, .int .i64 k] w fun e w' => e = .returned (.int .i64 (k + offT ts ts.length)) ∧ Below w.heap.size w w' := by
  obtain ⟨a, cap, off, rfl, h2, h3, hz, h4⟩ := h
  unfold maxLen at h3
  clear hz
  obtain ⟨n, en⟩ : ∃ n, ts.length = n := ⟨_, rfl⟩
  have EN := hide en
  have HS : Hid (n + totT ts ≤ 1000000000) := show _ ≤ _ by omega
  rw [markT_len, en] at h2 ⊢
  have H4 := hide h4
  obtain ⟨KE, eKE⟩ : ∃ KE, k + offT ts n = KE := ⟨_, rfl⟩
  rw [eKE]
  have EKE := hide eKE
  clear en h4 hs eKE
  go_enter Try.func38, Try.ntmps38
  by_cases n0 : n = 0
  · subst n0
    have OZ : Hid (k = KE) := show _ = _ by rw [← EKE.out]; unfold offT; simp [totT]
    go_wp2
    refine wp_loop_rounds 1 ?_
    rw [rounds_succ]
    go_wp2
    go_ret
    exact ⟨ret_int OZ.out, Below.refl _ _⟩
  · obtain ⟨rfl, hc⟩ := H4.out.resolve_left (fun e => n0 (by have := congrArg List.length e; rw [markT_len, EN.out] at this; exact this))
    have HC := hide hc
    clear hc H4
    go_wp2
    go_loopw [1, 5] (fun q i wr => ∃ (j : Nat) (kk : Int), j ≤ n ∧ i = .int .i64 j ∧ q = .int .i64 kk ∧ Hid (kk = k + offT ts j) ∧ 0 ≤ kk ∧ kk ≤ 10000000000 ∧ Hid (Below w.heap.size w wr)) (fun _ i _ => n - (intOf i).toNat)
    case atStart => exact ⟨0, k, by omega, rfl, rfl, by show _ = _; unfold offT; simp [totT], k0, by omega, Below.refl _ _⟩
    case round =>
      obtain ⟨j, kk, hj, rfl, rfl, HK, kk0, kk1, HB⟩ := hrel
      by_cases hlt : j < n
      case neg =>
        obtain rfl : j = n := by omega
        have HD : Hid (kk = KE) := HK.out.trans EKE.out
        go_wp2
        go_ret
        exact ⟨ret_int HD.out, HB.out⟩
      obtain ⟨t, et⟩ : ∃ t, ts[j]? = some t := ⟨_, List.getElem?_eq_getElem (by rw [EN.out]; exact hlt)⟩
      have AA := (HC.out j _ (markT_at et)).below HB.out
      have sz := totT_at et
      have sz2 := totT_le (ts := ts) j
      have ON := hide (offT_next et)
      have XS : Hid (t.x.length + tot t.x ≤ 1000000000) := show _ ≤ _ by have := HS.out; unfold szA at sz; omega
      have YS : Hid (t.y.length + tot t.y ≤ 1000000000) := show _ ≤ _ by have := HS.out; unfold szA at sz; omega
      have LT : Hid (offT ts j ≤ 3000000000) := show _ ≤ _ by have := HS.out; unfold offT; omega
      have XO : Hid (0 ≤ offs t.x t.x.length ∧ offs t.x t.x.length ≤ 1000000000) := ⟨by rw [offs_full]; omega, by rw [offs_full]; have := XS.out; omega⟩
      have YO : Hid (0 ≤ offs t.y t.y.length ∧ offs t.y t.y.length ≤ 1000000000) := ⟨by rw [offs_full]; omega, by rw [offs_full]; have := YS.out; omega⟩
      obtain ⟨k2, e2⟩ : ∃ k2, kk + 1 + 1 = k2 := ⟨_, rfl⟩
      obtain ⟨k3, e3⟩ : ∃ k3, k2 + offs t.x t.x.length = k3 := ⟨_, rfl⟩
      unfold markT1 AtAt at AA
      simp only [mark_len] at AA
      rw [← HK.out, show kk + 2 = k2 by omega, e3] at AA
      obtain ⟨c0, c1, qx, cx, bx, qy, cy, b, c2, px, c3, py⟩ := AA
      have PX := hide px
      have PY := hide py
      have E3 := hide e3
      have E2 : Hid (k2 = kk + 2) := show _ = _ by omega
      have b2 : 0 ≤ k2 ∧ k2 ≤ 10000000002 := by omega
      have b3 : 0 ≤ k3 ∧ k3 ≤ 20000000000 := by have := XO.out; omega
      have lj : ((j : Nat) : Int) < (n : Nat) := by omega
      have nk : (kk != kk) = false := by simp
      have nk1 : (kk + 1 != kk + 1) = false := by simp
      have C3 := hide c3
      clear et sz sz2 px py e3 c3
      go_wp2_with fail
      clear e2
      refine (heldTrmMonoS t.x k2 bx _ _ PX.out XS.out (by omega) (by omega)).mono ?_
      rintro e u ⟨rfl, hb⟩
      rw [E3.out]
      have HY := hide (PY.out.below hb)
      have c3 := cell_below hb C3.out
      have HB2 := hide (HB.out.trans (hb.mono HB.out.size))
      have q3 : ¬ k3 < 0 := by omega
      clear hb PX PY HB c0 c1 c2
      go_wp2_with fail
      refine (heldTrmMonoS t.y k3 b _ _ HY.out YS.out (by omega) (by omega)).mono ?_
      rintro e u2 ⟨rfl, hb⟩
      have HB3 := hide (HB2.out.trans (hb.mono HB2.out.size))
      obtain ⟨k4, e4⟩ : ∃ k4, k3 + offs t.y t.y.length = k4 := ⟨_, rfl⟩
      have QE : Hid (k4 = k + offT ts (j + 1)) := show _ = _ by have := E3.out; have := E2.out; have := ON.out; have := HK.out; omega
      have b4 : 0 ≤ k4 ∧ k4 ≤ 10000000000 := by have := XO.out; have := YO.out; have := LT.out; have := E3.out; have := E2.out; have := HK.out; omega
      rw [e4]
      have q4 : ¬ k4 < 0 := by omega
      clear e4 hb c3 HY HB2
      go_wp2
      exact ⟨⟨j + 1, k4, by omega, by go_num, rfl, QE, b4.1, b4.2, HB3⟩, by simp [intOf]; omega⟩
theorem heldTabTab (ts : List At) (k : Int) (B : Nat) (v : Value) (w : World) (h : TRow w B v (markT ts k)) (hs : ts.length + totT ts ≤ 1000000000) (k0 : 0 ≤ k) (k1 : k ≤ 1000000000) :
    Calls Try.prog 15 #[.agg #[v], .int .i64 k] w fun e w' => e = .returned (.int .i64 (k + offT ts ts.length)) ∧ Below w.heap.size w w' := by
  have bV : Below w.heap.size w (w.alloc (.cells #[v] 34)) := (Below.refl _ _).alloc (Nat.le_refl _) _
  have H := hide (h.below bV)
  have BW := hide bV
  have HS := hide hs
  have OO : 0 ≤ k + offT ts ts.length := by unfold offT; omega
  obtain ⟨KE, eKE⟩ : ∃ KE, k + offT ts ts.length = KE := ⟨_, rfl⟩
  have EKE := hide eKE
  rw [eKE] at OO ⊢
  have qn : ¬ KE < 0 := by omega
  obtain ⟨a, cap, off, rfl, _⟩ := h
  clear bV hs eKE
  go_enter Try.func15, Try.ntmps15
  go_wp2_with fail
  refine (heldTabAtomS ts k B _ _ H.out HS.out k0 k1).mono ?_
  rintro e u ⟨rfl, hb⟩
  rw [EKE.out]
  replace BW := hide (BW.out.trans (hb.mono BW.out.size))
  clear hb H
  go_wp2
  go_ret
  exact ⟨rfl, BW.out⟩
end Go.Proofs.Ytagfgbkclopoeaa.Tab
namespace Go.Proofs.Ytagfgbkclopoeaa.Tab
set_option linter.unusedVariables false
open Go.ChangeShapes Go.WideShapes Go.ChangeAt Go.RowKit IntS Pol
set_option maxRecDepth 8000 in
set_option maxHeartbeats 8000000 in
theorem markTabAtom (t : At) (k : Int) (lo mid hi : Nat) (qx : Option Addr) (cx : Nat) (qy : Option Addr) (cy : Nat) (w : World) (hx : WPoly w lo mid (.slice qx t.x.length cx) t.x) (hy : WPoly w mid hi (.slice qy t.y.length cy) t.y) (h1 : lo ≤ mid) (h2 : mid ≤ hi) (hh : hi ≤ w.heap.size) (hs : szA t ≤ 1000000000) (k0 : 0 ≤ k) (k1 : k ≤ 10000000000) :
    Calls Try.prog 14 #[.agg #[.int .i64 t.kd, .int .i64 t.k, .slice qx t.x.length cx, .slice qy t.y.length cy], .int .i64 k] w fun e w' => e = .returned (.int .i64 (k + offs t.x t.x.length + offs t.y t.y.length)) ∧ WPoly w' lo mid (.slice qx t.x.length cx) (markP t.x k) ∧ WPoly w' mid hi (.slice qy t.y.length cy) (markP t.y (k + offs t.x t.x.length)) ∧ Keep (fun b => lo ≤ b ∧ b < hi) w w' := by
  have XS : Hid (t.x.length + tot t.x ≤ 1000000000) := show _ ≤ _ by unfold szA at hs; omega
  have YS : Hid (t.y.length + tot t.y ≤ 1000000000) := show _ ≤ _ by unfold szA at hs; omega
  have XO : 0 ≤ offs t.x t.x.length ∧ offs t.x t.x.length ≤ 1000000000 := ⟨by rw [offs_full]; omega, by rw [offs_full]; have := XS.out; omega⟩
  have bV : Below w.heap.size w (w.alloc (.cells #[.int .i64 t.kd, .int .i64 t.k, .slice qx t.x.length cx, .slice qy t.y.length cy] 42)) := (Below.refl _ _).alloc (Nat.le_refl _) _
  have R := hide (Rec.new w [.int .i64 t.kd, .int .i64 t.k, .slice qx t.x.length cx, .slice qy t.y.length cy] 42)
  have HX := hide (hx.below bV)
  have HY := hide (hy.below bV)
  have KW : Hid (Keep (fun b => lo ≤ b ∧ b < hi) w (w.alloc (.cells #[.int .i64 t.kd, .int .i64 t.k, .slice qx t.x.length cx, .slice qy t.y.length cy] 42))) := Keep.of_below bV
  obtain ⟨k2, e2⟩ : ∃ k2, k + offs t.x t.x.length = k2 := ⟨_, rfl⟩
  rw [e2]
  have E2 := hide e2
  have b2 : 0 ≤ k2 ∧ k2 ≤ 20000000000 := by omega
  clear bV hx hy hs e2 XO
  go_enter Try.func14, Try.ntmps14
  go_wp2_with fail
  generalize w.alloc (.cells #[.int .i64 t.kd, .int .i64 t.k, .slice qx t.x.length cx, .slice qy t.y.length cy] 42) = V at R HX HY KW ⊢
  refine (markTrmPoly t.x k lo mid _ _ HX.out XS.out k0 (by omega)).mono ?_
  rintro e u ⟨rfl, M, hk⟩
  rw [E2.out]
  replace R := hide (R.out.keep hk (by omega))
  replace HY := hide (HY.out.keep hk (fun b h3 h4 h5 => by omega))
  replace KW := hide (KW.out.trans (hk.mono (fun b _ h => ⟨h.1, by have := h.2; omega⟩)))
  have MX := hide M
  clear hk M HX
  have c3 := R.out.cell 3 _ rfl
  go_wp2_with fail
  refine (markTrmPoly t.y k2 mid hi _ _ HY.out YS.out (by omega) (by omega)).mono ?_
  rintro e u2 ⟨rfl, M, hk⟩
  replace MX := hide (MX.out.keep hk (fun b h3 h4 h5 => by omega))
  replace KW := hide (KW.out.trans (hk.mono (fun b _ h => ⟨by have := h.1; omega, h.2⟩)))
  have MY := hide M
  clear hk M HY R c3
  go_wp2
  go_ret
  exact ⟨rfl, MX.out, MY.out, KW.out⟩
end Go.Proofs.Ytagfgbkclopoeaa.Tab
