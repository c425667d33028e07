/-
  What is kept: CacFind, of the specification and of the program.
-/
import Derived.Test.YthlpndligadnjaaCaM
import Derived.Test.YthlpndligadnjaaCaRow
namespace Go.Proofs.Ythlpndligadnjaa.Dt
set_option linter.unusedVariables false
set_option linter.unusedSimpArgs false
open Go.ChangeShapes Go.WideShapes Go.ChangeAt Go.RowKit IntS Pol Push Flat Irk
open Ir (Opn Bk bv ORow WORow RBk WBk OpAt SoftAt)
set_option maxRecDepth 8000 in
set_option maxHeartbeats 16000000 in
theorem specCacFind (xs : List (List Int × Int × Int × List Opn × Int × Int × Int × Int)) (pc : Int) (v : Value) (w : World) (h : cacK.rd w v xs) (hs : cacK.sz xs ≤ 1048576) :
    Calls Try.prog 9 #[v, .int .i64 pc] w fun e w' => e = .returned (.int .i64 (idx (fun x : CT => x.2.1 == pc) xs 0)) ∧ Below w.heap.size w w' := by
  have SM : Hid (∀ (i : Nat) x, xs[i]? = some x → cacR.sz x ≤ 1048576) := fun i x hx => by have h1 := sum_one (f := cacR.sz) hx; have h2 : cacK.sz xs = xs.length + sum cacR.sz xs := rfl; omega
  have LN0 : xs.length ≤ 1048576 := by have h2 : cacK.sz xs = xs.length + sum cacR.sz xs := rfl; omega
  obtain ⟨a, cap0, B, off, rfl, h2, h3, hz, h4⟩ := h
  unfold maxLen at h3
  clear hz hs
  obtain ⟨n, en⟩ : ∃ n, xs.length = n := ⟨_, rfl⟩
  have EN := hide en
  rw [en] at h2 LN0
  have H4 := hide h4
  clear h4
  obtain ⟨M, eM⟩ : ∃ M, idx (fun x : CT => x.2.1 == pc) xs 0 = M := ⟨_, rfl⟩
  rw [eM]
  have EM : Hid (idx (fun x : CT => x.2.1 == pc) (xs.drop 0) 0 = M) := eM
  have BW0 : Hid (Below w.heap.size w w) := Below.refl _ _
  clear eM en
  go_enter Try.func9, Try.ntmps9
  go_wp2
  rw [EN.out]
  go_loopw [5] (fun i wr => ∃ k : Nat, k ≤ n ∧ i = .int .i64 k ∧ Hid (idx (fun x : CT => x.2.1 == pc) (xs.drop k) k = M) ∧ Hid (Below w.heap.size w wr)) (fun i _ => n - (intOf i).toNat)
  case atStart => exact ⟨0, by omega, rfl, EM, BW0⟩
  case round =>
    clear EM BW0
    obtain ⟨k, hk, rfl, EM, BW⟩ := hrel
    by_cases hlt : k < n
    case neg =>
      obtain rfl : k = n := by omega
      have e := EM.out
      rw [idx_end (by rw [EN.out]; exact Nat.le_refl _)] at e
      have EZ := hide e
      clear e EM
      go_wp2
      go_ret
      exact ⟨by rw [← EZ.out]; rfl, BW.out⟩
    obtain ⟨x, et⟩ : ∃ x, xs[k]? = some x := ⟨_, List.getElem?_eq_getElem (by rw [EN.out]; exact hlt)⟩
    obtain ⟨rfl, hc⟩ := H4.out.resolve_left (fun e => by rw [e] at et; simp at et)
    obtain ⟨ds, cc, hx⟩ := hc k x et
    have SX := SM.out k x et
    have ET := hide et
    replace cc := cc.below BW.out
    have HX0 := hide hx
    replace hx := cacR.rb hx BW.out
    obtain ⟨x0, a1, a2, x3, a4, a5, a6, a7⟩ := x
    obtain ⟨q0, c0, q3, c3, rfl, k0, k3⟩ := cacR_rd hx
    rw [cacR_sz] at SX
    rw [ints_sz] at SX
    rw [show opsK.sz x3 = x3.length from rfl] at SX
    have S0 : Hid (x0.length ≤ 2097152) := show _ ≤ _ by omega
    have S3 : Hid (x3.length ≤ 2097152) := show _ ≤ _ by omega
    have lk : ((k : Nat) : Int) < (n : Nat) := by omega
    have CC : CellsAt wr B (off + k * 8) [.slice q0 x0.length c0, .int .i64 a1, .int .i64 a2, .slice q3 x3.length c3, .int .i64 a4, .int .i64 a5, .int .i64 a6, .int .i64 a7] := cc
    clear et hc hx SX cc
    have e := EM.out
    rw [idx_step ET.out] at e
    have EZ := hide e
    clear e EM
    have z1 : wr.cell? ⟨B, off + k * 8 + 1, none⟩ = some _ := CC 1 _ rfl
    clear CC k0 S0 k3 S3 HX0 ET
    by_cases hp : a1 = pc
    · subst hp
      have bb : (a1 == a1) = true := by simp
      have e : M = ((k : Nat) : Int) := by rw [← EZ.out]; exact if_pos bb
      have EY := hide e
      clear e EZ
      go_wp2
      go_ret
      exact ⟨by rw [EY.out]; rfl, BW.out⟩
    · have bb : (a1 == pc) = false := by simpa using hp
      have e : idx (fun x : CT => x.2.1 == pc) (xs.drop (k + 1)) (k + 1) = M := by rw [← EZ.out]; exact (if_neg (by rw [show ((a1 == pc) = true) = (false = true) by rw [bb]]; decide)).symm
      have EY := hide e
      clear e EZ
      go_wp2
      exact ⟨⟨k + 1, by omega, by go_num, EY, BW⟩, by simp [intOf]; omega⟩
set_option maxRecDepth 8000 in
set_option maxHeartbeats 16000000 in
theorem indexCac (xs : List (List Int × Int × Int × List Opn × Int × Int × Int × Int)) (p : (List Int × Int × Int × List Opn × Int × Int × Int × Int) → Bool) (b0 : Nat) (v : Value) (w : World) (h : cacK.rd w v xs) (hl : xs.length ≤ 2097152)
    (hp : ∀ (x0 : List Int) (a1 : Int) (a2 : Int) (x3 : List Opn) (a4 : Int) (a5 : Int) (a6 : Int) (a7 : Int) (q0 : Option Addr) (c0 : Nat) (q3 : Option Addr) (c3 : Nat) (u : World), Below w.heap.size w u → cacR.rd u [.slice q0 x0.length c0, .int .i64 a1, .int .i64 a2, .slice q3 x3.length c3, .int .i64 a4, .int .i64 a5, .int .i64 a6, .int .i64 a7] (x0, a1, a2, x3, a4, a5, a6, a7) → Calls Try.prog 43 #[.agg #[.slice q0 x0.length c0, .int .i64 a1, .int .i64 a2, .slice q3 x3.length c3, .int .i64 a4, .int .i64 a5, .int .i64 a6, .int .i64 a7], .pointer (some ⟨b0, 0, none⟩)] u fun e w' => e = .returned (.bool (p (x0, a1, a2, x3, a4, a5, a6, a7))) ∧ Below u.heap.size u w') :
    Calls Try.prog 42 #[v, .func (.func 43) #[] #[.pointer (some ⟨b0, 0, none⟩)]] w fun e w' => e = .returned (.int .i64 (idx p xs 0)) ∧ Below w.heap.size w w' := by
  obtain ⟨a, cap0, B, off, rfl, h2, h3, hz, h4⟩ := h
  unfold maxLen at h3
  clear hz
  obtain ⟨n, en⟩ : ∃ n, xs.length = n := ⟨_, rfl⟩
  have EN := hide en
  rw [en] at h2 hl
  have H4 := hide h4
  have HP := hide hp
  clear h4 hp
  obtain ⟨M, eM⟩ : ∃ M, idx p xs 0 = M := ⟨_, rfl⟩
  rw [eM]
  have EM : Hid (idx p (xs.drop 0) 0 = M) := eM
  have BW0 : Hid (Below w.heap.size w w) := Below.refl _ _
  clear eM en
  go_enter Try.func42, Try.ntmps42
  go_wp2
  rw [EN.out]
  go_loopw [8] (fun i wr => ∃ k : Nat, k ≤ n ∧ i = .int .i64 k ∧ Hid (idx p (xs.drop k) k = M) ∧ Hid (Below w.heap.size w wr)) (fun i _ => n - (intOf i).toNat)
  case atStart => exact ⟨0, by omega, rfl, EM, BW0⟩
  case round =>
    clear EM BW0
    obtain ⟨k, hk, rfl, EM, BW⟩ := hrel
    by_cases hlt : k < n
    case neg =>
      obtain rfl : k = n := by omega
      have e := EM.out
      rw [idx_end (by rw [EN.out]; exact Nat.le_refl _)] at e
      have EZ := hide e
      clear e EM
      go_wp2
      go_ret
      exact ⟨by rw [← EZ.out]; rfl, BW.out⟩
    obtain ⟨x, et⟩ : ∃ x, xs[k]? = some x := ⟨_, List.getElem?_eq_getElem (by rw [EN.out]; exact hlt)⟩
    obtain ⟨rfl, hc⟩ := H4.out.resolve_left (fun e => by rw [e] at et; simp at et)
    obtain ⟨ds, cc, hx⟩ := hc k x et
    replace cc := cc.below BW.out
    replace hx := cacR.rb hx BW.out
    have e := EM.out
    rw [idx_step et] at e
    have EZ := hide e
    obtain ⟨x0, a1, a2, x3, a4, a5, a6, a7⟩ := x
    have HX := hide hx
    obtain ⟨q0, c0, q3, c3, rfl, k0, k3⟩ := cacR_rd hx
    have CC : CellsAt wr B (off + k * 8) [.slice q0 x0.length c0, .int .i64 a1, .int .i64 a2, .slice q3 x3.length c3, .int .i64 a4, .int .i64 a5, .int .i64 a6, .int .i64 a7] := cc
    have z0 : wr.cell? ⟨B, off + k * 8, none⟩ = some _ := CC 0 _ rfl
    have z1 : wr.cell? ⟨B, off + k * 8 + 1, none⟩ = some _ := CC 1 _ rfl
    have z2 : wr.cell? ⟨B, off + k * 8 + 2, none⟩ = some _ := CC 2 _ rfl
    have z3 : wr.cell? ⟨B, off + k * 8 + 3, none⟩ = some _ := CC 3 _ rfl
    have z4 : wr.cell? ⟨B, off + k * 8 + 4, none⟩ = some _ := CC 4 _ rfl
    have z5 : wr.cell? ⟨B, off + k * 8 + 5, none⟩ = some _ := CC 5 _ rfl
    have z6 : wr.cell? ⟨B, off + k * 8 + 6, none⟩ = some _ := CC 6 _ rfl
    have z7 : wr.cell? ⟨B, off + k * 8 + 7, none⟩ = some _ := CC 7 _ rfl
    have lk : ((k : Nat) : Int) < (n : Nat) := by omega
    clear et hc hx cc e EM CC k0 k3
    go_wp2_with fail
    refine (HP.out x0 a1 a2 x3 a4 a5 a6 a7 q0 c0 q3 c3 wr BW.out HX.out).mono ?_
    rintro e u ⟨rfl, hb⟩
    have BW2 := hide (BW.out.trans (hb.mono BW.out.size))
    clear hb HX BW z0 z1 z2 z3 z4 z5 z6 z7
    obtain ⟨r, er⟩ : ∃ r, p (x0, a1, a2, x3, a4, a5, a6, a7) = r := ⟨_, rfl⟩
    rw [er] at EZ ⊢
    clear er
    cases r with
    | true =>
      have e : M = ((k : Nat) : Int) := by rw [← EZ.out]; exact if_pos rfl
      have EY := hide e
      clear e EZ
      go_wp2
      go_ret
      exact ⟨by rw [EY.out]; rfl, BW2.out⟩
    | false =>
      have e : idx p (xs.drop (k + 1)) (k + 1) = M := by rw [← EZ.out]; exact (if_neg (by decide)).symm
      have EY := hide e
      clear e EZ
      go_wp2
      exact ⟨⟨k + 1, by omega, by go_num, EY, BW2⟩, by simp [intOf]; omega⟩
set_option maxRecDepth 8000 in
set_option maxHeartbeats 16000000 in
theorem findClosure (x0 : List Int) (a1 : Int) (a2 : Int) (x3 : List Opn) (a4 : Int) (a5 : Int) (a6 : Int) (a7 : Int) (q0 : Option Addr) (c0 : Nat) (q3 : Option Addr) (c3 : Nat) (b : Nat) (pc : Int) (w : World) (hb : Rec b [.int .i64 pc] w) :
    Calls Try.prog 43 #[.agg #[.slice q0 x0.length c0, .int .i64 a1, .int .i64 a2, .slice q3 x3.length c3, .int .i64 a4, .int .i64 a5, .int .i64 a6, .int .i64 a7], .pointer (some ⟨b, 0, none⟩)] w fun e w' => e = .returned (.bool (a1 == pc)) ∧ Below w.heap.size w w' := by
  have b0 := boxC w (.cells #[.slice q0 x0.length c0, .int .i64 a1, .int .i64 a2, .slice q3 x3.length c3, .int .i64 a4, .int .i64 a5, .int .i64 a6, .int .i64 a7] 41)
  have RB := hide (hb.below b0)
  have BW := hide b0
  have c0 := RB.out.cell 0 _ rfl
  clear hb b0
  go_enter Try.func43, Try.ntmps43
  go_wp2
  go_ret
  exact ⟨rfl, BW.out⟩
set_option maxRecDepth 8000 in
set_option maxHeartbeats 16000000 in
theorem implCacFind (xs : List (List Int × Int × Int × List Opn × Int × Int × Int × Int)) (pc : Int) (v : Value) (w : World) (h : cacK.rd w v xs) (hl : xs.length ≤ 2097152) :
    Calls Try.prog 11 #[v, .int .i64 pc] w fun e w' => e = .returned (.int .i64 (idx (fun x : CT => x.2.1 == pc) xs 0)) ∧ Below w.heap.size w w' := by
  have b0 := boxC w (.cells #[.int .i64 pc] 3)
  have RB := hide (Rec.new w [.int .i64 pc] 3)
  have BW := hide b0
  have H := hide (cacK.rb h b0)
  obtain ⟨a, cap, e, -⟩ := LRd.form h
  subst e
  clear h b0
  go_enter Try.func11, Try.ntmps11
  go_wp2_with fail
  generalize w.alloc (.cells #[.int .i64 pc] 3) = W0 at RB BW H ⊢
  refine (indexCac xs (fun x : CT => x.2.1 == pc) w.heap.size _ _ H.out hl (fun x0 a1 a2 x3 a4 a5 a6 a7 q0 c0 q3 c3 u h1 h2 => findClosure x0 a1 a2 x3 a4 a5 a6 a7 _ _ _ _ _ pc u (RB.out.below h1))).mono ?_
  rintro e u ⟨rfl, hb⟩
  replace BW := hide (BW.out.trans (hb.mono BW.out.size))
  clear hb RB H
  go_wp2
  go_ret
  exact ⟨rfl, BW.out⟩
end Go.Proofs.Ythlpndligadnjaa.Dt
