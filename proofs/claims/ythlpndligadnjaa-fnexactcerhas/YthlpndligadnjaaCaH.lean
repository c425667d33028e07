/-
  Pairs: CerHas, of the specification and of the program.
-/
import Derived.Test.YthlpndligadnjaaCaM
import Derived.Test.YthlpndligadnjaaCaRow
import Derived.Test.YthlpndligadnjaaIsB
namespace Go.Proofs.Ythlpndligadnjaa.Dt
set_option linter.unusedVariables false
set_option linter.unusedSimpArgs false
open Go.ChangeShapes Go.WideShapes Go.ChangeAt Go.RowKit IntS Pol Push Flat Irk
open Ir (Opn Bk bv ORow WORow RBk WBk OpAt SoftAt)
set_option maxRecDepth 8000 in
set_option maxHeartbeats 16000000 in
theorem indexCer (xs : List (Int × Int × List Opn × Int × Int × Int × Int × Int × Int × List Opn × Int × Int × Int × Int)) (p : (Int × Int × List Opn × Int × Int × Int × Int × Int × Int × List Opn × Int × Int × Int × Int) → Bool) (b0 : Nat) (b1 : Nat) (v : Value) (w : World) (h : cerK.rd w v xs) (hl : xs.length ≤ 2097152)
    (hp : ∀ (a0 : Int) (a1 : Int) (x2 : List Opn) (a3 : Int) (a4 : Int) (a5 : Int) (a6 : Int) (a7 : Int) (a8 : Int) (x9 : List Opn) (a10 : Int) (a11 : Int) (a12 : Int) (a13 : Int) (q2 : Option Addr) (c2 : Nat) (q9 : Option Addr) (c9 : Nat) (u : World), Below w.heap.size w u → cerR.rd u [.int .i64 a0, .int .i64 a1, .slice q2 x2.length c2, .int .i64 a3, .int .i64 a4, .int .i64 a5, .int .i64 a6, .int .i64 a7, .int .i64 a8, .slice q9 x9.length c9, .int .i64 a10, .int .i64 a11, .int .i64 a12, .int .i64 a13] (a0, a1, x2, a3, a4, a5, a6, a7, a8, x9, a10, a11, a12, a13) → Calls Try.prog 59 #[.agg #[.int .i64 a0, .int .i64 a1, .slice q2 x2.length c2, .int .i64 a3, .int .i64 a4, .int .i64 a5, .int .i64 a6, .int .i64 a7, .int .i64 a8, .slice q9 x9.length c9, .int .i64 a10, .int .i64 a11, .int .i64 a12, .int .i64 a13], .pointer (some ⟨b0, 0, none⟩), .pointer (some ⟨b1, 0, none⟩)] u fun e w' => e = .returned (.bool (p (a0, a1, x2, a3, a4, a5, a6, a7, a8, x9, a10, a11, a12, a13))) ∧ Below u.heap.size u w') :
    Calls Try.prog 71 #[v, .func (.func 59) #[] #[.pointer (some ⟨b0, 0, none⟩), .pointer (some ⟨b1, 0, none⟩)]] w fun e w' => e = .returned (.int .i64 (idx p xs 0)) ∧ Below w.heap.size w w' := by
  obtain ⟨a, cap0, B, off, rfl, h2, h3, hz, h4⟩ := h
  unfold maxLen at h3
  clear hz
  obtain ⟨n, en⟩ : ∃ n, xs.length = n := ⟨_, rfl⟩
  have EN := hide en
  rw [en] at h2 hl
  have H4 := hide h4
  have HP := hide hp
  clear h4 hp
  obtain ⟨M, eM⟩ : ∃ M, idx p xs 0 = M := ⟨_, rfl⟩
  rw [eM]
  have EM : Hid (idx p (xs.drop 0) 0 = M) := eM
  have BW0 : Hid (Below w.heap.size w w) := Below.refl _ _
  clear eM en
  go_enter Try.func71, Try.ntmps71
  go_wp2
  rw [EN.out]
  go_loopw [8] (fun i wr => ∃ k : Nat, k ≤ n ∧ i = .int .i64 k ∧ Hid (idx p (xs.drop k) k = M) ∧ Hid (Below w.heap.size w wr)) (fun i _ => n - (intOf i).toNat)
  case atStart => exact ⟨0, by omega, rfl, EM, BW0⟩
  case round =>
    clear EM BW0
    obtain ⟨k, hk, rfl, EM, BW⟩ := hrel
    by_cases hlt : k < n
    case neg =>
      obtain rfl : k = n := by omega
      have e := EM.out
      rw [idx_end (by rw [EN.out]; exact Nat.le_refl _)] at e
      have EZ := hide e
      clear e EM
      go_wp2
      go_ret
      exact ⟨by rw [← EZ.out]; rfl, BW.out⟩
    obtain ⟨x, et⟩ : ∃ x, xs[k]? = some x := ⟨_, List.getElem?_eq_getElem (by rw [EN.out]; exact hlt)⟩
    obtain ⟨rfl, hc⟩ := H4.out.resolve_left (fun e => by rw [e] at et; simp at et)
    obtain ⟨ds, cc, hx⟩ := hc k x et
    replace cc := cc.below BW.out
    replace hx := cerR.rb hx BW.out
    have e := EM.out
    rw [idx_step et] at e
    have EZ := hide e
    obtain ⟨a0, a1, x2, a3, a4, a5, a6, a7, a8, x9, a10, a11, a12, a13⟩ := x
    have HX := hide hx
    obtain ⟨q2, c2, q9, c9, rfl, k2, k9⟩ := cerR_rd hx
    have CC : CellsAt wr B (off + k * 14) [.int .i64 a0, .int .i64 a1, .slice q2 x2.length c2, .int .i64 a3, .int .i64 a4, .int .i64 a5, .int .i64 a6, .int .i64 a7, .int .i64 a8, .slice q9 x9.length c9, .int .i64 a10, .int .i64 a11, .int .i64 a12, .int .i64 a13] := cc
    have z0 : wr.cell? ⟨B, off + k * 14, none⟩ = some _ := CC 0 _ rfl
    have z1 : wr.cell? ⟨B, off + k * 14 + 1, none⟩ = some _ := CC 1 _ rfl
    have z2 : wr.cell? ⟨B, off + k * 14 + 2, none⟩ = some _ := CC 2 _ rfl
    have z3 : wr.cell? ⟨B, off + k * 14 + 3, none⟩ = some _ := CC 3 _ rfl
    have z4 : wr.cell? ⟨B, off + k * 14 + 4, none⟩ = some _ := CC 4 _ rfl
    have z5 : wr.cell? ⟨B, off + k * 14 + 5, none⟩ = some _ := CC 5 _ rfl
    have z6 : wr.cell? ⟨B, off + k * 14 + 6, none⟩ = some _ := CC 6 _ rfl
    have z7 : wr.cell? ⟨B, off + k * 14 + 7, none⟩ = some _ := CC 7 _ rfl
    have z8 : wr.cell? ⟨B, off + k * 14 + 8, none⟩ = some _ := CC 8 _ rfl
    have z9 : wr.cell? ⟨B, off + k * 14 + 9, none⟩ = some _ := CC 9 _ rfl
    have z10 : wr.cell? ⟨B, off + k * 14 + 10, none⟩ = some _ := CC 10 _ rfl
    have z11 : wr.cell? ⟨B, off + k * 14 + 11, none⟩ = some _ := CC 11 _ rfl
    have z12 : wr.cell? ⟨B, off + k * 14 + 12, none⟩ = some _ := CC 12 _ rfl
    have z13 : wr.cell? ⟨B, off + k * 14 + 13, none⟩ = some _ := CC 13 _ rfl
    have lk : ((k : Nat) : Int) < (n : Nat) := by omega
    clear et hc hx cc e EM CC k2 k9
    go_wp2_with fail
    refine (HP.out a0 a1 x2 a3 a4 a5 a6 a7 a8 x9 a10 a11 a12 a13 q2 c2 q9 c9 wr BW.out HX.out).mono ?_
    rintro e u ⟨rfl, hb⟩
    have BW2 := hide (BW.out.trans (hb.mono BW.out.size))
    clear hb HX BW z0 z1 z2 z3 z4 z5 z6 z7 z8 z9 z10 z11 z12 z13
    obtain ⟨r, er⟩ : ∃ r, p (a0, a1, x2, a3, a4, a5, a6, a7, a8, x9, a10, a11, a12, a13) = r := ⟨_, rfl⟩
    rw [er] at EZ ⊢
    clear er
    cases r with
    | true =>
      have e : M = ((k : Nat) : Int) := by rw [← EZ.out]; exact if_pos rfl
      have EY := hide e
      clear e EZ
      go_wp2
      go_ret
      exact ⟨by rw [EY.out]; rfl, BW2.out⟩
    | false =>
      have e : idx p (xs.drop (k + 1)) (k + 1) = M := by rw [← EZ.out]; exact (if_neg (by decide)).symm
      have EY := hide e
      clear e EZ
      go_wp2
      exact ⟨⟨k + 1, by omega, by go_num, EY, BW2⟩, by simp [intOf]; omega⟩
theorem cerR_k2 {w : World} {v2 v9 : Value} {a0 a1 : Int} {x2 : List Opn} {a3 a4 a5 a6 a7 a8 : Int} {x9 : List Opn} {a10 a11 a12 a13 : Int} (h : cerR.rd w [.int .i64 a0, .int .i64 a1, v2, .int .i64 a3, .int .i64 a4, .int .i64 a5, .int .i64 a6, .int .i64 a7, .int .i64 a8, v9, .int .i64 a10, .int .i64 a11, .int .i64 a12, .int .i64 a13] (a0, a1, x2, a3, a4, a5, a6, a7, a8, x9, a10, a11, a12, a13)) : opsK.rd w v2 x2 := by
  obtain ⟨q0, c0, q3, c3, e, k0, k3⟩ := cerR_rd h
  cases e
  exact k0
theorem cerR_k9 {w : World} {v2 v9 : Value} {a0 a1 : Int} {x2 : List Opn} {a3 a4 a5 a6 a7 a8 : Int} {x9 : List Opn} {a10 a11 a12 a13 : Int} (h : cerR.rd w [.int .i64 a0, .int .i64 a1, v2, .int .i64 a3, .int .i64 a4, .int .i64 a5, .int .i64 a6, .int .i64 a7, .int .i64 a8, v9, .int .i64 a10, .int .i64 a11, .int .i64 a12, .int .i64 a13] (a0, a1, x2, a3, a4, a5, a6, a7, a8, x9, a10, a11, a12, a13)) : opsK.rd w v9 x9 := by
  obtain ⟨q0, c0, q3, c3, e, k0, k3⟩ := cerR_rd h
  cases e
  exact k3
set_option maxRecDepth 8000 in
set_option maxHeartbeats 16000000 in
theorem containsCer (xs : List (Int × Int × List Opn × Int × Int × Int × Int × Int × Int × List Opn × Int × Int × Int × Int)) (p : (Int × Int × List Opn × Int × Int × Int × Int × Int × Int × List Opn × Int × Int × Int × Int) → Bool) (kb km : Nat) (v : Value) (w : World) (h : cerK.rd w v xs) (hl : xs.length ≤ 2097152)
    (hp : ∀ (a0 : Int) (a1 : Int) (x2 : List Opn) (a3 : Int) (a4 : Int) (a5 : Int) (a6 : Int) (a7 : Int) (a8 : Int) (x9 : List Opn) (a10 : Int) (a11 : Int) (a12 : Int) (a13 : Int) (q2 : Option Addr) (c2 : Nat) (q9 : Option Addr) (c9 : Nat) (u : World), Below w.heap.size w u → cerR.rd u [.int .i64 a0, .int .i64 a1, .slice q2 x2.length c2, .int .i64 a3, .int .i64 a4, .int .i64 a5, .int .i64 a6, .int .i64 a7, .int .i64 a8, .slice q9 x9.length c9, .int .i64 a10, .int .i64 a11, .int .i64 a12, .int .i64 a13] (a0, a1, x2, a3, a4, a5, a6, a7, a8, x9, a10, a11, a12, a13) → Calls Try.prog 59 #[.agg #[.int .i64 a0, .int .i64 a1, .slice q2 x2.length c2, .int .i64 a3, .int .i64 a4, .int .i64 a5, .int .i64 a6, .int .i64 a7, .int .i64 a8, .slice q9 x9.length c9, .int .i64 a10, .int .i64 a11, .int .i64 a12, .int .i64 a13], .pointer (some ⟨kb, 0, none⟩), .pointer (some ⟨km, 0, none⟩)] u fun e w' => e = .returned (.bool (p (a0, a1, x2, a3, a4, a5, a6, a7, a8, x9, a10, a11, a12, a13))) ∧ Below u.heap.size u w') :
    Calls Try.prog 58 #[v, .func (.func 59) #[] #[.pointer (some ⟨kb, 0, none⟩), .pointer (some ⟨km, 0, none⟩)]] w fun e w' => e = .returned (.bool (xs.any p)) ∧ Below w.heap.size w w' := by
  obtain ⟨a, cap, e, -⟩ := LRd.form h
  subst e
  have H := hide h
  have HP := hide hp
  have EP := hide (idx_any (p := p) xs 0)
  clear h hp
  go_enter Try.func58, Try.ntmps58
  go_wp2_with fail
  refine (indexCer xs p kb km _ _ H.out hl HP.out).mono ?_
  rintro e u ⟨rfl, hb⟩
  have BW := hide hb
  clear hb HP H
  obtain ⟨r, er⟩ : ∃ r, idx p xs 0 = r := ⟨_, rfl⟩
  rw [er] at EP ⊢
  clear er
  go_wp2
  go_ret
  exact ⟨by rw [← EP.out]; rfl, BW.out⟩
theorem blk_rb {w : World} {q : Option Addr} {c : Nat} {a0 a1 : Int} {x2 : List Opn} {a3 a4 a5 a6 : Int} (h : opsK.rd w (.slice q x2.length c) x2) : RBk w [.int .i64 a0, .int .i64 a1, .slice q x2.length c, .int .i64 a3, .int .i64 a4, .int .i64 a5, .int .i64 a6] ⟨a0, a1, x2, a3, a4, a5, a6⟩ := blk_mk h
/-- Whether a pair is that of two pieces of code. -/
def pairP (b m : Bk) : PT → Bool := fun p => Ir.sameBk ⟨p.1, p.2.1, p.2.2.1, p.2.2.2.1, p.2.2.2.2.1, p.2.2.2.2.2.1, p.2.2.2.2.2.2.1⟩ b && Ir.sameBk ⟨p.2.2.2.2.2.2.2.1, p.2.2.2.2.2.2.2.2.1, p.2.2.2.2.2.2.2.2.2.1, p.2.2.2.2.2.2.2.2.2.2.1, p.2.2.2.2.2.2.2.2.2.2.2.1, p.2.2.2.2.2.2.2.2.2.2.2.2.1, p.2.2.2.2.2.2.2.2.2.2.2.2.2⟩ m
set_option maxRecDepth 8000 in
set_option maxHeartbeats 16000000 in
theorem hasClosure (a0 : Int) (a1 : Int) (x2 : List Opn) (a3 : Int) (a4 : Int) (a5 : Int) (a6 : Int) (a7 : Int) (a8 : Int) (x9 : List Opn) (a10 : Int) (a11 : Int) (a12 : Int) (a13 : Int) (q2 : Option Addr) (c2 : Nat) (q9 : Option Addr) (c9 : Nat) (b0 b1 : Int) (y2 : List Opn) (b3 b4 b5 b6 : Int) (m0 m1 : Int) (o2 : List Opn) (m3 m4 m5 m6 : Int) (qb : Option Addr) (cb : Nat) (qm : Option Addr) (cm : Nat) (kb km : Nat) (w : World) (hb : Rec kb [.int .i64 b0, .int .i64 b1, .slice qb y2.length cb, .int .i64 b3, .int .i64 b4, .int .i64 b5, .int .i64 b6] w) (hm : Rec km [.int .i64 m0, .int .i64 m1, .slice qm o2.length cm, .int .i64 m3, .int .i64 m4, .int .i64 m5, .int .i64 m6] w) (hy : opsK.rd w (.slice qb y2.length cb) y2) (hz : opsK.rd w (.slice qm o2.length cm) o2) (k2 : opsK.rd w (.slice q2 x2.length c2) x2) (k9 : opsK.rd w (.slice q9 x9.length c9) x9) :
    Calls Try.prog 59 #[.agg #[.int .i64 a0, .int .i64 a1, .slice q2 x2.length c2, .int .i64 a3, .int .i64 a4, .int .i64 a5, .int .i64 a6, .int .i64 a7, .int .i64 a8, .slice q9 x9.length c9, .int .i64 a10, .int .i64 a11, .int .i64 a12, .int .i64 a13], .pointer (some ⟨kb, 0, none⟩), .pointer (some ⟨km, 0, none⟩)] w fun e w' => e = .returned (.bool ((pairP (⟨b0, b1, y2, b3, b4, b5, b6⟩ : Bk) (⟨m0, m1, o2, m3, m4, m5, m6⟩ : Bk)) (a0, a1, x2, a3, a4, a5, a6, a7, a8, x9, a10, a11, a12, a13))) ∧ Below w.heap.size w w' := by
  have bo0 := boxC w (.cells #[.int .i64 a0, .int .i64 a1, .slice q2 x2.length c2, .int .i64 a3, .int .i64 a4, .int .i64 a5, .int .i64 a6, .int .i64 a7, .int .i64 a8, .slice q9 x9.length c9, .int .i64 a10, .int .i64 a11, .int .i64 a12, .int .i64 a13] 66)
  have RB := hide (hb.below bo0)
  have RM := hide (hm.below bo0)
  have RX := hide (Rec.new w [.int .i64 a0, .int .i64 a1, .slice q2 x2.length c2, .int .i64 a3, .int .i64 a4, .int .i64 a5, .int .i64 a6, .int .i64 a7, .int .i64 a8, .slice q9 x9.length c9, .int .i64 a10, .int .i64 a11, .int .i64 a12, .int .i64 a13] 66)
  have BW := hide bo0
  have HY := hide (opsK.rb hy bo0)
  have HZ := hide (opsK.rb hz bo0)
  have H2 := hide (opsK.rb k2 bo0)
  have H9 := hide (opsK.rb k9 bo0)
  obtain ⟨r1, e1⟩ : ∃ r, Ir.sameBk (⟨a0, a1, x2, a3, a4, a5, a6⟩ : Bk) (⟨b0, b1, y2, b3, b4, b5, b6⟩ : Bk) = r := ⟨_, rfl⟩
  obtain ⟨r2, e2⟩ : ∃ r, Ir.sameBk (⟨a7, a8, x9, a10, a11, a12, a13⟩ : Bk) (⟨m0, m1, o2, m3, m4, m5, m6⟩ : Bk) = r := ⟨_, rfl⟩
  have EP : (pairP (⟨b0, b1, y2, b3, b4, b5, b6⟩ : Bk) (⟨m0, m1, o2, m3, m4, m5, m6⟩ : Bk)) (a0, a1, x2, a3, a4, a5, a6, a7, a8, x9, a10, a11, a12, a13) = (r1 && r2) := by rw [← e1, ← e2]; rfl
  rw [EP]
  have E1 := hide e1
  have E2 := hide e2
  clear hb hm hy hz k2 k9 bo0 e1 e2 EP
  have u0 := RB.out.cell 0 _ rfl
  have v0 := RM.out.cell 0 _ rfl
  have u1 := RB.out.cell 1 _ rfl
  have v1 := RM.out.cell 1 _ rfl
  have u2 := RB.out.cell 2 _ rfl
  have v2 := RM.out.cell 2 _ rfl
  have u3 := RB.out.cell 3 _ rfl
  have v3 := RM.out.cell 3 _ rfl
  have u4 := RB.out.cell 4 _ rfl
  have v4 := RM.out.cell 4 _ rfl
  have u5 := RB.out.cell 5 _ rfl
  have v5 := RM.out.cell 5 _ rfl
  have u6 := RB.out.cell 6 _ rfl
  have v6 := RM.out.cell 6 _ rfl
  have z0 := RX.out.cell 0 _ rfl
  have z1 := RX.out.cell 1 _ rfl
  have z2 := RX.out.cell 2 _ rfl
  have z3 := RX.out.cell 3 _ rfl
  have z4 := RX.out.cell 4 _ rfl
  have z5 := RX.out.cell 5 _ rfl
  have z6 := RX.out.cell 6 _ rfl
  have z7 := RX.out.cell 7 _ rfl
  have z8 := RX.out.cell 8 _ rfl
  have z9 := RX.out.cell 9 _ rfl
  have z10 := RX.out.cell 10 _ rfl
  have z11 := RX.out.cell 11 _ rfl
  have z12 := RX.out.cell 12 _ rfl
  have z13 := RX.out.cell 13 _ rfl
  go_enter Try.func59, Try.ntmps59
  go_wp2_with fail
  clear u0 v0 u1 v1 u2 v2 u3 v3 u4 v4 u5 v5 u6 v6 z0 z1 z2 z3 z4 z5 z6 z7 z8 z9 z10 z11 z12 z13
  generalize (w.alloc (.cells #[.int .i64 a0, .int .i64 a1, .slice q2 x2.length c2, .int .i64 a3, .int .i64 a4, .int .i64 a5, .int .i64 a6, .int .i64 a7, .int .i64 a8, .slice q9 x9.length c9, .int .i64 a10, .int .i64 a11, .int .i64 a12, .int .i64 a13] 66)) = W0 at RB RM RX BW HY HZ H2 H9 ⊢
  refine (Ir.implIrSame (⟨a0, a1, x2, a3, a4, a5, a6⟩ : Bk) (⟨b0, b1, y2, b3, b4, b5, b6⟩ : Bk) [.int .i64 a0, .int .i64 a1, .slice q2 x2.length c2, .int .i64 a3, .int .i64 a4, .int .i64 a5, .int .i64 a6] [.int .i64 b0, .int .i64 b1, .slice qb y2.length cb, .int .i64 b3, .int .i64 b4, .int .i64 b5, .int .i64 b6] _ (blk_rb H2.out) (blk_rb HY.out)).mono ?_
  rintro e u ⟨rfl, hb⟩
  rw [E1.out]
  replace RB := hide (RB.out.below hb)
  replace RM := hide (RM.out.below hb)
  replace RX := hide (RX.out.below hb)
  replace HZ := hide (opsK.rb HZ.out hb)
  replace H9 := hide (opsK.rb H9.out hb)
  replace BW := hide (BW.out.trans (hb.mono BW.out.size))
  clear hb H2 HY E1
  cases r1 with
  | false =>
    clear RB RM RX HZ H9 E2
    go_wp2
    go_ret
    exact ⟨rfl, BW.out⟩
  | true =>
    have u0 := RB.out.cell 0 _ rfl
    have v0 := RM.out.cell 0 _ rfl
    have u1 := RB.out.cell 1 _ rfl
    have v1 := RM.out.cell 1 _ rfl
    have u2 := RB.out.cell 2 _ rfl
    have v2 := RM.out.cell 2 _ rfl
    have u3 := RB.out.cell 3 _ rfl
    have v3 := RM.out.cell 3 _ rfl
    have u4 := RB.out.cell 4 _ rfl
    have v4 := RM.out.cell 4 _ rfl
    have u5 := RB.out.cell 5 _ rfl
    have v5 := RM.out.cell 5 _ rfl
    have u6 := RB.out.cell 6 _ rfl
    have v6 := RM.out.cell 6 _ rfl
    have z0 := RX.out.cell 0 _ rfl
    have z1 := RX.out.cell 1 _ rfl
    have z2 := RX.out.cell 2 _ rfl
    have z3 := RX.out.cell 3 _ rfl
    have z4 := RX.out.cell 4 _ rfl
    have z5 := RX.out.cell 5 _ rfl
    have z6 := RX.out.cell 6 _ rfl
    have z7 := RX.out.cell 7 _ rfl
    have z8 := RX.out.cell 8 _ rfl
    have z9 := RX.out.cell 9 _ rfl
    have z10 := RX.out.cell 10 _ rfl
    have z11 := RX.out.cell 11 _ rfl
    have z12 := RX.out.cell 12 _ rfl
    have z13 := RX.out.cell 13 _ rfl
    go_wp2_with fail
    refine (Ir.implIrSame (⟨a7, a8, x9, a10, a11, a12, a13⟩ : Bk) (⟨m0, m1, o2, m3, m4, m5, m6⟩ : Bk) [.int .i64 a7, .int .i64 a8, .slice q9 x9.length c9, .int .i64 a10, .int .i64 a11, .int .i64 a12, .int .i64 a13] [.int .i64 m0, .int .i64 m1, .slice qm o2.length cm, .int .i64 m3, .int .i64 m4, .int .i64 m5, .int .i64 m6] _ (blk_rb H9.out) (blk_rb HZ.out)).mono ?_
    rintro e u ⟨rfl, hb⟩
    rw [E2.out]
    replace BW := hide (BW.out.trans (hb.mono BW.out.size))
    clear u0 v0 u1 v1 u2 v2 u3 v3 u4 v4 u5 v5 u6 v6 z0 z1 z2 z3 z4 z5 z6 z7 z8 z9 z10 z11 z12 z13
    clear hb RB RM RX HZ H9 E2
    go_wp2
    go_ret
    exact ⟨rfl, BW.out⟩
set_option maxRecDepth 8000 in
set_option maxHeartbeats 16000000 in
theorem implCerHas (xs : List (Int × Int × List Opn × Int × Int × Int × Int × Int × Int × List Opn × Int × Int × Int × Int)) (b0 b1 : Int) (y2 : List Opn) (b3 b4 b5 b6 : Int) (m0 m1 : Int) (o2 : List Opn) (m3 m4 m5 m6 : Int) (qb : Option Addr) (cb : Nat) (qm : Option Addr) (cm : Nat) (v : Value) (w : World) (h : cerK.rd w v xs) (hl : xs.length ≤ 2097152) (hy : opsK.rd w (.slice qb y2.length cb) y2) (hz : opsK.rd w (.slice qm o2.length cm) o2) :
    Calls Try.prog 31 #[v, .agg #[.int .i64 b0, .int .i64 b1, .slice qb y2.length cb, .int .i64 b3, .int .i64 b4, .int .i64 b5, .int .i64 b6], .agg #[.int .i64 m0, .int .i64 m1, .slice qm o2.length cm, .int .i64 m3, .int .i64 m4, .int .i64 m5, .int .i64 m6]] w fun e w' => e = .returned (.bool (xs.any (pairP (⟨b0, b1, y2, b3, b4, b5, b6⟩ : Bk) (⟨m0, m1, o2, m3, m4, m5, m6⟩ : Bk)))) ∧ Below w.heap.size w w' := by
  have bo0 : Below w.heap.size w ((w.alloc (.cells #[.int .i64 b0, .int .i64 b1, .slice qb y2.length cb, .int .i64 b3, .int .i64 b4, .int .i64 b5, .int .i64 b6] 39)).alloc (.cells #[.int .i64 m0, .int .i64 m1, .slice qm o2.length cm, .int .i64 m3, .int .i64 m4, .int .i64 m5, .int .i64 m6] 39)) := (boxC _ _).alloc (by simp) _
  have RB := hide ((Rec.new w [.int .i64 b0, .int .i64 b1, .slice qb y2.length cb, .int .i64 b3, .int .i64 b4, .int .i64 b5, .int .i64 b6] 39).alloc (.cells #[.int .i64 m0, .int .i64 m1, .slice qm o2.length cm, .int .i64 m3, .int .i64 m4, .int .i64 m5, .int .i64 m6] 39))
  have RM0 := Rec.new (w.alloc (.cells #[.int .i64 b0, .int .i64 b1, .slice qb y2.length cb, .int .i64 b3, .int .i64 b4, .int .i64 b5, .int .i64 b6] 39)) [.int .i64 m0, .int .i64 m1, .slice qm o2.length cm, .int .i64 m3, .int .i64 m4, .int .i64 m5, .int .i64 m6] 39
  rw [show (w.alloc (.cells #[.int .i64 b0, .int .i64 b1, .slice qb y2.length cb, .int .i64 b3, .int .i64 b4, .int .i64 b5, .int .i64 b6] 39)).heap.size = w.heap.size + 1 by simp] at RM0
  have RM := hide RM0
  have BW := hide bo0
  have H := hide (cerK.rb h bo0)
  have HY := hide (opsK.rb hy bo0)
  have HZ := hide (opsK.rb hz bo0)
  obtain ⟨a, cap, e, -⟩ := LRd.form h
  subst e
  clear h hy hz bo0 RM0
  go_enter Try.func31, Try.ntmps31
  go_wp2_with fail
  generalize ((w.alloc (.cells #[.int .i64 b0, .int .i64 b1, .slice qb y2.length cb, .int .i64 b3, .int .i64 b4, .int .i64 b5, .int .i64 b6] 39)).alloc (.cells #[.int .i64 m0, .int .i64 m1, .slice qm o2.length cm, .int .i64 m3, .int .i64 m4, .int .i64 m5, .int .i64 m6] 39)) = W0 at RB RM BW H HY HZ ⊢
  refine (containsCer xs (pairP (⟨b0, b1, y2, b3, b4, b5, b6⟩ : Bk) (⟨m0, m1, o2, m3, m4, m5, m6⟩ : Bk)) w.heap.size (w.heap.size + 1) _ _ H.out hl (fun a0 a1 x2 a3 a4 a5 a6 a7 a8 x9 a10 a11 a12 a13 q2 c2 q9 c9 u h1 h2 => hasClosure a0 a1 x2 a3 a4 a5 a6 a7 a8 x9 a10 a11 a12 a13 _ _ _ _ b0 b1 y2 b3 b4 b5 b6 m0 m1 o2 m3 m4 m5 m6 qb cb qm cm _ _ u (RB.out.below h1) (RM.out.below h1) (opsK.rb HY.out h1) (opsK.rb HZ.out h1) (cerR_k2 h2) (cerR_k9 h2))).mono ?_
  rintro e u ⟨rfl, hb⟩
  replace BW := hide (BW.out.trans (hb.mono BW.out.size))
  clear hb RB RM H HY HZ
  go_wp2
  go_ret
  exact ⟨rfl, BW.out⟩
end Go.Proofs.Ythlpndligadnjaa.Dt
