/-
  The specification's MchRun.
-/
import Derived.Test.YtnhpmbhphbphaaaGreatJnN
import Derived.StillTailTactics
namespace Go.Proofs.YtnhpmbhphbphaaaGreat.Mch
open Go.ChangeShapes Go.WideShapes Go.ChangeAt Go.RowKit IntS
theorem WMach.forms {w : World} {lo : Nat} {c : List Value} {m : M} (h : WMach w lo c m) : ∃ q1 q2 q3 q4 n1 n2 n3 n4 k1 k2 k3 k4, c = mv m (.slice q1 n1 k1) (.slice q2 n2 k2) (.slice q3 n3 k3) (.slice q4 n4 k4) := by
  obtain ⟨r, e, i, o, b1, b2, b3, b4, hc, h1, h2, h3, h4, _⟩ := h
  obtain ⟨q1, k1, _, rfl, _⟩ := h1
  obtain ⟨q2, k2, _, rfl, _⟩ := h2
  obtain ⟨q3, k3, _, rfl, _⟩ := h3
  obtain ⟨q4, k4, _, rfl, _⟩ := h4
  exact ⟨q1, q2, q3, q4, _, _, _, _, k1, k2, k3, k4, hc⟩
/-- A machine whose lists may grow by a run. -/
def Near (m : M) : Prop := m.regs.length ≤ 1999000 ∧ m.mem.length ≤ 1999000 ∧ m.ins.length ≤ 1999000 ∧ m.outs.length ≤ 1999000
theorem Near.mid {m : M} (h : Near m) : Mid m := ⟨Nat.le_trans h.1 (by omega), Nat.le_trans h.2.1 (by omega), Nat.le_trans h.2.2.1 (by omega), Nat.le_trans h.2.2.2 (by omega)⟩
theorem Small.near {m : M} (h : Small m) : Near m := ⟨Nat.le_trans h.1 (by omega), Nat.le_trans h.2.1 (by omega), Nat.le_trans h.2.2.1 (by omega), Nat.le_trans h.2.2.2 (by omega)⟩
theorem run_no {m : M} {irqs : List Int} {n : Int} (h : ¬ (okM m = true ∧ n ≤ 400)) : runOf m irqs n = emptyM := if_neg h
theorem run_yes {m : M} {irqs : List Int} {n : Int} (h1 : okM m = true) (h2 : n ≤ 400) : runOf m irqs n = runM irqs n.toNat m := if_pos ⟨h1, h2⟩
theorem run_zero {irqs : List Int} {n : Nat} {m : M} (h : n = 0) : runM irqs n m = m := by rw [h]; rfl
theorem run_stop {irqs : List Int} {n : Nat} {m : M} (h : ¬ (m.halt = 0 ∧ m.count < 1000000)) : runM irqs n m = m := by
  cases n with
  | zero => rfl
  | succ n => unfold runM; rw [if_neg h]
theorem run_go {irqs : List Int} {n : Nat} {m : M} (h : 0 < n) (h2 : m.halt = 0 ∧ m.count < 1000000) : runM irqs n m = runM irqs (n - 1) (stepM m (hasB irqs m.count)) := by
  obtain ⟨k, rfl⟩ : ∃ k, n = k + 1 := ⟨n - 1, by omega⟩
  rw [runM, if_pos h2]
  rfl
/-- Where a run is, of a machine that lies in block Z. -/
structure RunS (w : World) (lo Z Rb : Nat) (irqs : List Int) (N : Nat) (R : M) (k : Nat) (wr : World) : Prop where
  ex : ∃ m q1 q2 q3 q4 n1 n2 n3 n4 k1 k2 k3 k4, okM m = true ∧ runM irqs (N - k) m = R ∧ m.outs.length ≤ 1999000 + k ∧ m.ins.length ≤ 1999000 ∧ Box Z 25 (mv m (.slice q1 n1 k1) (.slice q2 n2 k2) (.slice q3 n3 k3) (.slice q4 n4 k4)) wr ∧ AMach wr lo (mv m (.slice q1 n1 k1) (.slice q2 n2 k2) (.slice q3 n3 k3) (.slice q4 n4 k4)) m ∧ Box Rb 25 [.slice none 0 0, .int .i64 0, .slice none 0 0, .int .i64 0, .bool false, .bool false, .int .i64 0, .slice none 0 0, .slice none 0 0, .int .i64 0] wr ∧ Below w.heap.size w wr
theorem RunS.next {w : World} {lo Z Rb : Nat} {irqs : List Int} {N k : Nat} {R m : M} {wr u1 u9 : World} {q1 q2 q3 q4 : Option Addr} {n1 n2 n3 n4 k1 k2 k3 k4 : Nat} (ok : okM m = true) (hr : runM irqs (N - k) m = R) (ho : m.outs.length ≤ 1999000 + k) (hi : m.ins.length ≤ 1999000) (hk : k < N) (hg : m.halt = 0 ∧ m.count < 1000000)
    (hB : Box Z 25 (mv (stepM m (hasB irqs m.count)) (.slice q1 n1 k1) (.slice q2 n2 k2) (.slice q3 n3 k3) (.slice q4 n4 k4)) u9) (hW : AMach u1 wr.heap.size (mv (stepM m (hasB irqs m.count)) (.slice q1 n1 k1) (.slice q2 n2 k2) (.slice q3 n3 k3) (.slice q4 n4 k4)) (stepM m (hasB irqs m.count))) (hT : Turn Z u1 u9) (hZ : Z < wr.heap.size) (hZ2 : Rb ≠ Z) (hlo : lo ≤ wr.heap.size) (hwZ : w.heap.size ≤ Z)
    (hR : Box Rb 25 [.slice none 0 0, .int .i64 0, .slice none 0 0, .int .i64 0, .bool false, .bool false, .int .i64 0, .slice none 0 0, .slice none 0 0, .int .i64 0] u1) (hb : Below w.heap.size w u1) : RunS w lo Z Rb irqs N R (k + 1) u9 := by
  obtain ⟨o, a, b⟩ := led_step ok (hasB irqs m.count)
  refine ⟨_, _, _, _, _, _, _, _, _, _, _, _, _, o.back, ?_, by omega, by omega, hB, (hW.away hT hZ).low hlo, hR.turn hT hZ2, hb.trans (hT.below hwZ hb.size)⟩
  rw [← hr, run_go (n := N - k) (by omega) hg]
  rfl
set_option maxRecDepth 8000 in
set_option maxHeartbeats 8000000 in
theorem specRunA (m : M) (irqs : List Int) (n : Int) (c : List Value) (v : Value) (B : Nat) (w : World) (h : RMach w c m) (hr : Row w B v irqs) (hs : Near m) :
    Calls Tryz.prog 24 #[.agg c.toArray, v, .int .i64 n] w fun e w' => ∃ c', e = .returned (.agg c'.toArray) ∧ AMach w' w.heap.size c' (runOf m irqs n) ∧ Below w.heap.size w w' := by
  obtain ⟨r, e, i, o, b1, b2, b3, b4, rfl, h1, h2, h3, h4⟩ := h
  obtain ⟨regs, pc, mem, save, lets, waits, halt, ins, outs, count⟩ := m
  have RM : RMach w (mv ⟨regs, pc, mem, save, lets, waits, halt, ins, outs, count⟩ r e i o) ⟨regs, pc, mem, save, lets, waits, halt, ins, outs, count⟩ := ⟨r, e, i, o, b1, b2, b3, b4, rfl, h1, h2, h3, h4⟩
  have RR := hide hr
  obtain ⟨ar, jr, _, rfl, _⟩ := hr
  obtain ⟨a1, j1, _, rfl, _⟩ := h1
  obtain ⟨a2, j2, _, rfl, _⟩ := h2
  obtain ⟨a3, j3, _, rfl, _⟩ := h3
  obtain ⟨a4, j4, _, rfl, _⟩ := h4
  simp only [mv] at *
  have bV : Below w.heap.size w ((w.alloc (.cells #[.slice a1 regs.length j1, .int .i64 pc, .slice a2 mem.length j2, .int .i64 save, .bool lets, .bool waits, .int .i64 halt, .slice a3 ins.length j3, .slice a4 outs.length j4, .int .i64 count] 25)).alloc (.cells #[.slice none 0 0, .int .i64 0, .slice none 0 0, .int .i64 0, .bool false, .bool false, .int .i64 0, .slice none 0 0, .slice none 0 0, .int .i64 0] 25)) := ((Below.refl _ _).alloc (Nat.le_refl _) _).alloc (by simp) _
  have N := hide ((Box.new w [.slice a1 regs.length j1, .int .i64 pc, .slice a2 mem.length j2, .int .i64 save, .bool lets, .bool waits, .int .i64 halt, .slice a3 ins.length j3, .slice a4 outs.length j4, .int .i64 count] 25).alloc (.cells #[.slice none 0 0, .int .i64 0, .slice none 0 0, .int .i64 0, .bool false, .bool false, .int .i64 0, .slice none 0 0, .slice none 0 0, .int .i64 0] 25))
  have R0 := Box.new (w.alloc (.cells #[.slice a1 regs.length j1, .int .i64 pc, .slice a2 mem.length j2, .int .i64 save, .bool lets, .bool waits, .int .i64 halt, .slice a3 ins.length j3, .slice a4 outs.length j4, .int .i64 count] 25)) [.slice none 0 0, .int .i64 0, .slice none 0 0, .int .i64 0, .bool false, .bool false, .int .i64 0, .slice none 0 0, .slice none 0 0, .int .i64 0] 25
  rw [show (w.alloc (.cells #[.slice a1 regs.length j1, .int .i64 pc, .slice a2 mem.length j2, .int .i64 save, .bool lets, .bool waits, .int .i64 halt, .slice a3 ins.length j3, .slice a4 outs.length j4, .int .i64 count] 25)).heap.size = w.heap.size + 1 by simp] at R0
  have R := hide R0
  replace RM := hide (RM.below bV)
  have BW := hide bV
  have HS := hide hs
  have kk : w.heap.size ≤ w.heap.size + 1 := by omega
  clear bV R0 hs
  go_enter Tryz.func24, Tryz.ntmps24
  go_wp2_with fail
  generalize ((w.alloc (.cells #[.slice a1 regs.length j1, .int .i64 pc, .slice a2 mem.length j2, .int .i64 save, .bool lets, .bool waits, .int .i64 halt, .slice a3 ins.length j3, .slice a4 outs.length j4, .int .i64 count] 25)).alloc (.cells #[.slice none 0 0, .int .i64 0, .slice none 0 0, .int .i64 0, .bool false, .bool false, .int .i64 0, .slice none 0 0, .slice none 0 0, .int .i64 0] 25)) = V at N R RM BW ⊢
  have n0 := N.out.r.cell 0 _ rfl
  have n1 := N.out.r.cell 1 _ rfl
  have n2 := N.out.r.cell 2 _ rfl
  have n3 := N.out.r.cell 3 _ rfl
  have n4 := N.out.r.cell 4 _ rfl
  have n5 := N.out.r.cell 5 _ rfl
  have n6 := N.out.r.cell 6 _ rfl
  have n7 := N.out.r.cell 7 _ rfl
  have n8 := N.out.r.cell 8 _ rfl
  have n9 := N.out.r.cell 9 _ rfl
  go_wp2_with fail
  refine (mchOk _ _ _ RM.out).mono ?_
  rintro e u1 ⟨rfl, hb⟩
  replace N := hide (N.out.below hb)
  replace R := hide (R.out.below hb)
  replace RM := hide (RM.out.below hb)
  replace BW := hide (BW.out.trans (hb.mono BW.out.size))
  clear hb
  clear n0 n1 n2 n3 n4 n5 n6 n7 n8 n9
  cases ok : okM ⟨regs, pc, mem, save, lets, waits, halt, ins, outs, count⟩ with
  | false =>
    have HM := hide (run_no (irqs := irqs) (n := n) (fun h => by rw [ok] at h; exact absurd h.1 (by decide)))
    clear ok
    clear RM N
    go_wp2_with (refine wpList_lay rfl rfl _ _ rfl (w.heap.size + 1) _ _ _ _ _ _ _ _ _ _ R.out rfl _ _ _ _ _ _ _ _ _ _ _ _ _ _ _ _ _ _ rfl ?_; intro u9 RB TB)
    have FI := hide (empty_am u9 w.heap.size)
    have BT := hide (BW.out.trans (TB.out.below kk BW.out.size))
    have z0 := RB.out.r.cell 0 _ rfl
    have z1 := RB.out.r.cell 1 _ rfl
    have z2 := RB.out.r.cell 2 _ rfl
    have z3 := RB.out.r.cell 3 _ rfl
    have z4 := RB.out.r.cell 4 _ rfl
    have z5 := RB.out.r.cell 5 _ rfl
    have z6 := RB.out.r.cell 6 _ rfl
    have z7 := RB.out.r.cell 7 _ rfl
    have z8 := RB.out.r.cell 8 _ rfl
    have z9 := RB.out.r.cell 9 _ rfl
    clear RB TB
    exact bodyPost_ret (v := .agg #[.slice none 0 0, .int .i64 0, .slice none 0 0, .int .i64 0, .bool false, .bool false, .int .i64 0, .slice none 0 0, .slice none 0 0, .int .i64 0]) (by simp [results, Tryz.results24, go_sem, z0, z1, z2, z3, z4, z5, z6, z7, z8, z9]) rfl ⟨_, rfl, by rw [HM.out]; exact FI.out, BT.out⟩
  | true =>
    by_cases hn : 400 < n
    · have HM := hide (run_no (m := ⟨regs, pc, mem, save, lets, waits, halt, ins, outs, count⟩) (irqs := irqs) (n := n) (fun h => by omega))
      clear ok
      clear RM N
      go_wp2_with (refine wpList_lay rfl rfl _ _ rfl (w.heap.size + 1) _ _ _ _ _ _ _ _ _ _ R.out rfl _ _ _ _ _ _ _ _ _ _ _ _ _ _ _ _ _ _ rfl ?_; intro u9 RB TB)
      have FI := hide (empty_am u9 w.heap.size)
      have BT := hide (BW.out.trans (TB.out.below kk BW.out.size))
      have z0 := RB.out.r.cell 0 _ rfl
      have z1 := RB.out.r.cell 1 _ rfl
      have z2 := RB.out.r.cell 2 _ rfl
      have z3 := RB.out.r.cell 3 _ rfl
      have z4 := RB.out.r.cell 4 _ rfl
      have z5 := RB.out.r.cell 5 _ rfl
      have z6 := RB.out.r.cell 6 _ rfl
      have z7 := RB.out.r.cell 7 _ rfl
      have z8 := RB.out.r.cell 8 _ rfl
      have z9 := RB.out.r.cell 9 _ rfl
      clear RB TB
      exact bodyPost_ret (v := .agg #[.slice none 0 0, .int .i64 0, .slice none 0 0, .int .i64 0, .bool false, .bool false, .int .i64 0, .slice none 0 0, .slice none 0 0, .int .i64 0]) (by simp [results, Tryz.results24, go_sem, z0, z1, z2, z3, z4, z5, z6, z7, z8, z9]) rfl ⟨_, rfl, by rw [HM.out]; exact FI.out, BT.out⟩
    have hn' : ¬ (400 : Int) < n := hn
    have HM := hide (run_yes (irqs := irqs) ok (Int.not_lt.1 hn))
    have OK := hide ok
    clear ok
    have lR : Hid (w.heap.size + 1 < u1.heap.size) := R.out.r.lt
    have n0 := N.out.r.cell 0 _ rfl
    have n1 := N.out.r.cell 1 _ rfl
    have n2 := N.out.r.cell 2 _ rfl
    have n3 := N.out.r.cell 3 _ rfl
    have n4 := N.out.r.cell 4 _ rfl
    have n5 := N.out.r.cell 5 _ rfl
    have n6 := N.out.r.cell 6 _ rfl
    have n7 := N.out.r.cell 7 _ rfl
    have n8 := N.out.r.cell 8 _ rfl
    have n9 := N.out.r.cell 9 _ rfl
    go_wp2_with fail
    refine (l3Copy _ _ _ RM.out HS.out.mid).mono ?_
    rintro e u2 ⟨c2, rfl, C, hb⟩
    have l1 : Hid (w.heap.size ≤ u1.heap.size) := BW.out.size
    replace R := hide (R.out.below hb)
    replace BW := hide (BW.out.trans (hb.mono BW.out.size))
    have l2 : Hid (u1.heap.size ≤ u2.heap.size) := hb.size
    clear hb RM N
    clear n0 n1 n2 n3 n4 n5 n6 n7 n8 n9
    obtain ⟨f1, g1, h1, f2, g2, h2, f3, g3, h3, f4, h4, rfl⟩ := forms C
    simp only [mv] at C ⊢
    have bX : Below u2.heap.size u2 (u2.alloc (.cells #[.slice (some ⟨f1, g1, none⟩) regs.length h1, .int .i64 pc, .slice (some ⟨f2, g2, none⟩) mem.length h2, .int .i64 save, .bool lets, .bool waits, .int .i64 halt, .slice (some ⟨f3, g3, none⟩) ins.length h3, .slice (some ⟨f4, 0, none⟩) outs.length h4, .int .i64 count] 25)) := (Below.refl _ _).alloc (Nat.le_refl _) _
    replace C := hide (C.below bX)
    have X := hide (Box.new u2 [.slice (some ⟨f1, g1, none⟩) regs.length h1, .int .i64 pc, .slice (some ⟨f2, g2, none⟩) mem.length h2, .int .i64 save, .bool lets, .bool waits, .int .i64 halt, .slice (some ⟨f3, g3, none⟩) ins.length h3, .slice (some ⟨f4, 0, none⟩) outs.length h4, .int .i64 count] 25)
    have S2 : Hid ((u2.alloc (.cells #[.slice (some ⟨f1, g1, none⟩) regs.length h1, .int .i64 pc, .slice (some ⟨f2, g2, none⟩) mem.length h2, .int .i64 save, .bool lets, .bool waits, .int .i64 halt, .slice (some ⟨f3, g3, none⟩) ins.length h3, .slice (some ⟨f4, 0, none⟩) outs.length h4, .int .i64 count] 25)).heap.size = u2.heap.size + 1) := show _ = _ by simp
    replace R := hide (R.out.below bX)
    replace BW := hide (BW.out.trans (bX.mono BW.out.size))
    clear bX
    obtain ⟨RS, eR⟩ : ∃ RS, runM irqs n.toNat ⟨regs, pc, mem, save, lets, waits, halt, ins, outs, count⟩ = RS := ⟨_, rfl⟩
    have ER := hide eR
    replace HM := hide (HM.out.trans eR)
    obtain ⟨NN, eN⟩ : ∃ NN, n.toNat = NN := ⟨_, rfl⟩
    have EN := hide eN
    rw [eN] at ER
    clear eR eN hn
    have N0 : Hid (RunS w (w.heap.size + 2) u2.heap.size (w.heap.size + 1) irqs NN RS 0 (u2.alloc (.cells #[.slice (some ⟨f1, g1, none⟩) regs.length h1, .int .i64 pc, .slice (some ⟨f2, g2, none⟩) mem.length h2, .int .i64 save, .bool lets, .bool waits, .int .i64 halt, .slice (some ⟨f3, g3, none⟩) ins.length h3, .slice (some ⟨f4, 0, none⟩) outs.length h4, .int .i64 count] 25))) :=
      ⟨_, _, _, _, _, _, _, _, _, _, _, _, _, OK.out, ER.out, Nat.le_trans HS.out.2.2.2 (by omega), HS.out.2.2.1, X.out, Or.inl (C.out.low (lo' := w.heap.size + 2) (by have := lR.out; omega)), R.out, BW.out⟩
    clear C X R BW
    have LZ : Hid (w.heap.size + 1 < u2.heap.size) := Nat.lt_of_lt_of_le lR.out l2.out
    go_wp2_with fail
    generalize (u2.alloc (.cells #[.slice (some ⟨f1, g1, none⟩) regs.length h1, .int .i64 pc, .slice (some ⟨f2, g2, none⟩) mem.length h2, .int .i64 save, .bool lets, .bool waits, .int .i64 halt, .slice (some ⟨f3, g3, none⟩) ins.length h3, .slice (some ⟨f4, 0, none⟩) outs.length h4, .int .i64 count] 25)) = V2 at S2 N0 ⊢
    go_loopw [8] (fun i wr => ∃ k : Nat, k ≤ NN ∧ i = .int .i64 k ∧ Hid (RunS w (w.heap.size + 2) u2.heap.size (w.heap.size + 1) irqs NN RS k wr)) (fun i _ => NN - (intOf i).toNat)
    case atStart => exact ⟨0, Nat.zero_le _, rfl, N0⟩
    case round =>
      obtain ⟨k, hk, rfl, HX⟩ := hrel
      clear N0
      obtain ⟨m', q1, q2, q3, q4, n1, n2, n3, n4, k1, k2, k3, k4, ok', hr', ho', hi', hB', hW', hR', hb'⟩ := HX.out
      clear HX
      obtain ⟨regs', pc', mem', save', lets', waits', halt', ins', outs', count'⟩ := m'
      simp only [mv] at hB' hW' ho' hi'
      have XB := hide hB'
      have WX := hide hW'
      have RX := hide hR'
      have BX := hide hb'
      have OX := hide ok'
      have EX := hide hr'
      have OO := hide ho'
      have II := hide hi'
      clear hB' hW' hR' hb' ok' hr' ho' hi'
      by_cases hlt : (k : Int) < n
      case neg =>
        have HE : Hid (⟨regs', pc', mem', save', lets', waits', halt', ins', outs', count'⟩ = RS) := EX.out.symm.trans (run_zero (by have := EN.out; omega)) |>.symm
        have x0 := XB.out.r.cell 0 _ rfl
        have x1 := XB.out.r.cell 1 _ rfl
        have x2 := XB.out.r.cell 2 _ rfl
        have x3 := XB.out.r.cell 3 _ rfl
        have x4 := XB.out.r.cell 4 _ rfl
        have x5 := XB.out.r.cell 5 _ rfl
        have x6 := XB.out.r.cell 6 _ rfl
        have x7 := XB.out.r.cell 7 _ rfl
        have x8 := XB.out.r.cell 8 _ rfl
        have x9 := XB.out.r.cell 9 _ rfl
        go_wp2_with (refine wpList_lay rfl rfl _ _ rfl (w.heap.size + 1) _ _ _ _ _ _ _ _ _ _ RX.out rfl _ _ _ _ _ _ _ _ _ _ _ _ _ _ _ _ _ _ rfl ?_; intro u9 RB TB)
        have FI := hide ((WX.out.away TB.out (by omega)).low (lo' := w.heap.size) (by omega))
        have BT := hide (BX.out.trans (TB.out.below kk BX.out.size))
        clear x0 x1 x2 x3 x4 x5 x6 x7 x8 x9
        have z0 := RB.out.r.cell 0 _ rfl
        have z1 := RB.out.r.cell 1 _ rfl
        have z2 := RB.out.r.cell 2 _ rfl
        have z3 := RB.out.r.cell 3 _ rfl
        have z4 := RB.out.r.cell 4 _ rfl
        have z5 := RB.out.r.cell 5 _ rfl
        have z6 := RB.out.r.cell 6 _ rfl
        have z7 := RB.out.r.cell 7 _ rfl
        have z8 := RB.out.r.cell 8 _ rfl
        have z9 := RB.out.r.cell 9 _ rfl
        clear RB TB
        exact bodyPost_ret (v := .agg #[.slice q1 n1 k1, .int .i64 pc', .slice q2 n2 k2, .int .i64 save', .bool lets', .bool waits', .int .i64 halt', .slice q3 n3 k3, .slice q4 n4 k4, .int .i64 count']) (by simp [results, Tryz.results24, go_sem, z0, z1, z2, z3, z4, z5, z6, z7, z8, z9]) rfl ⟨_, rfl, by rw [HM.out, ← HE.out]; exact FI.out, BT.out⟩
      by_cases hh : halt' = 0
      case neg =>
        have HE : Hid (⟨regs', pc', mem', save', lets', waits', halt', ins', outs', count'⟩ = RS) := (EX.out.symm.trans (run_stop (fun h => hh h.1))).symm
        have hh' : (halt' == 0) = false := by simp [hh]
        have x0 := XB.out.r.cell 0 _ rfl
        have x1 := XB.out.r.cell 1 _ rfl
        have x2 := XB.out.r.cell 2 _ rfl
        have x3 := XB.out.r.cell 3 _ rfl
        have x4 := XB.out.r.cell 4 _ rfl
        have x5 := XB.out.r.cell 5 _ rfl
        have x6 := XB.out.r.cell 6 _ rfl
        have x7 := XB.out.r.cell 7 _ rfl
        have x8 := XB.out.r.cell 8 _ rfl
        have x9 := XB.out.r.cell 9 _ rfl
        go_wp2_with (refine wpList_lay rfl rfl _ _ rfl (w.heap.size + 1) _ _ _ _ _ _ _ _ _ _ RX.out rfl _ _ _ _ _ _ _ _ _ _ _ _ _ _ _ _ _ _ rfl ?_; intro u9 RB TB)
        have FI := hide ((WX.out.away TB.out (by omega)).low (lo' := w.heap.size) (by omega))
        have BT := hide (BX.out.trans (TB.out.below kk BX.out.size))
        clear x0 x1 x2 x3 x4 x5 x6 x7 x8 x9
        have z0 := RB.out.r.cell 0 _ rfl
        have z1 := RB.out.r.cell 1 _ rfl
        have z2 := RB.out.r.cell 2 _ rfl
        have z3 := RB.out.r.cell 3 _ rfl
        have z4 := RB.out.r.cell 4 _ rfl
        have z5 := RB.out.r.cell 5 _ rfl
        have z6 := RB.out.r.cell 6 _ rfl
        have z7 := RB.out.r.cell 7 _ rfl
        have z8 := RB.out.r.cell 8 _ rfl
        have z9 := RB.out.r.cell 9 _ rfl
        clear RB TB
        exact bodyPost_ret (v := .agg #[.slice q1 n1 k1, .int .i64 pc', .slice q2 n2 k2, .int .i64 save', .bool lets', .bool waits', .int .i64 halt', .slice q3 n3 k3, .slice q4 n4 k4, .int .i64 count']) (by simp [results, Tryz.results24, go_sem, z0, z1, z2, z3, z4, z5, z6, z7, z8, z9]) rfl ⟨_, rfl, by rw [HM.out, ← HE.out]; exact FI.out, BT.out⟩
      by_cases hc : count' < 1000000
      case neg =>
        have HE : Hid (⟨regs', pc', mem', save', lets', waits', halt', ins', outs', count'⟩ = RS) := (EX.out.symm.trans (run_stop (fun h => hc h.2))).symm
        have hh' : (halt' == 0) = true := by simp [hh]
        clear hh
        have x0 := XB.out.r.cell 0 _ rfl
        have x1 := XB.out.r.cell 1 _ rfl
        have x2 := XB.out.r.cell 2 _ rfl
        have x3 := XB.out.r.cell 3 _ rfl
        have x4 := XB.out.r.cell 4 _ rfl
        have x5 := XB.out.r.cell 5 _ rfl
        have x6 := XB.out.r.cell 6 _ rfl
        have x7 := XB.out.r.cell 7 _ rfl
        have x8 := XB.out.r.cell 8 _ rfl
        have x9 := XB.out.r.cell 9 _ rfl
        go_wp2_with (refine wpList_lay rfl rfl _ _ rfl (w.heap.size + 1) _ _ _ _ _ _ _ _ _ _ RX.out rfl _ _ _ _ _ _ _ _ _ _ _ _ _ _ _ _ _ _ rfl ?_; intro u9 RB TB)
        have FI := hide ((WX.out.away TB.out (by omega)).low (lo' := w.heap.size) (by omega))
        have BT := hide (BX.out.trans (TB.out.below kk BX.out.size))
        clear x0 x1 x2 x3 x4 x5 x6 x7 x8 x9
        have z0 := RB.out.r.cell 0 _ rfl
        have z1 := RB.out.r.cell 1 _ rfl
        have z2 := RB.out.r.cell 2 _ rfl
        have z3 := RB.out.r.cell 3 _ rfl
        have z4 := RB.out.r.cell 4 _ rfl
        have z5 := RB.out.r.cell 5 _ rfl
        have z6 := RB.out.r.cell 6 _ rfl
        have z7 := RB.out.r.cell 7 _ rfl
        have z8 := RB.out.r.cell 8 _ rfl
        have z9 := RB.out.r.cell 9 _ rfl
        clear RB TB
        exact bodyPost_ret (v := .agg #[.slice q1 n1 k1, .int .i64 pc', .slice q2 n2 k2, .int .i64 save', .bool lets', .bool waits', .int .i64 halt', .slice q3 n3 k3, .slice q4 n4 k4, .int .i64 count']) (by simp [results, Tryz.results24, go_sem, z0, z1, z2, z3, z4, z5, z6, z7, z8, z9]) rfl ⟨_, rfl, by rw [HM.out, ← HE.out]; exact FI.out, BT.out⟩
      have hh' : (halt' == 0) = true := by simp [hh]
      have GO : Hid (halt' = 0 ∧ count' < 1000000) := ⟨hh, hc⟩
      have KN : Hid (k < NN) := show _ < _ by have := EN.out; omega
      clear hh
      have x0 := XB.out.r.cell 0 _ rfl
      have x1 := XB.out.r.cell 1 _ rfl
      have x2 := XB.out.r.cell 2 _ rfl
      have x3 := XB.out.r.cell 3 _ rfl
      have x4 := XB.out.r.cell 4 _ rfl
      have x5 := XB.out.r.cell 5 _ rfl
      have x6 := XB.out.r.cell 6 _ rfl
      have x7 := XB.out.r.cell 7 _ rfl
      have x8 := XB.out.r.cell 8 _ rfl
      have x9 := XB.out.r.cell 9 _ rfl
      have RI := hide (RR.out.below (BX.out.drew))
      go_wp2_with fail
      refine region_tail 5 (by kernel_rfl) (by kernel_rfl) ?_
      simp only [List.take_succ_cons, List.take_zero, List.drop_succ_cons, List.drop_zero]
      repeat still_step
      still_call (l3Has irqs count' B _ _ RI.out)
      repeat still_step
      refine wpStill_nil ?_
      go_wp2_with fail
      have DR : Below wr.heap.size wr wr.drew := (Below.refl _ _).drew
      refine (specStepA ⟨regs', pc', mem', save', lets', waits', halt', ins', outs', count'⟩ (hasB irqs count') _ _ (WX.out.below DR).write.read ⟨by have := (okM_of OX.out).regs; show regs'.length ≤ _; have e : regs'.length = 4 := this; omega, by have := (okM_of OX.out).mem; show mem'.length ≤ _; have e : mem'.length = 64 := this; omega, by have := II.out; show ins'.length ≤ _; omega, by have := OO.out; have := KN.out; have := EN.out; show outs'.length ≤ _; omega⟩).mono ?_
      rintro e u5 ⟨c5, rfl, W5, hb⟩
      obtain ⟨m5, e5⟩ : ∃ m5, stepM ⟨regs', pc', mem', save', lets', waits', halt', ins', outs', count'⟩ (hasB irqs count') = m5 := ⟨_, rfl⟩
      have E5 := hide e5
      rw [e5] at W5
      clear e5
      obtain ⟨p1, p2, p3, p4, s1, s2, s3, s4, t1, t2, t3, t4, rfl⟩ := W5.write.forms
      obtain ⟨regs5, pc5, mem5, save5, lets5, waits5, halt5, ins5, outs5, count5⟩ := m5
      simp only [mv] at W5 ⊢
      have hb2 := DR.trans hb
      have XU := hide (XB.out.below hb2)
      have RU := hide (RX.out.below hb2)
      have BU := hide (BX.out.trans (hb2.mono BX.out.size))
      have LX : Hid (u2.heap.size < wr.heap.size) := XB.out.r.lt
      have SW : Hid (w.heap.size + 2 ≤ wr.heap.size) := show _ ≤ _ by have := RX.out.r.lt; omega
      replace W5 := hide W5
      clear x0 x1 x2 x3 x4 x5 x6 x7 x8 x9
      clear DR hb hb2 XB RX BX WX RI
      go_wp2_with (refine wpList_lay rfl rfl _ _ rfl u2.heap.size _ _ _ _ _ _ _ _ _ _ XU.out rfl _ _ _ _ _ _ _ _ _ _ _ _ _ _ _ _ _ _ rfl ?_; intro u9 RB TB)
      have NX : Hid (RunS w (w.heap.size + 2) u2.heap.size (w.heap.size + 1) irqs NN RS (k + 1) u9) := RunS.next (wr := wr) (u1 := u5) OX.out EX.out OO.out II.out KN.out GO.out (by simp only []; rw [E5.out]; exact RB.out) (by simp only []; rw [E5.out]; exact W5.out) TB.out LX.out (by have := LZ.out; omega) SW.out (by have := LZ.out; omega) RU.out BU.out
      exact ⟨⟨k + 1, KN.out, by go_num, NX⟩, by simp [intOf]; have := KN.out; omega⟩
theorem specRun (m : M) (irqs : List Int) (n : Int) (c : List Value) (v : Value) (B : Nat) (w : World) (h : RMach w c m) (hr : Row w B v irqs) (hs : Near m) :
    Calls Tryz.prog 24 #[.agg c.toArray, v, .int .i64 n] w fun e w' => ∃ c', e = .returned (.agg c'.toArray) ∧ WMach w' w.heap.size c' (runOf m irqs n) ∧ Below w.heap.size w w' :=
  (specRunA m irqs n c v B w h hr hs).mono fun _ _ ⟨c', h1, h2, h3⟩ => ⟨c', h1, h2.write, h3⟩
end Go.Proofs.YtnhpmbhphbphaaaGreat.Mch
