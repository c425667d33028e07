/-
  The program's MchRun.
-/
import Derived.Test.YtnhpmbhphbphaaaGreatMchLL
import Derived.Test.YtnhpmbhphbphaaaGreatMchII
namespace Go.Proofs.YtnhpmbhphbphaaaGreat.Mch
open Go.ChangeShapes Go.WideShapes Go.ChangeAt Go.RowKit IntS
/-- Where the program's run is: its machine lies behind a pointer. -/
structure RunP (A : Nat → Prop) (w : World) (Z Rb D lo hi : Nat) (irqs : List Int) (N : Nat) (R : M) (k : Nat) (wr : World) : Prop where
  ex : ∃ m, okM m = true ∧ runM irqs (N - k) m = R ∧ m.outs.length ≤ 1999000 + k ∧ m.ins.length ≤ 1999000 ∧ PM A wr Z m ∧ Deeds wr lo hi D ∧ Box Rb 25 [.slice none 0 0, .int .i64 0, .slice none 0 0, .int .i64 0, .bool false, .bool false, .int .i64 0, .slice none 0 0, .slice none 0 0, .int .i64 0] wr ∧ Below w.heap.size w wr ∧ hi ≤ wr.heap.size
theorem RunP.next {A : Nat → Prop} {w : World} {Z Rb D lo hi : Nat} {irqs : List Int} {N k : Nat} {R m : M} {wr u9 : World} (ok : okM m = true) (hr : runM irqs (N - k) m = R) (ho : m.outs.length ≤ 1999000 + k) (hi2 : m.ins.length ≤ 1999000) (hk : k < N) (hg : m.halt = 0 ∧ m.count < 1000000)
    (hP : PM A u9 Z (stepM m (hasB irqs m.count))) (hK : Keep (Grip A Z) wr u9) (hD : Deeds wr lo hi D) (hno : ∀ j, lo ≤ j → j < hi → ¬ A j) (hZ : ¬ (lo ≤ Z ∧ Z < hi)) (hA : ∀ j, A j → w.heap.size ≤ j) (hwZ : w.heap.size ≤ Z) (hRb : ¬ Grip A Z Rb)
    (hR : Box Rb 25 [.slice none 0 0, .int .i64 0, .slice none 0 0, .int .i64 0, .bool false, .bool false, .int .i64 0, .slice none 0 0, .slice none 0 0, .int .i64 0] wr) (hb : Below w.heap.size w wr) (hh : hi ≤ wr.heap.size) : RunP A w Z Rb D lo hi irqs N R (k + 1) u9 := by
  obtain ⟨o, a, b⟩ := led_step ok (hasB irqs m.count)
  refine ⟨_, o.back, ?_, by omega, by omega, hP, hD.keep hK (fun j h1 h2 hg => hg.elim (fun e => hZ ⟨by omega, by omega⟩) (fun ha => hno j h1 h2 ha)), hR.keep hK hRb, hb.trans (hK.below hb.size (fun j hj hg => hg.elim (fun e => by omega) (fun ha => by have := hA j ha; omega))), Nat.le_trans hh hK.size⟩
  rw [← hr, run_go (n := N - k) (by omega) hg]
  rfl
end Go.Proofs.YtnhpmbhphbphaaaGreat.Mch
namespace Go.Proofs.YtnhpmbhphbphaaaGreat.MchI
open Go.ChangeShapes Go.WideShapes Go.ChangeAt Go.RowKit IntS Mch
set_option maxRecDepth 8000 in
set_option maxHeartbeats 8000000 in
theorem mchRun (m : M) (irqs : List Int) (n : Int) (c : List Value) (v : Value) (B : Nat) (w : World) (h : RMach w c m) (hr : Row w B v irqs) (hs : Near m) :
    Calls Tryz.prog 23 #[.agg c.toArray, v, .int .i64 n] w fun e w' => ∃ c', e = .returned (.agg c'.toArray) ∧ WMach w' w.heap.size c' (runOf m irqs n) ∧ Below w.heap.size w w' := by
  obtain ⟨r, e, i, o, b1, b2, b3, b4, rfl, h1, h2, h3, h4⟩ := h
  obtain ⟨regs, pc, mem, save, lets, waits, halt, ins, outs, count⟩ := m
  have RM : RMach w (mv ⟨regs, pc, mem, save, lets, waits, halt, ins, outs, count⟩ r e i o) ⟨regs, pc, mem, save, lets, waits, halt, ins, outs, count⟩ := ⟨r, e, i, o, b1, b2, b3, b4, rfl, h1, h2, h3, h4⟩
  have RR := hide hr
  obtain ⟨ar, jr, _, rfl, _⟩ := hr
  obtain ⟨a1, j1, _, rfl, _⟩ := h1
  obtain ⟨a2, j2, _, rfl, _⟩ := h2
  obtain ⟨a3, j3, _, rfl, _⟩ := h3
  obtain ⟨a4, j4, _, rfl, _⟩ := h4
  simp only [mv] at *
  have bV : Below w.heap.size w ((w.alloc (.cells #[.slice a1 regs.length j1, .int .i64 pc, .slice a2 mem.length j2, .int .i64 save, .bool lets, .bool waits, .int .i64 halt, .slice a3 ins.length j3, .slice a4 outs.length j4, .int .i64 count] 25)).alloc (.cells #[.slice none 0 0, .int .i64 0, .slice none 0 0, .int .i64 0, .bool false, .bool false, .int .i64 0, .slice none 0 0, .slice none 0 0, .int .i64 0] 25)) := ((Below.refl _ _).alloc (Nat.le_refl _) _).alloc (by simp) _
  have N := hide ((Box.new w [.slice a1 regs.length j1, .int .i64 pc, .slice a2 mem.length j2, .int .i64 save, .bool lets, .bool waits, .int .i64 halt, .slice a3 ins.length j3, .slice a4 outs.length j4, .int .i64 count] 25).alloc (.cells #[.slice none 0 0, .int .i64 0, .slice none 0 0, .int .i64 0, .bool false, .bool false, .int .i64 0, .slice none 0 0, .slice none 0 0, .int .i64 0] 25))
  have R0 := Box.new (w.alloc (.cells #[.slice a1 regs.length j1, .int .i64 pc, .slice a2 mem.length j2, .int .i64 save, .bool lets, .bool waits, .int .i64 halt, .slice a3 ins.length j3, .slice a4 outs.length j4, .int .i64 count] 25)) [.slice none 0 0, .int .i64 0, .slice none 0 0, .int .i64 0, .bool false, .bool false, .int .i64 0, .slice none 0 0, .slice none 0 0, .int .i64 0] 25
  rw [show (w.alloc (.cells #[.slice a1 regs.length j1, .int .i64 pc, .slice a2 mem.length j2, .int .i64 save, .bool lets, .bool waits, .int .i64 halt, .slice a3 ins.length j3, .slice a4 outs.length j4, .int .i64 count] 25)).heap.size = w.heap.size + 1 by simp] at R0
  have R := hide R0
  replace RM := hide (RM.below bV)
  have BW := hide bV
  have HS := hide hs
  have kk : w.heap.size ≤ w.heap.size + 1 := by omega
  clear bV R0 hs
  go_enter Tryz.func23, Tryz.ntmps23
  go_wp2_with fail
  generalize ((w.alloc (.cells #[.slice a1 regs.length j1, .int .i64 pc, .slice a2 mem.length j2, .int .i64 save, .bool lets, .bool waits, .int .i64 halt, .slice a3 ins.length j3, .slice a4 outs.length j4, .int .i64 count] 25)).alloc (.cells #[.slice none 0 0, .int .i64 0, .slice none 0 0, .int .i64 0, .bool false, .bool false, .int .i64 0, .slice none 0 0, .slice none 0 0, .int .i64 0] 25)) = V at N R RM BW ⊢
  have n0 := N.out.r.cell 0 _ rfl
  have n1 := N.out.r.cell 1 _ rfl
  have n2 := N.out.r.cell 2 _ rfl
  have n3 := N.out.r.cell 3 _ rfl
  have n4 := N.out.r.cell 4 _ rfl
  have n5 := N.out.r.cell 5 _ rfl
  have n6 := N.out.r.cell 6 _ rfl
  have n7 := N.out.r.cell 7 _ rfl
  have n8 := N.out.r.cell 8 _ rfl
  have n9 := N.out.r.cell 9 _ rfl
  go_wp2_with fail
  refine (mchOk _ _ _ RM.out).mono ?_
  rintro e u1 ⟨rfl, hb⟩
  replace N := hide (N.out.below hb)
  replace R := hide (R.out.below hb)
  replace RM := hide (RM.out.below hb)
  replace BW := hide (BW.out.trans (hb.mono BW.out.size))
  clear hb
  clear n0 n1 n2 n3 n4 n5 n6 n7 n8 n9
  cases ok : okM ⟨regs, pc, mem, save, lets, waits, halt, ins, outs, count⟩ with
  | false =>
    have HM := hide (run_no (irqs := irqs) (n := n) (fun h => by rw [ok] at h; exact absurd h.1 (by decide)))
    clear ok
    clear RM N
    go_wp2_with (refine wpList_lay rfl rfl _ _ rfl (w.heap.size + 1) _ _ _ _ _ _ _ _ _ _ R.out rfl _ _ _ _ _ _ _ _ _ _ _ _ _ _ _ _ _ _ rfl ?_; intro u9 RB TB)
    have FI := hide (empty_mach u9 w.heap.size)
    have BT := hide (BW.out.trans (TB.out.below kk BW.out.size))
    have z0 := RB.out.r.cell 0 _ rfl
    have z1 := RB.out.r.cell 1 _ rfl
    have z2 := RB.out.r.cell 2 _ rfl
    have z3 := RB.out.r.cell 3 _ rfl
    have z4 := RB.out.r.cell 4 _ rfl
    have z5 := RB.out.r.cell 5 _ rfl
    have z6 := RB.out.r.cell 6 _ rfl
    have z7 := RB.out.r.cell 7 _ rfl
    have z8 := RB.out.r.cell 8 _ rfl
    have z9 := RB.out.r.cell 9 _ rfl
    clear RB TB
    exact bodyPost_ret (v := .agg #[.slice none 0 0, .int .i64 0, .slice none 0 0, .int .i64 0, .bool false, .bool false, .int .i64 0, .slice none 0 0, .slice none 0 0, .int .i64 0]) (by simp [results, Tryz.results23, go_sem, z0, z1, z2, z3, z4, z5, z6, z7, z8, z9]) rfl ⟨_, rfl, by rw [HM.out]; exact FI.out, BT.out⟩
  | true =>
    by_cases hn : 400 < n
    · have HM := hide (run_no (m := ⟨regs, pc, mem, save, lets, waits, halt, ins, outs, count⟩) (irqs := irqs) (n := n) (fun h => by omega))
      clear ok
      clear RM N
      go_wp2_with (refine wpList_lay rfl rfl _ _ rfl (w.heap.size + 1) _ _ _ _ _ _ _ _ _ _ R.out rfl _ _ _ _ _ _ _ _ _ _ _ _ _ _ _ _ _ _ rfl ?_; intro u9 RB TB)
      have FI := hide (empty_mach u9 w.heap.size)
      have BT := hide (BW.out.trans (TB.out.below kk BW.out.size))
      have z0 := RB.out.r.cell 0 _ rfl
      have z1 := RB.out.r.cell 1 _ rfl
      have z2 := RB.out.r.cell 2 _ rfl
      have z3 := RB.out.r.cell 3 _ rfl
      have z4 := RB.out.r.cell 4 _ rfl
      have z5 := RB.out.r.cell 5 _ rfl
      have z6 := RB.out.r.cell 6 _ rfl
      have z7 := RB.out.r.cell 7 _ rfl
      have z8 := RB.out.r.cell 8 _ rfl
      have z9 := RB.out.r.cell 9 _ rfl
      clear RB TB
      exact bodyPost_ret (v := .agg #[.slice none 0 0, .int .i64 0, .slice none 0 0, .int .i64 0, .bool false, .bool false, .int .i64 0, .slice none 0 0, .slice none 0 0, .int .i64 0]) (by simp [results, Tryz.results23, go_sem, z0, z1, z2, z3, z4, z5, z6, z7, z8, z9]) rfl ⟨_, rfl, by rw [HM.out]; exact FI.out, BT.out⟩
    have hn' : ¬ (400 : Int) < n := hn
    have HM := hide (run_yes (irqs := irqs) ok (Int.not_lt.1 hn))
    have OK := hide ok
    clear ok
    have lR : Hid (w.heap.size + 1 < u1.heap.size) := R.out.r.lt
    have n0 := N.out.r.cell 0 _ rfl
    have n1 := N.out.r.cell 1 _ rfl
    have n2 := N.out.r.cell 2 _ rfl
    have n3 := N.out.r.cell 3 _ rfl
    have n4 := N.out.r.cell 4 _ rfl
    have n5 := N.out.r.cell 5 _ rfl
    have n6 := N.out.r.cell 6 _ rfl
    have n7 := N.out.r.cell 7 _ rfl
    have n8 := N.out.r.cell 8 _ rfl
    have n9 := N.out.r.cell 9 _ rfl
    go_wp2_with fail
    refine (copiedMachine _ _ _ RM.out HS.out.mid).mono ?_
    rintro e u2 ⟨c2, rfl, C, hb⟩
    have l1 : Hid (w.heap.size ≤ u1.heap.size) := BW.out.size
    replace R := hide (R.out.below hb)
    replace BW := hide (BW.out.trans (hb.mono BW.out.size))
    have l2 : Hid (u1.heap.size ≤ u2.heap.size) := hb.size
    clear hb RM N
    clear n0 n1 n2 n3 n4 n5 n6 n7 n8 n9
    obtain ⟨f1, g1, h1, f2, g2, h2, f3, g3, h3, f4, h4, rfl⟩ := forms C
    simp only [mv] at C ⊢
    have bX : Below u2.heap.size u2 (u2.alloc (.cells #[.slice (some ⟨f1, g1, none⟩) regs.length h1, .int .i64 pc, .slice (some ⟨f2, g2, none⟩) mem.length h2, .int .i64 save, .bool lets, .bool waits, .int .i64 halt, .slice (some ⟨f3, g3, none⟩) ins.length h3, .slice (some ⟨f4, 0, none⟩) outs.length h4, .int .i64 count] 25)) := (Below.refl _ _).alloc (Nat.le_refl _) _
    replace C := hide (C.below bX)
    have X := hide (Box.new u2 [.slice (some ⟨f1, g1, none⟩) regs.length h1, .int .i64 pc, .slice (some ⟨f2, g2, none⟩) mem.length h2, .int .i64 save, .bool lets, .bool waits, .int .i64 halt, .slice (some ⟨f3, g3, none⟩) ins.length h3, .slice (some ⟨f4, 0, none⟩) outs.length h4, .int .i64 count] 25)
    have S2 : Hid ((u2.alloc (.cells #[.slice (some ⟨f1, g1, none⟩) regs.length h1, .int .i64 pc, .slice (some ⟨f2, g2, none⟩) mem.length h2, .int .i64 save, .bool lets, .bool waits, .int .i64 halt, .slice (some ⟨f3, g3, none⟩) ins.length h3, .slice (some ⟨f4, 0, none⟩) outs.length h4, .int .i64 count] 25)).heap.size = u2.heap.size + 1) := show _ = _ by simp
    replace R := hide (R.out.below bX)
    replace BW := hide (BW.out.trans (bX.mono BW.out.size))
    clear bX
    obtain ⟨RS, eR⟩ : ∃ RS, runM irqs n.toNat ⟨regs, pc, mem, save, lets, waits, halt, ins, outs, count⟩ = RS := ⟨_, rfl⟩
    have ER := hide eR
    replace HM := hide (HM.out.trans eR)
    obtain ⟨NN, eN⟩ : ∃ NN, n.toNat = NN := ⟨_, rfl⟩
    have EN := hide eN
    rw [eN] at ER
    clear eR eN hn
    go_wp2_with fail
    generalize (u2.alloc (.cells #[.slice (some ⟨f1, g1, none⟩) regs.length h1, .int .i64 pc, .slice (some ⟨f2, g2, none⟩) mem.length h2, .int .i64 save, .bool lets, .bool waits, .int .i64 halt, .slice (some ⟨f3, g3, none⟩) ins.length h3, .slice (some ⟨f4, 0, none⟩) outs.length h4, .int .i64 count] 25)) = V2 at C X S2 R BW ⊢
    refine (deeds V2).mono ?_
    rintro e u3 ⟨D, rfl, HD, hb⟩
    have CP := CMach.parts (m := ⟨regs, pc, mem, save, lets, waits, halt, ins, outs, count⟩) C.out
    have CL := hide (show (u1.heap.size ≤ f1 ∧ f1 < V2.heap.size) ∧ (u1.heap.size ≤ f2 ∧ f2 < V2.heap.size) ∧ (u1.heap.size ≤ f3 ∧ f3 < V2.heap.size) ∧ u1.heap.size ≤ f4 ∧ f4 < V2.heap.size from ⟨⟨CP.2.2.2.2.1.1, CP.2.2.2.2.2.2.1.lt⟩, ⟨CP.2.2.2.2.1.2.1, CP.2.2.2.2.2.2.2.1.lt⟩, ⟨CP.2.2.2.2.1.2.2.1, CP.2.2.2.2.2.2.2.2.1.lt⟩, ⟨CP.2.2.2.2.1.2.2.2, CP.2.2.2.2.2.2.2.2.2.lt⟩⟩)
    clear CP
    replace C := hide (C.out.below hb)
    replace X := hide (X.out.below hb)
    replace R := hide (R.out.below hb)
    replace BW := hide (BW.out.trans (hb.mono BW.out.size))
    have l3 : Hid (V2.heap.size ≤ u3.heap.size) := hb.size
    replace HD := hide HD
    clear hb
    obtain ⟨A, hAd⟩ : ∃ A : Nat → Prop, A = fun j => u1.heap.size ≤ j ∧ ¬ (V2.heap.size ≤ j ∧ j < u3.heap.size) := ⟨_, rfl⟩
    have P0 : PM A u3 u2.heap.size ⟨regs, pc, mem, save, lets, waits, halt, ins, outs, count⟩ := by
      have := CL.out
      have hA : ∀ j, (u1.heap.size ≤ j ∧ j < V2.heap.size) → A j := fun j hj => by rw [hAd]; exact ⟨hj.1, by omega⟩
      exact ⟨f1, g1, h1, f2, g2, h2, f3, g3, h3, f4, h4, X.out, C.out.low (Nat.zero_le _), hA _ CL.out.1, hA _ CL.out.2.1, hA _ CL.out.2.2.1, hA _ CL.out.2.2.2⟩
    have Q1 : Hid (∀ j, V2.heap.size ≤ j → j < u3.heap.size → ¬ A j) := fun j ha hb hA => by rw [hAd] at hA; exact hA.2 ⟨ha, hb⟩
    have Q2 : Hid (¬ (V2.heap.size ≤ u2.heap.size ∧ u2.heap.size < u3.heap.size)) := show ¬ _ by have := S2.out; omega
    have Q3 : Hid (∀ j, u3.heap.size ≤ j → A j) := fun j hj => by rw [hAd]; exact ⟨by have := S2.out; have := l2.out; have := l3.out; omega, by omega⟩
    have Q4 : Hid (∀ j, A j → w.heap.size + 2 ≤ j) := fun j hj => by rw [hAd] at hj; have := hj.1; have := lR.out; omega
    have LZ : Hid (w.heap.size + 1 < u2.heap.size) := Nat.lt_of_lt_of_le lR.out l2.out
    have Q5 : Hid (¬ Grip A u2.heap.size (w.heap.size + 1)) := fun hg => hg.elim (fun e => by have := LZ.out; omega) (fun ha => by have := Q4.out _ ha; omega)
    have N0 : Hid (RunP A w u2.heap.size (w.heap.size + 1) D V2.heap.size u3.heap.size irqs NN RS 0 u3) :=
      ⟨_, OK.out, ER.out, Nat.le_trans HS.out.2.2.2 (by omega), HS.out.2.2.1, P0, HD.out, R.out, BW.out, Nat.le_refl _⟩
    clear P0 C X hAd CL R BW HD l3 S2
    go_wp2_with fail
    go_loopw [9] (fun i wr => ∃ k : Nat, k ≤ NN ∧ i = .int .i64 k ∧ Hid (RunP A w u2.heap.size (w.heap.size + 1) D V2.heap.size u3.heap.size irqs NN RS k wr)) (fun i _ => NN - (intOf i).toNat)
    case atStart => exact ⟨0, Nat.zero_le _, rfl, N0⟩
    case round =>
      obtain ⟨k, hk, rfl, HX⟩ := hrel
      clear N0
      obtain ⟨m', ok', hr', ho', hi', hP', hD', hR', hb', hh'⟩ := HX.out
      clear HX
      obtain ⟨q1, q2, q3, q4, n1, n2, n3, n4, k1, k2, k3, k4, hB', hW'⟩ := hP'.out (lo := w.heap.size + 2) Q4.out
      have PP := hide hP'
      have HD := hide hD'
      have HH := hide hh'
      clear hP' hD' hh'
      obtain ⟨regs', pc', mem', save', lets', waits', halt', ins', outs', count'⟩ := m'
      simp only [mv] at hB' hW' ho' hi'
      have XB := hide hB'
      have WX := hide hW'
      have RX := hide hR'
      have BX := hide hb'
      have OX := hide ok'
      have EX := hide hr'
      have OO := hide ho'
      have II := hide hi'
      clear hB' hW' hR' hb' ok' hr' ho' hi'
      by_cases hlt : (k : Int) < n
      case neg =>
        have HE : Hid (⟨regs', pc', mem', save', lets', waits', halt', ins', outs', count'⟩ = RS) := EX.out.symm.trans (run_zero (by have := EN.out; omega)) |>.symm
        have x0 := XB.out.r.cell 0 _ rfl
        have x1 := XB.out.r.cell 1 _ rfl
        have x2 := XB.out.r.cell 2 _ rfl
        have x3 := XB.out.r.cell 3 _ rfl
        have x4 := XB.out.r.cell 4 _ rfl
        have x5 := XB.out.r.cell 5 _ rfl
        have x6 := XB.out.r.cell 6 _ rfl
        have x7 := XB.out.r.cell 7 _ rfl
        have x8 := XB.out.r.cell 8 _ rfl
        have x9 := XB.out.r.cell 9 _ rfl
        go_wp2_with (refine wpList_lay rfl rfl _ _ rfl (w.heap.size + 1) _ _ _ _ _ _ _ _ _ _ RX.out rfl _ _ _ _ _ _ _ _ _ _ _ _ _ _ _ _ _ _ rfl ?_; intro u9 RB TB)
        have FI := hide (((WX.out.bound.keep (Keep.of_turn TB.out) (fun b hb _ (he : b = _) => by omega)).write).low (lo' := w.heap.size) (by omega))
        have BT := hide (BX.out.trans (TB.out.below kk BX.out.size))
        clear x0 x1 x2 x3 x4 x5 x6 x7 x8 x9
        have z0 := RB.out.r.cell 0 _ rfl
        have z1 := RB.out.r.cell 1 _ rfl
        have z2 := RB.out.r.cell 2 _ rfl
        have z3 := RB.out.r.cell 3 _ rfl
        have z4 := RB.out.r.cell 4 _ rfl
        have z5 := RB.out.r.cell 5 _ rfl
        have z6 := RB.out.r.cell 6 _ rfl
        have z7 := RB.out.r.cell 7 _ rfl
        have z8 := RB.out.r.cell 8 _ rfl
        have z9 := RB.out.r.cell 9 _ rfl
        clear RB TB
        exact bodyPost_ret (v := .agg #[.slice q1 n1 k1, .int .i64 pc', .slice q2 n2 k2, .int .i64 save', .bool lets', .bool waits', .int .i64 halt', .slice q3 n3 k3, .slice q4 n4 k4, .int .i64 count']) (by simp [results, Tryz.results23, go_sem, z0, z1, z2, z3, z4, z5, z6, z7, z8, z9]) rfl ⟨_, rfl, by rw [HM.out, ← HE.out]; exact FI.out, BT.out⟩
      have x0 := XB.out.r.cell 0 _ rfl
      have x1 := XB.out.r.cell 1 _ rfl
      have x2 := XB.out.r.cell 2 _ rfl
      have x3 := XB.out.r.cell 3 _ rfl
      have x4 := XB.out.r.cell 4 _ rfl
      have x5 := XB.out.r.cell 5 _ rfl
      have x6 := XB.out.r.cell 6 _ rfl
      have x7 := XB.out.r.cell 7 _ rfl
      have x8 := XB.out.r.cell 8 _ rfl
      have x9 := XB.out.r.cell 9 _ rfl
      go_wp2_with fail
      refine (standsStill q1 q2 q3 q4 n1 n2 n3 n4 k1 k2 k3 k4 pc' save' halt' count' lets' waits' _).mono ?_
      rintro e u4 ⟨rfl, hb⟩
      replace PP := hide (PP.out.below hb)
      replace HD := hide (HD.out.keep (Keep.of_below (S := fun _ => False) hb) (fun _ _ _ h => h))
      replace HH := hide (Nat.le_trans HH.out hb.size)
      replace XB := hide (XB.out.below hb)
      replace WX := hide ((WX.out.bound.below hb).write)
      replace RX := hide (RX.out.below hb)
      replace BX := hide (BX.out.trans (hb.mono BX.out.size))
      clear hb
      clear x0 x1 x2 x3 x4 x5 x6 x7 x8 x9
      by_cases hst : halt' ≠ 0 ∨ 1000000 ≤ count'
      · have HE : Hid (⟨regs', pc', mem', save', lets', waits', halt', ins', outs', count'⟩ = RS) := (EX.out.symm.trans (run_stop (fun h => by have := h.1; have := h.2; simp only [] at *; omega))).symm
        rw [decide_eq_true hst]
        clear hst
        have x0 := XB.out.r.cell 0 _ rfl
        have x1 := XB.out.r.cell 1 _ rfl
        have x2 := XB.out.r.cell 2 _ rfl
        have x3 := XB.out.r.cell 3 _ rfl
        have x4 := XB.out.r.cell 4 _ rfl
        have x5 := XB.out.r.cell 5 _ rfl
        have x6 := XB.out.r.cell 6 _ rfl
        have x7 := XB.out.r.cell 7 _ rfl
        have x8 := XB.out.r.cell 8 _ rfl
        have x9 := XB.out.r.cell 9 _ rfl
        go_wp2_with (refine wpList_lay rfl rfl _ _ rfl (w.heap.size + 1) _ _ _ _ _ _ _ _ _ _ RX.out rfl _ _ _ _ _ _ _ _ _ _ _ _ _ _ _ _ _ _ rfl ?_; intro u9 RB TB)
        have FI := hide (((WX.out.bound.keep (Keep.of_turn TB.out) (fun b hb _ (he : b = _) => by omega)).write).low (lo' := w.heap.size) (by omega))
        have BT := hide (BX.out.trans (TB.out.below kk BX.out.size))
        clear x0 x1 x2 x3 x4 x5 x6 x7 x8 x9
        have z0 := RB.out.r.cell 0 _ rfl
        have z1 := RB.out.r.cell 1 _ rfl
        have z2 := RB.out.r.cell 2 _ rfl
        have z3 := RB.out.r.cell 3 _ rfl
        have z4 := RB.out.r.cell 4 _ rfl
        have z5 := RB.out.r.cell 5 _ rfl
        have z6 := RB.out.r.cell 6 _ rfl
        have z7 := RB.out.r.cell 7 _ rfl
        have z8 := RB.out.r.cell 8 _ rfl
        have z9 := RB.out.r.cell 9 _ rfl
        clear RB TB
        exact bodyPost_ret (v := .agg #[.slice q1 n1 k1, .int .i64 pc', .slice q2 n2 k2, .int .i64 save', .bool lets', .bool waits', .int .i64 halt', .slice q3 n3 k3, .slice q4 n4 k4, .int .i64 count']) (by simp [results, Tryz.results23, go_sem, z0, z1, z2, z3, z4, z5, z6, z7, z8, z9]) rfl ⟨_, rfl, by rw [HM.out, ← HE.out]; exact FI.out, BT.out⟩
      · rw [decide_eq_false hst]
        have GO : Hid (halt' = 0 ∧ count' < 1000000) := show _ ∧ _ by omega
        have KN : Hid (k < NN) := show _ < _ by have := EN.out; omega
        clear hst
        have x9 := XB.out.r.cell 9 _ rfl
        have RI := hide (RR.out.below BX.out)
        go_wp2_with fail
        refine (contains irqs count' B _ _ RI.out).mono ?_
        rintro e u5 ⟨rfl, rfl⟩
        go_wp2_with fail
        refine (step_all A u2.heap.size D ⟨regs', pc', mem', save', lets', waits', halt', ins', outs', count'⟩ (hasB irqs count') _ PP.out OX.out (by have := OO.out; have := KN.out; have := EN.out; show outs'.length ≤ _; omega) V2.heap.size u3.heap.size HD.out Q1.out Q2.out (fun j hj => Q3.out j (Nat.le_trans HH.out hj))).mono ?_
        rintro e u6 ⟨rfl, P6, K6⟩
        have NX : Hid (RunP A w u2.heap.size (w.heap.size + 1) D V2.heap.size u3.heap.size irqs NN RS (k + 1) u6) := RunP.next OX.out EX.out OO.out II.out KN.out GO.out P6 K6 HD.out Q1.out Q2.out (fun j hj => by have := Q4.out j hj; omega) (by have := LZ.out; omega) Q5.out RX.out BX.out HH.out
        clear x9 RI P6 K6 PP HD HH XB WX RX BX
        go_wp2
        exact ⟨⟨k + 1, KN.out, by go_num, NX⟩, by simp [intOf]; have := KN.out; omega⟩
end Go.Proofs.YtnhpmbhphbphaaaGreat.MchI
