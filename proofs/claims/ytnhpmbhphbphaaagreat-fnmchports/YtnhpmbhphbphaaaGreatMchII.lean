/-
  The program's step as what the model says, and the program's MchStep.
-/
import Derived.Test.YtnhpmbhphbphaaaGreatMchHH
import Derived.Test.YtnhpmbhphbphaaaGreatMchCC
import Derived.Test.YtnhpmbhphbphaaaGreatJnN
namespace Go.Proofs.YtnhpmbhphbphaaaGreat.Mch
open Go.ChangeShapes Go.WideShapes Go.ChangeAt Go.RowKit IntS
/-- A machine behind a pointer, as its cells. -/
theorem PM.out {A : Nat → Prop} {w : World} {Z lo : Nat} {m : M} (h : PM A w Z m) (hA : ∀ j, A j → lo ≤ j) : ∃ q1 q2 q3 q4 n1 n2 n3 n4 k1 k2 k3 k4, Box Z 25 (mv m (.slice q1 n1 k1) (.slice q2 n2 k2) (.slice q3 n3 k3) (.slice q4 n4 k4)) w ∧ WMach w lo (mv m (.slice q1 n1 k1) (.slice q2 n2 k2) (.slice q3 n3 k3) (.slice q4 n4 k4)) m := by
  obtain ⟨b1, o1, k1, b2, o2, k2, b3, o3, k3, b4, k4, hB, hC, a1, a2, a3, a4⟩ := h
  obtain ⟨r1, r2, r3, r4, _, ⟨d1, d2, d3, d4, d5, d6⟩, _⟩ := hC.parts
  obtain ⟨g, cap, hv, _, _, hr⟩ := r4.form (by simp)
  cases hv
  exact ⟨_, _, _, _, _, _, _, _, _, _, _, _, hB, ⟨_, _, _, _, b1, b2, b3, b4, rfl, r1, r2, r3, hr, hA _ a1, hA _ a2, hA _ a3, hA _ a4, d1, d2, d3, d4, d5, d6⟩⟩
theorem sample_mem (m : M) (irq : Bool) : (sampleM m irq).mem = m.mem := by unfold sampleM; split <;> rfl
theorem sample_pc (m : M) (irq : Bool) (h : 0 ≤ m.pc) : 0 ≤ (sampleM m irq).pc := by unfold sampleM; split <;> simp only [] <;> omega
end Go.Proofs.YtnhpmbhphbphaaaGreat.Mch
namespace Go.Proofs.YtnhpmbhphbphaaaGreat.MchI
open Go.ChangeShapes Go.WideShapes Go.ChangeAt Go.RowKit IntS Mch
theorem step_all (A : Nat → Prop) (Z D : Nat) (m : M) (irq : Bool) (w : World) (h : PM A w Z m) (ok : okM m = true) (hl9 : m.outs.length ≤ 1000000000) (lo hi : Nat) (hD : Deeds w lo hi D) (hno : ∀ j, lo ≤ j → j < hi → ¬ A j) (hZ : ¬ (lo ≤ Z ∧ Z < hi)) (hfr : ∀ j, w.heap.size ≤ j → A j) :
    Calls Tryz.prog 33 #[.pointer (some ⟨Z, 0, none⟩), .bool irq, .map (some D)] w fun e w' => e = .returned (.tuple #[]) ∧ PM A w' Z (stepM m irq) ∧ Keep (Grip A Z) w w' := by
  have OK := okM_of ok
  by_cases hs : m.halt ≠ 0 ∨ m.count = 1000000
  · refine (step_rest A Z D m irq w h (hs.imp id (fun e => by omega))).mono ?_
    rintro e w' ⟨rfl, hb⟩
    rw [step_still ok hs]
    exact ⟨rfl, h.below hb, Keep.of_below hb⟩
  · have h0 : m.halt = 0 := Classical.byContradiction fun e => hs (Or.inl e)
    have h1 : m.count ≠ 1000000 := fun e => hs (Or.inr e)
    have h1' : m.count < 1000000 := by have := OK.c; omega
    by_cases hp : 64 ≤ (sampleM m irq).pc
    · refine (step_nowhere A Z D m irq w h h0 h1' hp).mono ?_
      rintro e w' ⟨rfl, hP, hK⟩
      rw [step_place ok h0 h1 rfl hp]
      exact ⟨rfl, hP, hK⟩
    · obtain ⟨t, ht⟩ : ∃ t : Nat, (sampleM m irq).pc = t := ⟨_, (Int.toNat_of_nonneg (sample_pc m irq OK.p.1)).symm⟩
      have t64 : t < 64 := by omega
      obtain ⟨v, hv⟩ : ∃ v, m.mem[t]? = some v := ⟨_, List.getElem?_eq_getElem (by rw [OK.mem]; exact t64)⟩
      have hv2 : (sampleM m irq).mem[t]? = some v := by rw [sample_mem]; exact hv
      cases hb : Ins.takeB v with
      | false =>
        refine (step_noword A Z D m irq w h h0 h1' t ht t64 OK.mem v hv hb).mono ?_
        rintro e w' ⟨rfl, hP, hK⟩
        rw [step_word ok h0 h1 rfl hp ht hv2 hb]
        exact ⟨rfl, hP, hK⟩
      | true =>
        refine (MchI.step_do A Z D m irq w h h0 h1' t ht t64 OK.mem v hv hb OK hl9 lo hi hD hno hZ hfr).mono ?_
        rintro e w' ⟨rfl, hP, hK⟩
        rw [Mch.step_do ok h0 h1 rfl hp ht hv2 hb]
        exact ⟨rfl, hP, hK⟩
set_option maxRecDepth 8000 in
set_option maxHeartbeats 8000000 in
theorem mchStep (m : M) (irq : Bool) (c : List Value) (w : World) (h : RMach w c m) (hs : Mid m) :
    Calls Tryz.prog 15 #[.agg c.toArray, .bool irq] w fun e w' => ∃ c', e = .returned (.agg c'.toArray) ∧ WMach w' w.heap.size c' (stepM m irq) ∧ Below w.heap.size w w' := by
  obtain ⟨r, e, i, o, b1, b2, b3, b4, rfl, h1, h2, h3, h4⟩ := h
  obtain ⟨regs, pc, mem, save, lets, waits, halt, ins, outs, count⟩ := m
  have RM : RMach w (mv ⟨regs, pc, mem, save, lets, waits, halt, ins, outs, count⟩ r e i o) ⟨regs, pc, mem, save, lets, waits, halt, ins, outs, count⟩ := ⟨r, e, i, o, b1, b2, b3, b4, rfl, h1, h2, h3, h4⟩
  obtain ⟨a1, j1, _, rfl, _⟩ := h1
  obtain ⟨a2, j2, _, rfl, _⟩ := h2
  obtain ⟨a3, j3, _, rfl, _⟩ := h3
  obtain ⟨a4, j4, _, rfl, _⟩ := h4
  simp only [mv] at *
  have bV : Below w.heap.size w ((w.alloc (.cells #[.slice a1 regs.length j1, .int .i64 pc, .slice a2 mem.length j2, .int .i64 save, .bool lets, .bool waits, .int .i64 halt, .slice a3 ins.length j3, .slice a4 outs.length j4, .int .i64 count] 25)).alloc (.cells #[.slice none 0 0, .int .i64 0, .slice none 0 0, .int .i64 0, .bool false, .bool false, .int .i64 0, .slice none 0 0, .slice none 0 0, .int .i64 0] 25)) := ((Below.refl _ _).alloc (Nat.le_refl _) _).alloc (by simp) _
  have N := hide ((Box.new w [.slice a1 regs.length j1, .int .i64 pc, .slice a2 mem.length j2, .int .i64 save, .bool lets, .bool waits, .int .i64 halt, .slice a3 ins.length j3, .slice a4 outs.length j4, .int .i64 count] 25).alloc (.cells #[.slice none 0 0, .int .i64 0, .slice none 0 0, .int .i64 0, .bool false, .bool false, .int .i64 0, .slice none 0 0, .slice none 0 0, .int .i64 0] 25))
  have R0 := Box.new (w.alloc (.cells #[.slice a1 regs.length j1, .int .i64 pc, .slice a2 mem.length j2, .int .i64 save, .bool lets, .bool waits, .int .i64 halt, .slice a3 ins.length j3, .slice a4 outs.length j4, .int .i64 count] 25)) [.slice none 0 0, .int .i64 0, .slice none 0 0, .int .i64 0, .bool false, .bool false, .int .i64 0, .slice none 0 0, .slice none 0 0, .int .i64 0] 25
  rw [show (w.alloc (.cells #[.slice a1 regs.length j1, .int .i64 pc, .slice a2 mem.length j2, .int .i64 save, .bool lets, .bool waits, .int .i64 halt, .slice a3 ins.length j3, .slice a4 outs.length j4, .int .i64 count] 25)).heap.size = w.heap.size + 1 by simp] at R0
  have R := hide R0
  replace RM := hide (RM.below bV)
  have BW := hide bV
  have HS := hide hs
  have kk : w.heap.size ≤ w.heap.size + 1 := by omega
  clear bV R0 hs
  go_enter Tryz.func15, Tryz.ntmps15
  go_wp2_with fail
  generalize ((w.alloc (.cells #[.slice a1 regs.length j1, .int .i64 pc, .slice a2 mem.length j2, .int .i64 save, .bool lets, .bool waits, .int .i64 halt, .slice a3 ins.length j3, .slice a4 outs.length j4, .int .i64 count] 25)).alloc (.cells #[.slice none 0 0, .int .i64 0, .slice none 0 0, .int .i64 0, .bool false, .bool false, .int .i64 0, .slice none 0 0, .slice none 0 0, .int .i64 0] 25)) = V at N R RM BW ⊢
  have n0 := N.out.r.cell 0 _ rfl
  have n1 := N.out.r.cell 1 _ rfl
  have n2 := N.out.r.cell 2 _ rfl
  have n3 := N.out.r.cell 3 _ rfl
  have n4 := N.out.r.cell 4 _ rfl
  have n5 := N.out.r.cell 5 _ rfl
  have n6 := N.out.r.cell 6 _ rfl
  have n7 := N.out.r.cell 7 _ rfl
  have n8 := N.out.r.cell 8 _ rfl
  have n9 := N.out.r.cell 9 _ rfl
  go_wp2_with fail
  refine (mchOk _ _ _ RM.out).mono ?_
  rintro e u1 ⟨rfl, hb⟩
  replace N := hide (N.out.below hb)
  replace R := hide (R.out.below hb)
  replace RM := hide (RM.out.below hb)
  replace BW := hide (BW.out.trans (hb.mono BW.out.size))
  clear hb
  clear n0 n1 n2 n3 n4 n5 n6 n7 n8 n9
  cases ok : okM ⟨regs, pc, mem, save, lets, waits, halt, ins, outs, count⟩ with
  | false =>
    have HM := hide (step_no (irq := irq) ok)
    clear ok RM N
    go_wp2_with (refine wpList_lay rfl rfl _ _ rfl (w.heap.size + 1) _ _ _ _ _ _ _ _ _ _ R.out rfl _ _ _ _ _ _ _ _ _ _ _ _ _ _ _ _ _ _ rfl ?_; intro u9 RB TB)
    have FI := hide (empty_mach u9 w.heap.size)
    have BT := hide (BW.out.trans (TB.out.below kk BW.out.size))
    have z0 := RB.out.r.cell 0 _ rfl
    have z1 := RB.out.r.cell 1 _ rfl
    have z2 := RB.out.r.cell 2 _ rfl
    have z3 := RB.out.r.cell 3 _ rfl
    have z4 := RB.out.r.cell 4 _ rfl
    have z5 := RB.out.r.cell 5 _ rfl
    have z6 := RB.out.r.cell 6 _ rfl
    have z7 := RB.out.r.cell 7 _ rfl
    have z8 := RB.out.r.cell 8 _ rfl
    have z9 := RB.out.r.cell 9 _ rfl
    clear RB TB
    exact bodyPost_ret (v := .agg #[.slice none 0 0, .int .i64 0, .slice none 0 0, .int .i64 0, .bool false, .bool false, .int .i64 0, .slice none 0 0, .slice none 0 0, .int .i64 0]) (by simp [results, Tryz.results15, go_sem, z0, z1, z2, z3, z4, z5, z6, z7, z8, z9]) rfl ⟨_, rfl, by rw [HM.out]; exact FI.out, BT.out⟩
  | true =>
    have OK := hide ok
    clear ok
    have lR : Hid (w.heap.size + 1 < u1.heap.size) := R.out.r.lt
    have n0 := N.out.r.cell 0 _ rfl
    have n1 := N.out.r.cell 1 _ rfl
    have n2 := N.out.r.cell 2 _ rfl
    have n3 := N.out.r.cell 3 _ rfl
    have n4 := N.out.r.cell 4 _ rfl
    have n5 := N.out.r.cell 5 _ rfl
    have n6 := N.out.r.cell 6 _ rfl
    have n7 := N.out.r.cell 7 _ rfl
    have n8 := N.out.r.cell 8 _ rfl
    have n9 := N.out.r.cell 9 _ rfl
    go_wp2_with fail
    refine (copiedMachine _ _ _ RM.out HS.out).mono ?_
    rintro e u2 ⟨c2, rfl, C, hb⟩
    have l1 : Hid (w.heap.size ≤ u1.heap.size) := BW.out.size
    replace R := hide (R.out.below hb)
    replace BW := hide (BW.out.trans (hb.mono BW.out.size))
    have l2 : Hid (u1.heap.size ≤ u2.heap.size) := hb.size
    clear hb RM N
    clear n0 n1 n2 n3 n4 n5 n6 n7 n8 n9
    obtain ⟨f1, g1, h1, f2, g2, h2, f3, g3, h3, f4, h4, rfl⟩ := forms C
    simp only [mv] at C ⊢
    have bX : Below u2.heap.size u2 (u2.alloc (.cells #[.slice (some ⟨f1, g1, none⟩) regs.length h1, .int .i64 pc, .slice (some ⟨f2, g2, none⟩) mem.length h2, .int .i64 save, .bool lets, .bool waits, .int .i64 halt, .slice (some ⟨f3, g3, none⟩) ins.length h3, .slice (some ⟨f4, 0, none⟩) outs.length h4, .int .i64 count] 25)) := (Below.refl _ _).alloc (Nat.le_refl _) _
    replace C := hide (C.below bX)
    have X := hide (Box.new u2 [.slice (some ⟨f1, g1, none⟩) regs.length h1, .int .i64 pc, .slice (some ⟨f2, g2, none⟩) mem.length h2, .int .i64 save, .bool lets, .bool waits, .int .i64 halt, .slice (some ⟨f3, g3, none⟩) ins.length h3, .slice (some ⟨f4, 0, none⟩) outs.length h4, .int .i64 count] 25)
    have S2 : Hid ((u2.alloc (.cells #[.slice (some ⟨f1, g1, none⟩) regs.length h1, .int .i64 pc, .slice (some ⟨f2, g2, none⟩) mem.length h2, .int .i64 save, .bool lets, .bool waits, .int .i64 halt, .slice (some ⟨f3, g3, none⟩) ins.length h3, .slice (some ⟨f4, 0, none⟩) outs.length h4, .int .i64 count] 25)).heap.size = u2.heap.size + 1) := show _ = _ by simp
    replace R := hide (R.out.below bX)
    replace BW := hide (BW.out.trans (bX.mono BW.out.size))
    clear bX
    go_wp2_with fail
    generalize (u2.alloc (.cells #[.slice (some ⟨f1, g1, none⟩) regs.length h1, .int .i64 pc, .slice (some ⟨f2, g2, none⟩) mem.length h2, .int .i64 save, .bool lets, .bool waits, .int .i64 halt, .slice (some ⟨f3, g3, none⟩) ins.length h3, .slice (some ⟨f4, 0, none⟩) outs.length h4, .int .i64 count] 25)) = V2 at C X S2 R BW ⊢
    refine (deeds V2).mono ?_
    rintro e u3 ⟨D, rfl, HD, hb⟩
    have CP := CMach.parts (m := ⟨regs, pc, mem, save, lets, waits, halt, ins, outs, count⟩) C.out
    have CL := hide (show (u1.heap.size ≤ f1 ∧ f1 < V2.heap.size) ∧ (u1.heap.size ≤ f2 ∧ f2 < V2.heap.size) ∧ (u1.heap.size ≤ f3 ∧ f3 < V2.heap.size) ∧ u1.heap.size ≤ f4 ∧ f4 < V2.heap.size from ⟨⟨CP.2.2.2.2.1.1, CP.2.2.2.2.2.2.1.lt⟩, ⟨CP.2.2.2.2.1.2.1, CP.2.2.2.2.2.2.2.1.lt⟩, ⟨CP.2.2.2.2.1.2.2.1, CP.2.2.2.2.2.2.2.2.1.lt⟩, ⟨CP.2.2.2.2.1.2.2.2, CP.2.2.2.2.2.2.2.2.2.lt⟩⟩)
    clear CP
    replace C := hide (C.out.below hb)
    replace X := hide (X.out.below hb)
    replace R := hide (R.out.below hb)
    replace BW := hide (BW.out.trans (hb.mono BW.out.size))
    have l3 : Hid (V2.heap.size ≤ u3.heap.size) := hb.size
    replace HD := hide HD
    clear hb
    obtain ⟨A, hAd⟩ : ∃ A : Nat → Prop, A = fun j => u1.heap.size ≤ j ∧ ¬ (V2.heap.size ≤ j ∧ j < u3.heap.size) := ⟨_, rfl⟩
    have AD := hide hAd
    have P0 : PM A u3 u2.heap.size ⟨regs, pc, mem, save, lets, waits, halt, ins, outs, count⟩ := by
      have := CL.out
      have hA : ∀ j, (u1.heap.size ≤ j ∧ j < V2.heap.size) → A j := fun j hj => by rw [hAd]; exact ⟨hj.1, by omega⟩
      exact ⟨f1, g1, h1, f2, g2, h2, f3, g3, h3, f4, h4, X.out, C.out.low (Nat.zero_le _), hA _ CL.out.1, hA _ CL.out.2.1, hA _ CL.out.2.2.1, hA _ CL.out.2.2.2⟩
    have PP := hide P0
    have q1 : Hid (∀ j, V2.heap.size ≤ j → j < u3.heap.size → ¬ A j) := fun j ha hb hA => by rw [hAd] at hA; exact hA.2 ⟨ha, hb⟩
    have q2 : Hid (¬ (V2.heap.size ≤ u2.heap.size ∧ u2.heap.size < u3.heap.size)) := show ¬ _ by have := S2.out; omega
    have q3 : Hid (∀ j, u3.heap.size ≤ j → A j) := fun j hj => by rw [hAd]; exact ⟨by have := S2.out; have := l2.out; have := l3.out; omega, by omega⟩
    clear P0 C X hAd CL
    go_wp2_with fail
    refine (step_all A u2.heap.size D ⟨regs, pc, mem, save, lets, waits, halt, ins, outs, count⟩ irq u3 PP.out OK.out (Nat.le_trans HS.out.2.2.2 (by omega)) V2.heap.size u3.heap.size HD.out q1.out q2.out q3.out).mono ?_
    rintro e u4 ⟨rfl, P, K⟩
    clear PP q1 q2 q3 HD
    have hA1 : ∀ j, A j → u1.heap.size ≤ j := fun j hj => by rw [AD.out] at hj; exact hj.1
    obtain ⟨q1, q2, q3, q4, n1, n2, n3, n4, k1, k2, k3, k4, XB, WM⟩ := P.out hA1
    replace R := hide (R.out.keep K (fun hg => hg.elim (fun e => by have := lR.out; have := l2.out; omega) (fun ha => by have := hA1 _ ha; have := lR.out; omega)))
    replace BW := hide (BW.out.trans (K.below BW.out.size (fun k hk hg => hg.elim (fun e => by have := lR.out; have := l2.out; omega) (fun ha => by have := hA1 _ ha; have := lR.out; omega))))
    clear P K hA1 AD
    obtain ⟨m', em⟩ : ∃ m', stepM ⟨regs, pc, mem, save, lets, waits, halt, ins, outs, count⟩ irq = m' := ⟨_, rfl⟩
    have EM := hide em
    rw [em] at XB WM
    clear em
    obtain ⟨regs', pc', mem', save', lets', waits', halt', ins', outs', count'⟩ := m'
    simp only [mv] at XB WM
    replace XB := hide XB
    replace WM := hide WM
    have x0 := XB.out.r.cell 0 _ rfl
    have x1 := XB.out.r.cell 1 _ rfl
    have x2 := XB.out.r.cell 2 _ rfl
    have x3 := XB.out.r.cell 3 _ rfl
    have x4 := XB.out.r.cell 4 _ rfl
    have x5 := XB.out.r.cell 5 _ rfl
    have x6 := XB.out.r.cell 6 _ rfl
    have x7 := XB.out.r.cell 7 _ rfl
    have x8 := XB.out.r.cell 8 _ rfl
    have x9 := XB.out.r.cell 9 _ rfl
    go_wp2_with (refine wpList_lay rfl rfl _ _ rfl (w.heap.size + 1) _ _ _ _ _ _ _ _ _ _ R.out rfl _ _ _ _ _ _ _ _ _ _ _ _ _ _ _ _ _ _ rfl ?_; intro u9 RB TB)
    have FI := hide (((WM.out.bound.keep (Keep.of_turn TB.out) (fun b hb _ (he : b = _) => by have := lR.out; omega)).write).low l1.out)
    have BT := hide (BW.out.trans (TB.out.below kk BW.out.size))
    clear x0 x1 x2 x3 x4 x5 x6 x7 x8 x9 WM XB
    have z0 := RB.out.r.cell 0 _ rfl
    have z1 := RB.out.r.cell 1 _ rfl
    have z2 := RB.out.r.cell 2 _ rfl
    have z3 := RB.out.r.cell 3 _ rfl
    have z4 := RB.out.r.cell 4 _ rfl
    have z5 := RB.out.r.cell 5 _ rfl
    have z6 := RB.out.r.cell 6 _ rfl
    have z7 := RB.out.r.cell 7 _ rfl
    have z8 := RB.out.r.cell 8 _ rfl
    have z9 := RB.out.r.cell 9 _ rfl
    clear RB TB
    exact bodyPost_ret (v := .agg #[.slice q1 n1 k1, .int .i64 pc', .slice q2 n2 k2, .int .i64 save', .bool lets', .bool waits', .int .i64 halt', .slice q3 n3 k3, .slice q4 n4 k4, .int .i64 count']) (by simp [results, Tryz.results15, go_sem, z0, z1, z2, z3, z4, z5, z6, z7, z8, z9]) rfl ⟨_, rfl, by rw [EM.out]; exact FI.out, BT.out⟩
end Go.Proofs.YtnhpmbhphbphaaaGreat.MchI
