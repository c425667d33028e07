/-
  How the program runs a piece of code: its IrRun.
-/
import Derived.Test.YtaokopipgolmbaaGreatDoorIrPg
import Derived.Test.YtaokopipgolmbaaGreatDoorIrPr
import Derived.Test.YtaokopipgolmbaaGreatDoorIrIo
import Derived.Test.YtaokopipgolmbaaGreatDoorMchCd
namespace Go.Proofs.YtaokopipgolmbaaGreatDoor.Ir
set_option linter.unusedVariables false
set_option linter.unusedSimpArgs false
open Go.ChangeShapes Go.WideShapes Go.ChangeAt Go.RowKit IntS Mch
theorem rec_low {Z lo : Nat} {cs : List Value} {u u' : World} (h : Rec Z cs u) (hb : Below lo u u') (hz : Z < lo) : Rec Z cs u' := by
  have e := hb.block Z hz
  exact ⟨Nat.lt_of_lt_of_le h.lt hb.size, fun i v hv => (World.cell?_of_block (w := u) (a := ⟨Z, i, none⟩) e).trans (h.cell i v hv), fun i => (World.frozen?_of_block (w := u) (a := ⟨Z, i, none⟩) e).trans (h.soft i)⟩
theorem isT_low {Z lo : Nat} {t : TypeId} {u u' : World} (h : IsT u Z t) (hb : Below lo u u') (hz : Z < lo) : IsT u' Z t := by
  obtain ⟨cur, fz, h1⟩ := h
  exact ⟨cur, fz, (hb.block Z hz).trans h1⟩
theorem cell_lt {u : World} {p : Addr} {v : Value} (h : u.cell? p = some v) : p.block < u.heap.size := by
  rcases Nat.lt_or_ge p.block u.heap.size with h1 | h1
  · exact h1
  · simp [World.cell?, Array.getElem?_eq_none h1] at h
theorem row_lt {w : World} {B : Nat} {v : Value} {os : List Opn} (h : ORow w B v os) : os = [] ∨ B < w.heap.size := by
  obtain ⟨a, cap, off, h1, h2, h3, hz, h4⟩ := h
  rcases h4 with h4 | ⟨_, hc⟩
  · exact Or.inl h4
  · cases os with
    | nil => exact Or.inl rfl
    | cons o r => exact Or.inr (cell_lt (hc 0 o rfl).1)
theorem tb_below {w w' : World} {g : Nat} {L : List Sh} (h : Tb w g L) (hb : Below w.heap.size w w') : Tb w' g L := h.below hb
set_option maxRecDepth 8000 in
set_option maxHeartbeats 16000000 in
theorem implIrRun (b : Bk) (m : M) (cb cm : List Value) (w : World) (hb : RBk w cb b) (hm : RMach w cm m) (hs : Mid m) (ht : Tb w 0 opL) (he : Tb w 1 enL) (hg : w.cell? ⟨2, 0, none⟩ = some (.iface 118 (.agg #[.pointer (some ⟨3, 61, none⟩)]))) :
    Calls Tryz.prog 9 #[.agg cb.toArray, .agg cm.toArray] w fun e w' => IrR w.heap.size b m e w' ∧ Below w.heap.size w w' := by
  have HB := hide hb
  have HM := hide hm
  have MID := hide hs
  have HT := hide ht
  have HE := hide he
  have HG := hide hg
  clear hs ht he hg
  obtain ⟨qa, cap, B, rfl, hr⟩ := hb
  obtain ⟨r, e, i, o, b1, b2, b3, b4, rfl, h1, h2, h3, h4⟩ := hm
  obtain ⟨q1, k1, _, rfl, _⟩ := h1
  obtain ⟨q2, k2, _, rfl, _⟩ := h2
  obtain ⟨q3, k3, _, rfl, _⟩ := h3
  obtain ⟨q4, k4, _, rfl, _⟩ := h4
  obtain ⟨R, eR⟩ : ∃ R, irM b m = R := ⟨_, rfl⟩
  have ER := hide eR
  clear eR
  obtain ⟨kk, ek⟩ : ∃ kk, (okB b && okM m && standB b m) = kk := ⟨_, rfl⟩
  have EK := hide ek
  clear ek
  have IR : Hid (∀ c' w', ((okB b && okM m) = false → c' = [.slice none 0 0, .int .i64 0, .slice none 0 0, .int .i64 0, .bool false, .bool false, .int .i64 0, .slice none 0 0, .slice none 0 0, .int .i64 0]) → ((okB b && okM m) = true → CMach w' w.heap.size c' R) → IrR w.heap.size b m (.returned (.tuple #[.agg c'.toArray, .bool kk])) w') := fun c' w' g1 g2 => ⟨c', by rw [EK.out], g1, by rw [ER.out]; exact g2⟩
  obtain ⟨bp, ln, ops, en, bx, by_, bk⟩ := b
  obtain ⟨regs, pc, mem, save, lets, waits, halt, ins, outs, count⟩ := m
  simp only [mv, bv] at *
  have T := Three.new w [.int .i64 bp, .int .i64 ln, .slice qa ops.length cap, .int .i64 en, .int .i64 bx, .int .i64 by_, .int .i64 bk] [.slice q1 regs.length k1, .int .i64 pc, .slice q2 mem.length k2, .int .i64 save, .bool lets, .bool waits, .int .i64 halt, .slice q3 ins.length k3, .slice q4 outs.length k4, .int .i64 count] [.slice none 0 0, .int .i64 0, .slice none 0 0, .int .i64 0, .bool false, .bool false, .int .i64 0, .slice none 0 0, .slice none 0 0, .int .i64 0] 35 30 30
  have T1 := hide T
  have ZT0 := IsT.new ((w.alloc (.cells #[.int .i64 bp, .int .i64 ln, .slice qa ops.length cap, .int .i64 en, .int .i64 bx, .int .i64 by_, .int .i64 bk] 35)).alloc (.cells #[.slice q1 regs.length k1, .int .i64 pc, .slice q2 mem.length k2, .int .i64 save, .bool lets, .bool waits, .int .i64 halt, .slice q3 ins.length k3, .slice q4 outs.length k4, .int .i64 count] 30)) #[.slice none 0 0, .int .i64 0, .slice none 0 0, .int .i64 0, .bool false, .bool false, .int .i64 0, .slice none 0 0, .slice none 0 0, .int .i64 0] 30
  rw [show ((w.alloc (.cells #[.int .i64 bp, .int .i64 ln, .slice qa ops.length cap, .int .i64 en, .int .i64 bx, .int .i64 by_, .int .i64 bk] 35)).alloc (.cells #[.slice q1 regs.length k1, .int .i64 pc, .slice q2 mem.length k2, .int .i64 save, .bool lets, .bool waits, .int .i64 halt, .slice q3 ins.length k3, .slice q4 outs.length k4, .int .i64 count] 30)).heap.size = w.heap.size + 1 + 1 by simp] at ZT0
  have ZT := hide ZT0
  have RB1 := hide (HB.out.below T.bw)
  have RM1 := hide (HM.out.below T.bw)
  have TA1 := hide (tb_below HT.out T.bw)
  have TE1 := hide (tb_below HE.out T.bw)
  have HR := hide hr
  clear T ZT0 HT HE hr
  go_enter Tryz.func9, Tryz.ntmps9
  go_wp2_with fail
  refine (implIrOk ⟨bp, ln, ops, en, bx, by_, bk⟩ _ _ RB1.out TA1.out TE1.out).mono ?_
  rintro e u1 ⟨rfl, hb1⟩
  replace T1 := hide (T1.out.below hb1)
  replace ZT := hide (ZT.out.below hb1)
  replace RM1 := hide (RM1.out.below hb1)
  clear hb1 RB1 TA1 TE1
  by_cases ob : okB ⟨bp, ln, ops, en, bx, by_, bk⟩ = true
  case neg =>
    rw [Bool.not_eq_true] at ob
    have OB := hide ob
    have EQ : Hid (kk = false) := show _ = _ by rw [← EK.out, ob]; rfl
    rw [ob]
    clear ob
    have z0 := T1.out.o.cell 0 _ rfl
    have zs0 := T1.out.o.soft 0
    have z1 := T1.out.o.cell 1 _ rfl
    have zs1 := T1.out.o.soft 1
    have z2 := T1.out.o.cell 2 _ rfl
    have zs2 := T1.out.o.soft 2
    have z3 := T1.out.o.cell 3 _ rfl
    have zs3 := T1.out.o.soft 3
    have z4 := T1.out.o.cell 4 _ rfl
    have zs4 := T1.out.o.soft 4
    have z5 := T1.out.o.cell 5 _ rfl
    have zs5 := T1.out.o.soft 5
    have z6 := T1.out.o.cell 6 _ rfl
    have zs6 := T1.out.o.soft 6
    have z7 := T1.out.o.cell 7 _ rfl
    have zs7 := T1.out.o.soft 7
    have z8 := T1.out.o.cell 8 _ rfl
    have zs8 := T1.out.o.soft 8
    have z9 := T1.out.o.cell 9 _ rfl
    have zs9 := T1.out.o.soft 9
    have BW := hide T1.out.bw
    clear RM1
    go_wp2
    exact bodyPost_ret (v := .tuple #[.agg #[.slice none 0 0, .int .i64 0, .slice none 0 0, .int .i64 0, .bool false, .bool false, .int .i64 0, .slice none 0 0, .slice none 0 0, .int .i64 0], .bool kk]) (by rw [EQ.out]; simp [results, Tryz.results9, go_sem, z0, z1, z2, z3, z4, z5, z6, z7, z8, z9]) rfl ⟨IR.out [.slice none 0 0, .int .i64 0, .slice none 0 0, .int .i64 0, .bool false, .bool false, .int .i64 0, .slice none 0 0, .slice none 0 0, .int .i64 0] _ (fun _ => rfl) (fun e => by rw [OB.out] at e; cases e), below_ten BW.out (by omega) _ _ _ _ _ _ _ _ _ _⟩
  have OB := hide ob
  rw [ob]
  clear ob
  have m0 := T1.out.z.cell 0 _ rfl
  have m1 := T1.out.z.cell 1 _ rfl
  have m2 := T1.out.z.cell 2 _ rfl
  have m3 := T1.out.z.cell 3 _ rfl
  have m4 := T1.out.z.cell 4 _ rfl
  have m5 := T1.out.z.cell 5 _ rfl
  have m6 := T1.out.z.cell 6 _ rfl
  have m7 := T1.out.z.cell 7 _ rfl
  have m8 := T1.out.z.cell 8 _ rfl
  have m9 := T1.out.z.cell 9 _ rfl
  go_wp2_with fail
  refine (MchI.mchOk ⟨regs, pc, mem, save, lets, waits, halt, ins, outs, count⟩ _ _ RM1.out).mono ?_
  rintro e u2 ⟨rfl, hb2⟩
  replace T1 := hide (T1.out.below hb2)
  replace ZT := hide (ZT.out.below hb2)
  replace RM1 := hide (RM1.out.below hb2)
  clear hb2 m0 m1 m2 m3 m4 m5 m6 m7 m8 m9
  by_cases om : okM ⟨regs, pc, mem, save, lets, waits, halt, ins, outs, count⟩ = true
  case neg =>
    rw [Bool.not_eq_true] at om
    have OM := hide om
    have EQ : Hid (kk = false) := show _ = _ by rw [← EK.out, om, Bool.and_false]; rfl
    rw [om]
    clear om
    have z0 := T1.out.o.cell 0 _ rfl
    have zs0 := T1.out.o.soft 0
    have z1 := T1.out.o.cell 1 _ rfl
    have zs1 := T1.out.o.soft 1
    have z2 := T1.out.o.cell 2 _ rfl
    have zs2 := T1.out.o.soft 2
    have z3 := T1.out.o.cell 3 _ rfl
    have zs3 := T1.out.o.soft 3
    have z4 := T1.out.o.cell 4 _ rfl
    have zs4 := T1.out.o.soft 4
    have z5 := T1.out.o.cell 5 _ rfl
    have zs5 := T1.out.o.soft 5
    have z6 := T1.out.o.cell 6 _ rfl
    have zs6 := T1.out.o.soft 6
    have z7 := T1.out.o.cell 7 _ rfl
    have zs7 := T1.out.o.soft 7
    have z8 := T1.out.o.cell 8 _ rfl
    have zs8 := T1.out.o.soft 8
    have z9 := T1.out.o.cell 9 _ rfl
    have zs9 := T1.out.o.soft 9
    have BW := hide T1.out.bw
    clear RM1
    go_wp2
    exact bodyPost_ret (v := .tuple #[.agg #[.slice none 0 0, .int .i64 0, .slice none 0 0, .int .i64 0, .bool false, .bool false, .int .i64 0, .slice none 0 0, .slice none 0 0, .int .i64 0], .bool kk]) (by rw [EQ.out]; simp [results, Tryz.results9, go_sem, z0, z1, z2, z3, z4, z5, z6, z7, z8, z9]) rfl ⟨IR.out [.slice none 0 0, .int .i64 0, .slice none 0 0, .int .i64 0, .bool false, .bool false, .int .i64 0, .slice none 0 0, .slice none 0 0, .int .i64 0] _ (fun _ => rfl) (fun e => by rw [OM.out, Bool.and_false] at e; cases e), below_ten BW.out (by omega) _ _ _ _ _ _ _ _ _ _⟩
  have OM := hide om
  rw [om]
  clear om
  have m0 := T1.out.z.cell 0 _ rfl
  have m1 := T1.out.z.cell 1 _ rfl
  have m2 := T1.out.z.cell 2 _ rfl
  have m3 := T1.out.z.cell 3 _ rfl
  have m4 := T1.out.z.cell 4 _ rfl
  have m5 := T1.out.z.cell 5 _ rfl
  have m6 := T1.out.z.cell 6 _ rfl
  have m7 := T1.out.z.cell 7 _ rfl
  have m8 := T1.out.z.cell 8 _ rfl
  have m9 := T1.out.z.cell 9 _ rfl
  go_wp2_with fail
  refine (MchI.copiedMachine ⟨regs, pc, mem, save, lets, waits, halt, ins, outs, count⟩ _ _ RM1.out MID.out).mono ?_
  rintro e u3 ⟨c, rfl, HC, hb3⟩
  obtain ⟨f1, g1, h1, f2, g2, h2, f3, g3, h3, f4, h4, rfl⟩ := forms HC
  have HC1 := hide HC
  have U3 : Hid (w.heap.size ≤ u2.heap.size ∧ u2.heap.size ≤ u3.heap.size) := ⟨Nat.le_trans (Nat.le_refl _) T1.out.bw.size, hb3.size⟩
  have NX : Hid (w.heap.size + 1 + 1 < u2.heap.size) := T1.out.o.lt
  have F1 := hide (T1.out.below hb3)
  replace ZT := hide (ZT.out.below hb3)
  clear T1 HC hb3 RM1 m0 m1 m2 m3 m4 m5 m6 m7 m8 m9
  simp only [mv] at *
  have bo : Below u3.heap.size u3 (u3.alloc (.cells #[.slice (some ⟨f1, g1, none⟩) regs.length h1, .int .i64 pc, .slice (some ⟨f2, g2, none⟩) mem.length h2, .int .i64 save, .bool lets, .bool waits, .int .i64 halt, .slice (some ⟨f3, g3, none⟩) ins.length h3, .slice (some ⟨f4, 0, none⟩) outs.length h4, .int .i64 count] 30)) := alloc_below _ _
  have RX := hide (And.intro (Rec.new u3 [.slice (some ⟨f1, g1, none⟩) regs.length h1, .int .i64 pc, .slice (some ⟨f2, g2, none⟩) mem.length h2, .int .i64 save, .bool lets, .bool waits, .int .i64 halt, .slice (some ⟨f3, g3, none⟩) ins.length h3, .slice (some ⟨f4, 0, none⟩) outs.length h4, .int .i64 count] 30) (IsT.new u3 #[.slice (some ⟨f1, g1, none⟩) regs.length h1, .int .i64 pc, .slice (some ⟨f2, g2, none⟩) mem.length h2, .int .i64 save, .bool lets, .bool waits, .int .i64 halt, .slice (some ⟨f3, g3, none⟩) ins.length h3, .slice (some ⟨f4, 0, none⟩) outs.length h4, .int .i64 count] 30))
  have T2 := hide (F1.out.below bo)
  replace ZT := hide (ZT.out.below bo)
  have HC2 := hide (HC1.out.below bo)
  have bz := T2.out.a.cell 0 _ rfl
  have bl := T2.out.a.cell 1 _ rfl
  have mh := T2.out.z.cell 6 _ rfl
  have mp := T2.out.z.cell 1 _ rfl
  have mt := T2.out.z.cell 9 _ rfl
  have x0 := RX.out.1.cell 0 _ rfl
  have x1 := RX.out.1.cell 1 _ rfl
  have x2 := RX.out.1.cell 2 _ rfl
  have x3 := RX.out.1.cell 3 _ rfl
  have x4 := RX.out.1.cell 4 _ rfl
  have x5 := RX.out.1.cell 5 _ rfl
  have x6 := RX.out.1.cell 6 _ rfl
  have x7 := RX.out.1.cell 7 _ rfl
  have x8 := RX.out.1.cell 8 _ rfl
  have x9 := RX.out.1.cell 9 _ rfl
  obtain ⟨p0, p64, l1, l8, o48, OPS, ENDS⟩ := head_ok OB.out
  simp only [] at p0 p64 l1 l8 o48 OPS ENDS
  have EN := hide ENDS
  obtain ⟨IV, c0, c1⟩ := inv_ok OM.out
  simp only [] at c0 c1
  have IV0 := hide IV
  clear OPS ENDS IV bo F1 HC1
  have BOTH : Hid ((okB ⟨bp, ln, ops, en, bx, by_, bk⟩ && okM ⟨regs, pc, mem, save, lets, waits, halt, ins, outs, count⟩) = true) := show _ = _ by rw [OB.out, OM.out]; rfl
  have ST : standB ⟨bp, ln, ops, en, bx, by_, bk⟩ ⟨regs, pc, mem, save, lets, waits, halt, ins, outs, count⟩ = (decide (halt = 0) && decide (pc = bp) && decide (count ≤ 1000000 - ln)) := rfl
  by_cases st : standB ⟨bp, ln, ops, en, bx, by_, bk⟩ ⟨regs, pc, mem, save, lets, waits, halt, ins, outs, count⟩ = true
  case neg =>
    have EQ : Hid (kk = false) := show _ = _ by rw [← EK.out, BOTH.out]; simpa using st
    have RM : Hid (R = ⟨regs, pc, mem, save, lets, waits, halt, ins, outs, count⟩) := show _ = _ by rw [← ER.out, irM, if_neg st]
    have z0 := T2.out.o.cell 0 _ rfl
    have zs0 := T2.out.o.soft 0
    have z1 := T2.out.o.cell 1 _ rfl
    have zs1 := T2.out.o.soft 1
    have z2 := T2.out.o.cell 2 _ rfl
    have zs2 := T2.out.o.soft 2
    have z3 := T2.out.o.cell 3 _ rfl
    have zs3 := T2.out.o.soft 3
    have z4 := T2.out.o.cell 4 _ rfl
    have zs4 := T2.out.o.soft 4
    have z5 := T2.out.o.cell 5 _ rfl
    have zs5 := T2.out.o.soft 5
    have z6 := T2.out.o.cell 6 _ rfl
    have zs6 := T2.out.o.soft 6
    have z7 := T2.out.o.cell 7 _ rfl
    have zs7 := T2.out.o.soft 7
    have z8 := T2.out.o.cell 8 _ rfl
    have zs8 := T2.out.o.soft 8
    have z9 := T2.out.o.cell 9 _ rfl
    have zs9 := T2.out.o.soft 9
    have BW := hide T2.out.bw
    have fin : Hid (∀ u, CMach u u2.heap.size [.slice (some ⟨f1, g1, none⟩) regs.length h1, .int .i64 pc, .slice (some ⟨f2, g2, none⟩) mem.length h2, .int .i64 save, .bool lets, .bool waits, .int .i64 halt, .slice (some ⟨f3, g3, none⟩) ins.length h3, .slice (some ⟨f4, 0, none⟩) outs.length h4, .int .i64 count] ⟨regs, pc, mem, save, lets, waits, halt, ins, outs, count⟩ → IrR w.heap.size ⟨bp, ln, ops, en, bx, by_, bk⟩ ⟨regs, pc, mem, save, lets, waits, halt, ins, outs, count⟩ (.returned (.tuple #[.agg #[.slice (some ⟨f1, g1, none⟩) regs.length h1, .int .i64 pc, .slice (some ⟨f2, g2, none⟩) mem.length h2, .int .i64 save, .bool lets, .bool waits, .int .i64 halt, .slice (some ⟨f3, g3, none⟩) ins.length h3, .slice (some ⟨f4, 0, none⟩) outs.length h4, .int .i64 count], .bool kk])) u) := fun u hu => IR.out [.slice (some ⟨f1, g1, none⟩) regs.length h1, .int .i64 pc, .slice (some ⟨f2, g2, none⟩) mem.length h2, .int .i64 save, .bool lets, .bool waits, .int .i64 halt, .slice (some ⟨f3, g3, none⟩) ins.length h3, .slice (some ⟨f4, 0, none⟩) outs.length h4, .int .i64 count] _ (fun e => by rw [BOTH.out] at e; cases e) (fun _ => by rw [RM.out]; exact hu.lowI U3.out.1)
    have sn : halt ≠ 0 ∨ (halt = 0 ∧ pc ≠ bp) ∨ (halt = 0 ∧ pc = bp ∧ 1000000 - ln < count) := by
      rw [ST] at st
      simp only [Bool.and_eq_true, decide_eq_true_eq] at st
      omega
    clear st ST
    rcases sn with e1 | ⟨e1, e2⟩ | ⟨e1, e2, e3⟩
    · have e1' : (halt != 0) = true := by simpa using e1
      go_wp2
      exact bodyPost_ret (v := .tuple #[.agg #[.slice (some ⟨f1, g1, none⟩) regs.length h1, .int .i64 pc, .slice (some ⟨f2, g2, none⟩) mem.length h2, .int .i64 save, .bool lets, .bool waits, .int .i64 halt, .slice (some ⟨f3, g3, none⟩) ins.length h3, .slice (some ⟨f4, 0, none⟩) outs.length h4, .int .i64 count], .bool kk]) (by rw [EQ.out]; simp [results, Tryz.results9, go_sem, z0, z1, z2, z3, z4, z5, z6, z7, z8, z9]) rfl ⟨fin.out _ (HC2.out.ten ZT.out mach_int _ _ _ _ _ _ _ _ _ _), below_ten BW.out (by omega) _ _ _ _ _ _ _ _ _ _⟩
    · have e1' : (halt != 0) = false := by simpa using e1
      have e2' : (pc != bp) = true := by simpa using e2
      clear e1 e2
      go_wp2
      exact bodyPost_ret (v := .tuple #[.agg #[.slice (some ⟨f1, g1, none⟩) regs.length h1, .int .i64 pc, .slice (some ⟨f2, g2, none⟩) mem.length h2, .int .i64 save, .bool lets, .bool waits, .int .i64 halt, .slice (some ⟨f3, g3, none⟩) ins.length h3, .slice (some ⟨f4, 0, none⟩) outs.length h4, .int .i64 count], .bool kk]) (by rw [EQ.out]; simp [results, Tryz.results9, go_sem, z0, z1, z2, z3, z4, z5, z6, z7, z8, z9]) rfl ⟨fin.out _ (HC2.out.ten ZT.out mach_int _ _ _ _ _ _ _ _ _ _), below_ten BW.out (by omega) _ _ _ _ _ _ _ _ _ _⟩
    · have e1' : (halt != 0) = false := by simpa using e1
      have e2' : (pc != bp) = false := by simpa using e2
      clear e1 e2
      go_wp2
      exact bodyPost_ret (v := .tuple #[.agg #[.slice (some ⟨f1, g1, none⟩) regs.length h1, .int .i64 pc, .slice (some ⟨f2, g2, none⟩) mem.length h2, .int .i64 save, .bool lets, .bool waits, .int .i64 halt, .slice (some ⟨f3, g3, none⟩) ins.length h3, .slice (some ⟨f4, 0, none⟩) outs.length h4, .int .i64 count], .bool kk]) (by rw [EQ.out]; simp [results, Tryz.results9, go_sem, z0, z1, z2, z3, z4, z5, z6, z7, z8, z9]) rfl ⟨fin.out _ (HC2.out.ten ZT.out mach_int _ _ _ _ _ _ _ _ _ _), below_ten BW.out (by omega) _ _ _ _ _ _ _ _ _ _⟩
  have EQ : Hid (kk = true) := show _ = _ by rw [← EK.out, BOTH.out, st]; rfl
  have RL : Hid (R = runM ⟨bp, ln, ops, en, bx, by_, bk⟩ ops ⟨regs, pc, mem, save, lets, waits, halt, ins, outs, count⟩ []) := show _ = _ by rw [← ER.out, irM, if_pos st]
  rw [ST] at st
  simp only [Bool.and_eq_true, decide_eq_true_eq] at st
  obtain ⟨⟨e1, e2⟩, e3⟩ := st
  have e1' : (halt != 0) = false := by simpa using e1
  have e2' : (pc != bp) = false := by simpa using e2
  have e3' : ¬ (1000000 - ln < count) := by omega
  have H0 := hide e1
  clear ST e1 e2 e3
  have b0 := T2.out.a.cell 0 _ rfl
  have b1 := T2.out.a.cell 1 _ rfl
  have b2 := T2.out.a.cell 2 _ rfl
  have b3 := T2.out.a.cell 3 _ rfl
  have b4 := T2.out.a.cell 4 _ rfl
  have b5 := T2.out.a.cell 5 _ rfl
  have b6 := T2.out.a.cell 6 _ rfl
  go_wp2_with fail
  have bo4 : Below (u3.alloc (.cells #[.slice (some ⟨f1, g1, none⟩) regs.length h1, .int .i64 pc, .slice (some ⟨f2, g2, none⟩) mem.length h2, .int .i64 save, .bool lets, .bool waits, .int .i64 halt, .slice (some ⟨f3, g3, none⟩) ins.length h3, .slice (some ⟨f4, 0, none⟩) outs.length h4, .int .i64 count] 30)).heap.size (u3.alloc (.cells #[.slice (some ⟨f1, g1, none⟩) regs.length h1, .int .i64 pc, .slice (some ⟨f2, g2, none⟩) mem.length h2, .int .i64 save, .bool lets, .bool waits, .int .i64 halt, .slice (some ⟨f3, g3, none⟩) ins.length h3, .slice (some ⟨f4, 0, none⟩) outs.length h4, .int .i64 count] 30)) ((u3.alloc (.cells #[.slice (some ⟨f1, g1, none⟩) regs.length h1, .int .i64 pc, .slice (some ⟨f2, g2, none⟩) mem.length h2, .int .i64 save, .bool lets, .bool waits, .int .i64 halt, .slice (some ⟨f3, g3, none⟩) ins.length h3, .slice (some ⟨f4, 0, none⟩) outs.length h4, .int .i64 count] 30)).alloc (.cells #[.int .i64 bp, .int .i64 ln, .slice qa ops.length cap, .int .i64 en, .int .i64 bx, .int .i64 by_, .int .i64 bk, .pointer (some ⟨u3.heap.size, 0, none⟩), .slice none 0 0] 58)) := alloc_below _ _
  have e4 : (u3.alloc (.cells #[.slice (some ⟨f1, g1, none⟩) regs.length h1, .int .i64 pc, .slice (some ⟨f2, g2, none⟩) mem.length h2, .int .i64 save, .bool lets, .bool waits, .int .i64 halt, .slice (some ⟨f3, g3, none⟩) ins.length h3, .slice (some ⟨f4, 0, none⟩) outs.length h4, .int .i64 count] 30)).heap.size = u3.heap.size + 1 := by simp
  have RP := And.intro (Rec.new (u3.alloc (.cells #[.slice (some ⟨f1, g1, none⟩) regs.length h1, .int .i64 pc, .slice (some ⟨f2, g2, none⟩) mem.length h2, .int .i64 save, .bool lets, .bool waits, .int .i64 halt, .slice (some ⟨f3, g3, none⟩) ins.length h3, .slice (some ⟨f4, 0, none⟩) outs.length h4, .int .i64 count] 30)) [.int .i64 bp, .int .i64 ln, .slice qa ops.length cap, .int .i64 en, .int .i64 bx, .int .i64 by_, .int .i64 bk, .pointer (some ⟨u3.heap.size, 0, none⟩), .slice none 0 0] 58) (IsT.new (u3.alloc (.cells #[.slice (some ⟨f1, g1, none⟩) regs.length h1, .int .i64 pc, .slice (some ⟨f2, g2, none⟩) mem.length h2, .int .i64 save, .bool lets, .bool waits, .int .i64 halt, .slice (some ⟨f3, g3, none⟩) ins.length h3, .slice (some ⟨f4, 0, none⟩) outs.length h4, .int .i64 count] 30)) #[.int .i64 bp, .int .i64 ln, .slice qa ops.length cap, .int .i64 en, .int .i64 bx, .int .i64 by_, .int .i64 bk, .pointer (some ⟨u3.heap.size, 0, none⟩), .slice none 0 0] 58)
  rw [e4] at RP
  have PG : Hid (Psg ((u3.alloc (.cells #[.slice (some ⟨f1, g1, none⟩) regs.length h1, .int .i64 pc, .slice (some ⟨f2, g2, none⟩) mem.length h2, .int .i64 save, .bool lets, .bool waits, .int .i64 halt, .slice (some ⟨f3, g3, none⟩) ins.length h3, .slice (some ⟨f4, 0, none⟩) outs.length h4, .int .i64 count] 30)).alloc (.cells #[.int .i64 bp, .int .i64 ln, .slice qa ops.length cap, .int .i64 en, .int .i64 bx, .int .i64 by_, .int .i64 bk, .pointer (some ⟨u3.heap.size, 0, none⟩), .slice none 0 0] 58)) u2.heap.size (u3.heap.size + 1) u3.heap.size ⟨bp, ln, ops, en, bx, by_, bk⟩ qa cap (.slice none 0 0) [.slice (some ⟨f1, g1, none⟩) regs.length h1, .int .i64 pc, .slice (some ⟨f2, g2, none⟩) mem.length h2, .int .i64 save, .bool lets, .bool waits, .int .i64 halt, .slice (some ⟨f3, g3, none⟩) ins.length h3, .slice (some ⟨f4, 0, none⟩) outs.length h4, .int .i64 count] ⟨regs, pc, mem, save, lets, waits, halt, ins, outs, count⟩ []) := ⟨RP.1, RP.2, RX.out.1.below bo4, RX.out.2.below bo4, HC2.out.below bo4, ⟨by simp [vals], Or.inl ⟨rfl, rfl⟩⟩, (fun g n k e => by cases e), by have := U3.out; omega, U3.out.2, by have := U3.out; simp; omega⟩
  have RZ := hide (And.intro (T2.out.o.below bo4) (ZT.out.below bo4))
  have BW := hide (T2.out.bw.trans (bo4.mono T2.out.bw.size))
  have OR := hide (HR.out.below BW.out)
  have BL : Hid (ops = [] ∨ B < u2.heap.size) := (row_lt HR.out).imp id (fun h => Nat.lt_of_lt_of_le h U3.out.1)
  have MO : Hid (outs.length ≤ 2000000) := MID.out.2.2.2
  have GL : Hid (2 < w.heap.size) := cell_lt HG.out
  clear bo4 e4 RP RX T2 ZT HC2 HR bz bl mh mp mt x0 x1 x2 x3 x4 x5 x6 x7 x8 x9 b0 b1 b2 b3 b4 b5 b6 e1' e2' e3'
  generalize ((u3.alloc (.cells #[.slice (some ⟨f1, g1, none⟩) regs.length h1, .int .i64 pc, .slice (some ⟨f2, g2, none⟩) mem.length h2, .int .i64 save, .bool lets, .bool waits, .int .i64 halt, .slice (some ⟨f3, g3, none⟩) ins.length h3, .slice (some ⟨f4, 0, none⟩) outs.length h4, .int .i64 count] 30)).alloc (.cells #[.int .i64 bp, .int .i64 ln, .slice qa ops.length cap, .int .i64 en, .int .i64 bx, .int .i64 by_, .int .i64 bk, .pointer (some ⟨u3.heap.size, 0, none⟩), .slice none 0 0] 58)) = v0 at PG RZ BW OR ⊢
  refine (through _ _ _ _ B _ _ _ _ _ PG.out OR.out BL.out OB.out IV0.out MO.out).mono ?_
  have NXT : ∀ (mm : M) (c' : List Value) (wv : Value) (vs : List Int) (v2 : World), R = mm → Psg v2 u2.heap.size (u3.heap.size + 1) u3.heap.size ⟨bp, ln, ops, en, bx, by_, bk⟩ qa cap wv c' mm vs → Below u2.heap.size v0 v2 → True := fun _ _ _ _ _ _ _ _ => trivial
  clear NXT

  rintro e v1 ⟨hb1, ⟨wv, c2, m2, vs, rfl, PS1, hrun, hinv, hlen, hcn⟩ | ⟨t, wv, c2, m2, vs, rfl, PS1, hrun, ht, hcn⟩ | ⟨t, wv, c2, m2, vs, rfl, PS1, hrun, ht, hcn, hhl⟩⟩
  · have RD := RL.out.trans hrun
    have hcn' : m2.count = count := hcn
    go_wp2_with fail
    refine (leave_nil _ _ _ _ _ _ _ _ _ _ v1 PS1 EN.out hlen hinv.vw p0 p64 (show (0 : Int) ≤ ln by omega) l8 (by omega) (by omega)).mono ?_
    rintro e v2 ⟨rfl, ⟨c', PV⟩, hb2⟩
    obtain ⟨mm, em⟩ : ∃ mm, { m2 with pc := goM ⟨bp, ln, ops, en, bx, by_, bk⟩ vs, count := m2.count + ln } = mm := ⟨_, rfl⟩
    rw [em] at PV RD
    clear em
    obtain ⟨i1, j1, e1, i2, j2, e2, i3, j3, e3, i4, e4, rfl⟩ := forms PV.mach
    simp only [mv] at PV
    have HV := hide PV
    have BL2 := hide (hb1.trans hb2)
    have BW2 := hide (BW.out.trans (BL2.out.mono U3.out.1))
    have ZB : Hid (Box (w.heap.size + 1 + 1) 30 [.slice none 0 0, .int .i64 0, .slice none 0 0, .int .i64 0, .bool false, .bool false, .int .i64 0, .slice none 0 0, .slice none 0 0, .int .i64 0] v2) := ⟨rec_low RZ.out.1 BL2.out NX.out, isT_low RZ.out.2 BL2.out NX.out⟩
    have ZN : Hid (w.heap.size + 1 + 1 ∉ mb [.slice (some ⟨i1, j1, none⟩) mm.regs.length e1, .int .i64 mm.pc, .slice (some ⟨i2, j2, none⟩) mm.mem.length e2, .int .i64 mm.save, .bool mm.lets, .bool mm.waits, .int .i64 mm.halt, .slice (some ⟨i3, j3, none⟩) mm.ins.length e3, .slice (some ⟨i4, 0, none⟩) mm.outs.length e4, .int .i64 mm.count]) := fun e => (ZB.out.t.ne (HV.out.mach.mb_int _ e) mach_int) rfl
    have RD2 := hide RD
    clear RD PV hb1 hb2 RZ BW PS1
    have y0 := HV.out.z.cell 0 _ rfl
    have y1 := HV.out.z.cell 1 _ rfl
    have y2 := HV.out.z.cell 2 _ rfl
    have y3 := HV.out.z.cell 3 _ rfl
    have y4 := HV.out.z.cell 4 _ rfl
    have y5 := HV.out.z.cell 5 _ rfl
    have y6 := HV.out.z.cell 6 _ rfl
    have y7 := HV.out.z.cell 7 _ rfl
    have y8 := HV.out.z.cell 8 _ rfl
    have y9 := HV.out.z.cell 9 _ rfl
    go_wp2_with (refine wpList_lay rfl rfl _ _ rfl (w.heap.size + 1 + 1) _ _ _ _ _ _ _ _ _ _ ZB.out rfl _ _ _ _ _ _ _ _ _ _ _ _ _ _ _ _ _ _ rfl ?_; intro u9 RB TB; refine Hid.out ?_)
    have HC9 := hide ((HV.out.mach.turnI TB.out ZN.out).lowI U3.out.1)
    have BW9 := hide (BW2.out.trans (TB.out.below (by omega) (Nat.le_trans (Nat.le_refl _) BW2.out.size)))
    have z0 := RB.out.r.cell 0 _ rfl
    have z1 := RB.out.r.cell 1 _ rfl
    have z2 := RB.out.r.cell 2 _ rfl
    have z3 := RB.out.r.cell 3 _ rfl
    have z4 := RB.out.r.cell 4 _ rfl
    have z5 := RB.out.r.cell 5 _ rfl
    have z6 := RB.out.r.cell 6 _ rfl
    have z7 := RB.out.r.cell 7 _ rfl
    have z8 := RB.out.r.cell 8 _ rfl
    have z9 := RB.out.r.cell 9 _ rfl
    clear RB TB HV ZB ZN BL2 BW2 y0 y1 y2 y3 y4 y5 y6 y7 y8 y9
    refine hide ?_
    go_wp2
    exact bodyPost_ret (v := .tuple #[.agg #[.slice (some ⟨i1, j1, none⟩) mm.regs.length e1, .int .i64 mm.pc, .slice (some ⟨i2, j2, none⟩) mm.mem.length e2, .int .i64 mm.save, .bool mm.lets, .bool mm.waits, .int .i64 mm.halt, .slice (some ⟨i3, j3, none⟩) mm.ins.length e3, .slice (some ⟨i4, 0, none⟩) mm.outs.length e4, .int .i64 mm.count], .bool kk]) (by rw [EQ.out]; simp [results, Tryz.results9, go_sem, z0, z1, z2, z3, z4, z5, z6, z7, z8, z9]) rfl ⟨IR.out [.slice (some ⟨i1, j1, none⟩) mm.regs.length e1, .int .i64 mm.pc, .slice (some ⟨i2, j2, none⟩) mm.mem.length e2, .int .i64 mm.save, .bool mm.lets, .bool mm.waits, .int .i64 mm.halt, .slice (some ⟨i3, j3, none⟩) mm.ins.length e3, .slice (some ⟨i4, 0, none⟩) mm.outs.length e4, .int .i64 mm.count] _ (fun e => by rw [BOTH.out] at e; cases e) (fun _ => by rw [RD2.out]; exact HC9.out), BW9.out⟩
  · have RD := RL.out.trans hrun
    have hcn' : m2.count = count := hcn
    go_wp2_with fail
    refine (leave_missed _ _ _ _ _ _ _ _ _ _ v1 PS1 t ht.1 ht.2 (show v1.cell? ⟨2, 0, none⟩ = some (.iface 118 (.agg #[.pointer (some ⟨3, 61, none⟩)])) from (World.cell?_of_block (w := w) ((BW.out.trans (hb1.mono U3.out.1)).block _ GL.out)).trans HG.out) p0 p64 (by omega) (by omega)).mono ?_
    rintro e v2 ⟨rfl, ⟨c', PV⟩, hb2⟩
    obtain ⟨mm, em⟩ : ∃ mm, leaveM m2 bp t 3 = mm := ⟨_, rfl⟩
    rw [em] at PV RD
    clear em
    obtain ⟨i1, j1, e1, i2, j2, e2, i3, j3, e3, i4, e4, rfl⟩ := forms PV.mach
    simp only [mv] at PV
    have HV := hide PV
    have BL2 := hide (hb1.trans hb2)
    have BW2 := hide (BW.out.trans (BL2.out.mono U3.out.1))
    have ZB : Hid (Box (w.heap.size + 1 + 1) 30 [.slice none 0 0, .int .i64 0, .slice none 0 0, .int .i64 0, .bool false, .bool false, .int .i64 0, .slice none 0 0, .slice none 0 0, .int .i64 0] v2) := ⟨rec_low RZ.out.1 BL2.out NX.out, isT_low RZ.out.2 BL2.out NX.out⟩
    have ZN : Hid (w.heap.size + 1 + 1 ∉ mb [.slice (some ⟨i1, j1, none⟩) mm.regs.length e1, .int .i64 mm.pc, .slice (some ⟨i2, j2, none⟩) mm.mem.length e2, .int .i64 mm.save, .bool mm.lets, .bool mm.waits, .int .i64 mm.halt, .slice (some ⟨i3, j3, none⟩) mm.ins.length e3, .slice (some ⟨i4, 0, none⟩) mm.outs.length e4, .int .i64 mm.count]) := fun e => (ZB.out.t.ne (HV.out.mach.mb_int _ e) mach_int) rfl
    have RD2 := hide RD
    clear RD PV hb1 hb2 RZ BW PS1
    have y0 := HV.out.z.cell 0 _ rfl
    have y1 := HV.out.z.cell 1 _ rfl
    have y2 := HV.out.z.cell 2 _ rfl
    have y3 := HV.out.z.cell 3 _ rfl
    have y4 := HV.out.z.cell 4 _ rfl
    have y5 := HV.out.z.cell 5 _ rfl
    have y6 := HV.out.z.cell 6 _ rfl
    have y7 := HV.out.z.cell 7 _ rfl
    have y8 := HV.out.z.cell 8 _ rfl
    have y9 := HV.out.z.cell 9 _ rfl
    go_wp2_with (refine wpList_lay rfl rfl _ _ rfl (w.heap.size + 1 + 1) _ _ _ _ _ _ _ _ _ _ ZB.out rfl _ _ _ _ _ _ _ _ _ _ _ _ _ _ _ _ _ _ rfl ?_; intro u9 RB TB; refine Hid.out ?_)
    have HC9 := hide ((HV.out.mach.turnI TB.out ZN.out).lowI U3.out.1)
    have BW9 := hide (BW2.out.trans (TB.out.below (by omega) (Nat.le_trans (Nat.le_refl _) BW2.out.size)))
    have z0 := RB.out.r.cell 0 _ rfl
    have z1 := RB.out.r.cell 1 _ rfl
    have z2 := RB.out.r.cell 2 _ rfl
    have z3 := RB.out.r.cell 3 _ rfl
    have z4 := RB.out.r.cell 4 _ rfl
    have z5 := RB.out.r.cell 5 _ rfl
    have z6 := RB.out.r.cell 6 _ rfl
    have z7 := RB.out.r.cell 7 _ rfl
    have z8 := RB.out.r.cell 8 _ rfl
    have z9 := RB.out.r.cell 9 _ rfl
    clear RB TB HV ZB ZN BL2 BW2 y0 y1 y2 y3 y4 y5 y6 y7 y8 y9
    refine hide ?_
    go_wp2
    exact bodyPost_ret (v := .tuple #[.agg #[.slice (some ⟨i1, j1, none⟩) mm.regs.length e1, .int .i64 mm.pc, .slice (some ⟨i2, j2, none⟩) mm.mem.length e2, .int .i64 mm.save, .bool mm.lets, .bool mm.waits, .int .i64 mm.halt, .slice (some ⟨i3, j3, none⟩) mm.ins.length e3, .slice (some ⟨i4, 0, none⟩) mm.outs.length e4, .int .i64 mm.count], .bool kk]) (by rw [EQ.out]; simp [results, Tryz.results9, go_sem, z0, z1, z2, z3, z4, z5, z6, z7, z8, z9]) rfl ⟨IR.out [.slice (some ⟨i1, j1, none⟩) mm.regs.length e1, .int .i64 mm.pc, .slice (some ⟨i2, j2, none⟩) mm.mem.length e2, .int .i64 mm.save, .bool mm.lets, .bool mm.waits, .int .i64 mm.halt, .slice (some ⟨i3, j3, none⟩) mm.ins.length e3, .slice (some ⟨i4, 0, none⟩) mm.outs.length e4, .int .i64 mm.count] _ (fun e => by rw [BOTH.out] at e; cases e) (fun _ => by rw [RD2.out]; exact HC9.out), BW9.out⟩
  · have RD := RL.out.trans hrun
    have hcn' : m2.count = count := hcn
    have hh0 : m2.halt = 0 := hhl.trans H0.out
    go_wp2_with fail
    refine (leave_over _ _ _ _ _ _ _ _ _ _ v1 PS1 t ht.1 ht.2 (show v1.cell? ⟨2, 0, none⟩ = some (.iface 118 (.agg #[.pointer (some ⟨3, 61, none⟩)])) from (World.cell?_of_block (w := w) ((BW.out.trans (hb1.mono U3.out.1)).block _ GL.out)).trans HG.out) hh0 p0 p64 (by omega) (by omega)).mono ?_
    rintro e v2 ⟨rfl, ⟨c', PV⟩, hb2⟩
    obtain ⟨mm, em⟩ : ∃ mm, leaveM m2 bp (t + 1) 0 = mm := ⟨_, rfl⟩
    rw [em] at PV RD
    clear em
    obtain ⟨i1, j1, e1, i2, j2, e2, i3, j3, e3, i4, e4, rfl⟩ := forms PV.mach
    simp only [mv] at PV
    have HV := hide PV
    have BL2 := hide (hb1.trans hb2)
    have BW2 := hide (BW.out.trans (BL2.out.mono U3.out.1))
    have ZB : Hid (Box (w.heap.size + 1 + 1) 30 [.slice none 0 0, .int .i64 0, .slice none 0 0, .int .i64 0, .bool false, .bool false, .int .i64 0, .slice none 0 0, .slice none 0 0, .int .i64 0] v2) := ⟨rec_low RZ.out.1 BL2.out NX.out, isT_low RZ.out.2 BL2.out NX.out⟩
    have ZN : Hid (w.heap.size + 1 + 1 ∉ mb [.slice (some ⟨i1, j1, none⟩) mm.regs.length e1, .int .i64 mm.pc, .slice (some ⟨i2, j2, none⟩) mm.mem.length e2, .int .i64 mm.save, .bool mm.lets, .bool mm.waits, .int .i64 mm.halt, .slice (some ⟨i3, j3, none⟩) mm.ins.length e3, .slice (some ⟨i4, 0, none⟩) mm.outs.length e4, .int .i64 mm.count]) := fun e => (ZB.out.t.ne (HV.out.mach.mb_int _ e) mach_int) rfl
    have RD2 := hide RD
    clear RD PV hb1 hb2 RZ BW PS1
    have y0 := HV.out.z.cell 0 _ rfl
    have y1 := HV.out.z.cell 1 _ rfl
    have y2 := HV.out.z.cell 2 _ rfl
    have y3 := HV.out.z.cell 3 _ rfl
    have y4 := HV.out.z.cell 4 _ rfl
    have y5 := HV.out.z.cell 5 _ rfl
    have y6 := HV.out.z.cell 6 _ rfl
    have y7 := HV.out.z.cell 7 _ rfl
    have y8 := HV.out.z.cell 8 _ rfl
    have y9 := HV.out.z.cell 9 _ rfl
    go_wp2_with (refine wpList_lay rfl rfl _ _ rfl (w.heap.size + 1 + 1) _ _ _ _ _ _ _ _ _ _ ZB.out rfl _ _ _ _ _ _ _ _ _ _ _ _ _ _ _ _ _ _ rfl ?_; intro u9 RB TB; refine Hid.out ?_)
    have HC9 := hide ((HV.out.mach.turnI TB.out ZN.out).lowI U3.out.1)
    have BW9 := hide (BW2.out.trans (TB.out.below (by omega) (Nat.le_trans (Nat.le_refl _) BW2.out.size)))
    have z0 := RB.out.r.cell 0 _ rfl
    have z1 := RB.out.r.cell 1 _ rfl
    have z2 := RB.out.r.cell 2 _ rfl
    have z3 := RB.out.r.cell 3 _ rfl
    have z4 := RB.out.r.cell 4 _ rfl
    have z5 := RB.out.r.cell 5 _ rfl
    have z6 := RB.out.r.cell 6 _ rfl
    have z7 := RB.out.r.cell 7 _ rfl
    have z8 := RB.out.r.cell 8 _ rfl
    have z9 := RB.out.r.cell 9 _ rfl
    clear RB TB HV ZB ZN BL2 BW2 y0 y1 y2 y3 y4 y5 y6 y7 y8 y9
    refine hide ?_
    go_wp2
    exact bodyPost_ret (v := .tuple #[.agg #[.slice (some ⟨i1, j1, none⟩) mm.regs.length e1, .int .i64 mm.pc, .slice (some ⟨i2, j2, none⟩) mm.mem.length e2, .int .i64 mm.save, .bool mm.lets, .bool mm.waits, .int .i64 mm.halt, .slice (some ⟨i3, j3, none⟩) mm.ins.length e3, .slice (some ⟨i4, 0, none⟩) mm.outs.length e4, .int .i64 mm.count], .bool kk]) (by rw [EQ.out]; simp [results, Tryz.results9, go_sem, z0, z1, z2, z3, z4, z5, z6, z7, z8, z9]) rfl ⟨IR.out [.slice (some ⟨i1, j1, none⟩) mm.regs.length e1, .int .i64 mm.pc, .slice (some ⟨i2, j2, none⟩) mm.mem.length e2, .int .i64 mm.save, .bool mm.lets, .bool mm.waits, .int .i64 mm.halt, .slice (some ⟨i3, j3, none⟩) mm.ins.length e3, .slice (some ⟨i4, 0, none⟩) mm.outs.length e4, .int .i64 mm.count] _ (fun e => by rw [BOTH.out] at e; cases e) (fun _ => by rw [RD2.out]; exact HC9.out), BW9.out⟩

end Go.Proofs.YtaokopipgolmbaaGreatDoor.Ir
