/-
  Draws: a machine, and whether an interrupt comes (DrawMchStep); a machine, ahead of which instructions interrupts come, and how many there are (DrawMchRun).
-/
import Derived.Test.YtnhpmbhphbphaaaGreatDrawMa
import Derived.Test.YtnhpmbhphbphaaaGreatPhaseN
namespace Go.Proofs.YtnhpmbhphbphaaaGreat.Draw
set_option linter.unusedVariables false
set_option linter.unusedSimpArgs false
open Go.ChangeShapes Go.WideShapes Go.ChangeAt Go.RowKit Flat
open IntS (Turn hide cell_below Row WRow IsT Own)
open Mch (Rec Box M mv RMach WMach CMach AMach IsR okM mach_int Near)
open Blk (OwnN)
/-- What DrawMchStep draws. -/
structure StepDrawn (w : World) (e : Ending) (w' : World) : Prop where
  ex : ∃ (c : List Value) (m : M) (b : Bool), e = .returned (.tuple #[.agg c.toArray, .bool b]) ∧ CMach w' w.heap.size c m ∧ Fit2 m ∧ Below w.heap.size w w'
/-- What DrawMchRun draws. -/
structure RunDrawn (w : World) (e : Ending) (w' : World) : Prop where
  ex : ∃ (c : List Value) (m : M) (qi : Option Addr) (li ci : Nat) (xs : List Int) (n : Int) (B : Nat), e = .returned (.tuple #[.agg c.toArray, .slice qi li ci, .int .i64 n]) ∧ CMach w' w.heap.size c m ∧ Fit2 m ∧ Row w' B (.slice qi li ci) xs ∧ xs.length = li ∧ li ≤ 4 ∧ (-1 ≤ n ∧ n ≤ 401) ∧ Below w.heap.size w w'

set_option maxRecDepth 8000 in
set_option maxHeartbeats 16000000 in
theorem drawStep (a : Option Addr) (len cap : Nat) (w : World) (hlc : len ≤ cap) (hm : cap ≤ maxLen) (hc : Code w a len) :
    Calls Tryz.prog 14 #[.slice a len cap] w fun e w' => StepDrawn w e w' := by
  have Z0 := hide (Box.new w [.slice none 0 0, .int .i64 0, .slice none 0 0, .int .i64 0, .bool false, .bool false, .int .i64 0, .slice none 0 0, .slice none 0 0, .int .i64 0] 25)
  have B0 : Hid (Below w.heap.size w (w.alloc (.cells #[.slice none 0 0, .int .i64 0, .slice none 0 0, .int .i64 0, .bool false, .bool false, .int .i64 0, .slice none 0 0, .slice none 0 0, .int .i64 0] 25))) := (Below.refl _ _).alloc (Nat.le_refl _) _
  have S0 : Hid (w.heap.size < (w.alloc (.cells #[.slice none 0 0, .int .i64 0, .slice none 0 0, .int .i64 0, .bool false, .bool false, .int .i64 0, .slice none 0 0, .slice none 0 0, .int .i64 0] 25)).heap.size) := by simp [Hid]
  have HC := hide (hc.below B0.out)
  clear hc
  go_enter Tryz.func14, Tryz.ntmps14
  go_wp2_with fail
  generalize (w.alloc (.cells #[.slice none 0 0, .int .i64 0, .slice none 0 0, .int .i64 0, .bool false, .bool false, .int .i64 0, .slice none 0 0, .slice none 0 0, .int .i64 0] 25)) = va at Z0 B0 S0 HC ⊢
  refine (openRd a len cap va hlc hm HC.out).mono ?_
  rintro e vb ⟨R, rfl, hR, h1, hb⟩
  replace Z0 := hide (Z0.out.below hb)
  have K0 := hide (B0.out.trans (hb.mono (by have := S0.out; omega)))
  have RW : Hid (w.heap.size < R) := Nat.lt_of_lt_of_le S0.out hR
  have H1 := hide h1
  clear HC hb h1 B0 hm hlc hR
  go_wp2_with fail
  refine (machOr R 0 14 vb H1.out (by omega) (by omega) (by omega)).mono ?_
  rintro e vc ⟨c, m, rfl, MC, MF, h1, k1⟩
  have SW : Hid (w.heap.size ≤ vb.heap.size ∧ R < vb.heap.size) := ⟨K0.out.size, H1.out.lt⟩
  replace Z0 := hide (box_keep Z0.out k1 (by have := RW.out; omega))
  replace K0 := hide (K0.out.trans (k1.below (by have := RW.out; omega) SW.out.1))
  replace H1 := hide h1
  clear h1 k1
  obtain ⟨f1, g1, j1, f2, g2, j2, f3, g3, j3, f4, j4, rfl⟩ := Mch.forms MC
  obtain ⟨regs, pc, mem, save, lets, waits, halt, ins, outs, count⟩ := m
  simp only [mv] at MC ⊢
  have MF := hide MF
  have XS : Hid (w.heap.size < vc.heap.size) := Z0.out.r.lt
  have RX : Hid (R ≠ vc.heap.size ∧ R < vc.heap.size) := ⟨by have := H1.out.lt; omega, H1.out.lt⟩
  have bX : Below vc.heap.size vc (vc.alloc (.cells #[.slice (some ⟨f1, g1, none⟩) regs.length j1, .int .i64 pc, .slice (some ⟨f2, g2, none⟩) mem.length j2, .int .i64 save, .bool lets, .bool waits, .int .i64 halt, .slice (some ⟨f3, g3, none⟩) ins.length j3, .slice (some ⟨f4, 0, none⟩) outs.length j4, .int .i64 count] 25)) := (Below.refl _ _).alloc (Nat.le_refl _) _
  have XB := hide (Box.new vc [.slice (some ⟨f1, g1, none⟩) regs.length j1, .int .i64 pc, .slice (some ⟨f2, g2, none⟩) mem.length j2, .int .i64 save, .bool lets, .bool waits, .int .i64 halt, .slice (some ⟨f3, g3, none⟩) ins.length j3, .slice (some ⟨f4, 0, none⟩) outs.length j4, .int .i64 count] 25)
  have MC := hide (MC.below bX)
  replace Z0 := hide (Z0.out.below bX)
  replace H1 := hide (H1.out.below (bX.mono (by have := H1.out.lt; omega)))
  replace K0 := hide (K0.out.trans (bX.mono K0.out.size))
  clear bX
  go_wp2_with fail
  generalize vc.alloc (.cells #[.slice (some ⟨f1, g1, none⟩) regs.length j1, .int .i64 pc, .slice (some ⟨f2, g2, none⟩) mem.length j2, .int .i64 save, .bool lets, .bool waits, .int .i64 halt, .slice (some ⟨f3, g3, none⟩) ins.length j3, .slice (some ⟨f4, 0, none⟩) outs.length j4, .int .i64 count] 25) = vd at XB MC Z0 H1 K0 ⊢
  generalize vc.heap.size = X at XB XS RX ⊢
  refine (wpIn_wide (n := 0)).1 ?_
  have bA : Below vd.heap.size vd vd.drew := (Below.refl _ _).drew
  replace XB := hide (XB.out.below bA)
  replace MC := hide (MC.out.below bA)
  replace Z0 := hide (Z0.out.below bA)
  replace H1 := hide (H1.out.below (bA.mono (by have := H1.out.lt; omega)))
  replace K0 := hide (K0.out.trans (bA.mono K0.out.size))
  clear bA
  refine PhaseN.region (S := fun v => Box X 25 [.slice (some ⟨f1, g1, none⟩) regs.length j1, .int .i64 pc, .slice (some ⟨f2, g2, none⟩) mem.length j2, .int .i64 save, .bool lets, .bool waits, .int .i64 halt, .slice (some ⟨f3, g3, none⟩) ins.length j3, .slice (some ⟨f4, 0, none⟩) outs.length j4, .int .i64 count] v) (fun i => [0, 1, 2, 3].contains i) (by kernel_rfl) ?_
  generalize vd.drew = d1 at XB MC Z0 H1 K0 ⊢
  have hHeld := XB.out
  clear XB
  refine PhaseN.takeD (i := 0) (v := ?_) [0, 4, 5] 10 rfl (by rfl) (by kernel_rfl) (by kernel_rfl) (by kernel_rfl) (by kernel_rfl) (by kernel_rfl) (fun _ _ _ h => h) (Or.inl ⟨by kernel_rfl, ?_⟩) hHeld ?_
  rotate_left
  · intro w' hSw
    (try dsimp only at hSw)
    have z0 := hSw.r.cell 0 _ rfl
    have z1 := hSw.r.cell 1 _ rfl
    have z2 := hSw.r.cell 2 _ rfl
    have z3 := hSw.r.cell 3 _ rfl
    have z4 := hSw.r.cell 4 _ rfl
    have z5 := hSw.r.cell 5 _ rfl
    have z6 := hSw.r.cell 6 _ rfl
    have z7 := hSw.r.cell 7 _ rfl
    have z8 := hSw.r.cell 8 _ rfl
    have z9 := hSw.r.cell 9 _ rfl
    go_simp
    first | done | with_reducible rfl
  try simp only [Act.put, List.setIfInBounds_toArray, List.set]
  refine PhaseN.takeD (i := 1) (v := ?_) [1, 2, 3, 4, 5] 11 rfl (by rfl) (by kernel_rfl) (by kernel_rfl) (by kernel_rfl) (by kernel_rfl) (by kernel_rfl) (fun _ _ _ h => h) (Or.inl ⟨by kernel_rfl, ?_⟩) hHeld ?_
  rotate_left
  · intro w' hSw
    (try dsimp only at hSw)
    go_simp
    first | done | with_reducible rfl
  try simp only [Act.put, List.setIfInBounds_toArray, List.set]
  refine PhaseN.one (i := 2) (by kernel_rfl) rfl (by kernel_rfl) (fun K hK => ?_)
  unfold Oper.wpIn
  refine ⟨fun _ _ => trivial, ?_⟩
  go_simp
  refine ⟨rfl, (callsIn_wide.2 (pick R (0 + 4000) 3 d1 H1.out (by omega))).mono ?_⟩
  rintro e d2 ⟨y, rfl, y0, y1, -, h2, k2⟩
  replace hHeld := box_keep hHeld k2 (by have := RX.out.1; omega)
  replace Z0 := hide (box_keep Z0.out k2 (by have := RW.out; omega))
  have FIN : Hid (CMach d2 w.heap.size (mv ⟨regs, pc, mem, save, lets, waits, halt, ins, outs, count⟩ (.slice (some ⟨f1, g1, none⟩) regs.length j1) (.slice (some ⟨f2, g2, none⟩) mem.length j2) (.slice (some ⟨f3, g3, none⟩) ins.length j3) (.slice (some ⟨f4, 0, none⟩) outs.length j4)) ⟨regs, pc, mem, save, lets, waits, halt, ins, outs, count⟩ ∧ Below w.heap.size w d2) := ⟨(cm_keep MC.out SW.out.2 k2).lowA SW.out.1, K0.out.trans (k2.below (by have := RW.out; omega) K0.out.size)⟩
  clear H1 h2 k2 MC K0
  refine hK _ _ (fun _ _ => hHeld) ?_
  clear hK K
  try simp only [Act.put, List.setIfInBounds_toArray, List.set]
  refine PhaseN.takeP (i := 3) (v := ?_) 13 rfl (by rfl) (by kernel_rfl) (by kernel_rfl) (by kernel_rfl) (fun _ _ _ h => h) (Or.inl ⟨by kernel_rfl, ?_⟩) ?_
  rotate_left
  · intro w' hSw
    go_simp
    first | done | with_reducible rfl
  try simp only [Act.put, List.setIfInBounds_toArray, List.set]
  refine PhaseN.one (i := 4) (by kernel_rfl) rfl (by kernel_rfl) (fun K hK => ?_)
  refine layInM _ _ rfl w.heap.size _ _ _ _ _ _ _ _ _ _ Z0.out rfl _ _ _ _ _ _ _ _ _ _ _ _ _ _ _ _ _ _ rfl ?_
  intro ug XN TX
  have FIN2 : Hid (CMach ug w.heap.size (mv ⟨regs, pc, mem, save, lets, waits, halt, ins, outs, count⟩ (.slice (some ⟨f1, g1, none⟩) regs.length j1) (.slice (some ⟨f2, g2, none⟩) mem.length j2) (.slice (some ⟨f3, g3, none⟩) ins.length j3) (.slice (some ⟨f4, 0, none⟩) outs.length j4)) ⟨regs, pc, mem, save, lets, waits, halt, ins, outs, count⟩ ∧ Below w.heap.size w ug) := ⟨CMach.turn FIN.out.1 Z0.out.t mach_int TX.out, FIN.out.2.trans (TX.out.below (Nat.le_refl _) FIN.out.2.size)⟩
  clear FIN hHeld Z0 TX
  refine hK _ _ (fun h => absurd h (by decide)) ?_
  clear hK K
  try simp only [Act.put, List.setIfInBounds_toArray, List.set]
  refine PhaseN.takeP (i := 5) (v := ?_) 3 rfl (by rfl) (by kernel_rfl) (by kernel_rfl) (by kernel_rfl) (fun _ _ _ h => h) (Or.inl ⟨by kernel_rfl, ?_⟩) ?_
  rotate_left
  · intro w' hSw
    go_simp
    first | done | with_reducible rfl
  try simp only [Act.put, List.setIfInBounds_toArray, List.set]
  refine PhaseN.done (by kernel_rfl) ?_ _
  have z0 := XN.out.r.cell 0 _ rfl
  have z1 := XN.out.r.cell 1 _ rfl
  have z2 := XN.out.r.cell 2 _ rfl
  have z3 := XN.out.r.cell 3 _ rfl
  have z4 := XN.out.r.cell 4 _ rfl
  have z5 := XN.out.r.cell 5 _ rfl
  have z6 := XN.out.r.cell 6 _ rfl
  have z7 := XN.out.r.cell 7 _ rfl
  have z8 := XN.out.r.cell 8 _ rfl
  have z9 := XN.out.r.cell 9 _ rfl
  clear XN
  go_wp2_with fail
  exact bodyPost_ret (v := .tuple #[.agg #[.slice (some ⟨f1, g1, none⟩) regs.length j1, .int .i64 pc, .slice (some ⟨f2, g2, none⟩) mem.length j2, .int .i64 save, .bool lets, .bool waits, .int .i64 halt, .slice (some ⟨f3, g3, none⟩) ins.length j3, .slice (some ⟨f4, 0, none⟩) outs.length j4, .int .i64 count], .bool (y == 0)]) (by simp [results, Tryz.results14, go_sem, z0, z1, z2, z3, z4, z5, z6, z7, z8, z9]) rfl ⟨_, _, _, rfl, FIN2.out.1, MF.out, FIN2.out.2⟩
set_option maxRecDepth 8000 in
set_option maxHeartbeats 16000000 in
theorem drawRun (a : Option Addr) (len cap : Nat) (w : World) (hlc : len ≤ cap) (hm : cap ≤ maxLen) (hc : Code w a len) :
    Calls Tryz.prog 22 #[.slice a len cap] w fun e w' => RunDrawn w e w' := by
  have Z0 := hide (Box.new w [.slice none 0 0, .int .i64 0, .slice none 0 0, .int .i64 0, .bool false, .bool false, .int .i64 0, .slice none 0 0, .slice none 0 0, .int .i64 0] 25)
  have B0 : Hid (Below w.heap.size w (w.alloc (.cells #[.slice none 0 0, .int .i64 0, .slice none 0 0, .int .i64 0, .bool false, .bool false, .int .i64 0, .slice none 0 0, .slice none 0 0, .int .i64 0] 25))) := (Below.refl _ _).alloc (Nat.le_refl _) _
  have S0 : Hid (w.heap.size < (w.alloc (.cells #[.slice none 0 0, .int .i64 0, .slice none 0 0, .int .i64 0, .bool false, .bool false, .int .i64 0, .slice none 0 0, .slice none 0 0, .int .i64 0] 25)).heap.size) := by simp [Hid]
  have HC := hide (hc.below B0.out)
  clear hc
  go_enter Tryz.func22, Tryz.ntmps22
  go_wp2_with fail
  generalize (w.alloc (.cells #[.slice none 0 0, .int .i64 0, .slice none 0 0, .int .i64 0, .bool false, .bool false, .int .i64 0, .slice none 0 0, .slice none 0 0, .int .i64 0] 25)) = va at Z0 B0 S0 HC ⊢
  refine (openRd a len cap va hlc hm HC.out).mono ?_
  rintro e vb ⟨R, rfl, hR, h1, hb⟩
  replace Z0 := hide (Z0.out.below hb)
  have K0 := hide (B0.out.trans (hb.mono (by have := S0.out; omega)))
  have RW : Hid (w.heap.size < R) := Nat.lt_of_lt_of_le S0.out hR
  have H1 := hide h1
  clear HC hb h1 B0 hm hlc hR
  go_wp2_with fail
  refine (machOr R 0 20 vb H1.out (by omega) (by omega) (by omega)).mono ?_
  rintro e vc ⟨c, m, rfl, MC, MF, h1, k1⟩
  have SW : Hid (w.heap.size ≤ vb.heap.size ∧ R < vb.heap.size) := ⟨K0.out.size, H1.out.lt⟩
  replace Z0 := hide (box_keep Z0.out k1 (by have := RW.out; omega))
  replace K0 := hide (K0.out.trans (k1.below (by have := RW.out; omega) SW.out.1))
  replace H1 := hide h1
  clear h1 k1
  obtain ⟨f1, g1, j1, f2, g2, j2, f3, g3, j3, f4, j4, rfl⟩ := Mch.forms MC
  obtain ⟨regs, pc, mem, save, lets, waits, halt, ins, outs, count⟩ := m
  simp only [mv] at MC ⊢
  have MF := hide MF
  have XS : Hid (w.heap.size < vc.heap.size) := Z0.out.r.lt
  have RX : Hid (R ≠ vc.heap.size ∧ R < vc.heap.size) := ⟨by have := H1.out.lt; omega, H1.out.lt⟩
  have bX : Below vc.heap.size vc (vc.alloc (.cells #[.slice (some ⟨f1, g1, none⟩) regs.length j1, .int .i64 pc, .slice (some ⟨f2, g2, none⟩) mem.length j2, .int .i64 save, .bool lets, .bool waits, .int .i64 halt, .slice (some ⟨f3, g3, none⟩) ins.length j3, .slice (some ⟨f4, 0, none⟩) outs.length j4, .int .i64 count] 25)) := (Below.refl _ _).alloc (Nat.le_refl _) _
  have XB := hide (Box.new vc [.slice (some ⟨f1, g1, none⟩) regs.length j1, .int .i64 pc, .slice (some ⟨f2, g2, none⟩) mem.length j2, .int .i64 save, .bool lets, .bool waits, .int .i64 halt, .slice (some ⟨f3, g3, none⟩) ins.length j3, .slice (some ⟨f4, 0, none⟩) outs.length j4, .int .i64 count] 25)
  have MC := hide (MC.below bX)
  replace Z0 := hide (Z0.out.below bX)
  replace H1 := hide (H1.out.below (bX.mono (by have := H1.out.lt; omega)))
  replace K0 := hide (K0.out.trans (bX.mono K0.out.size))
  clear bX
  go_wp2_with fail
  generalize vc.alloc (.cells #[.slice (some ⟨f1, g1, none⟩) regs.length j1, .int .i64 pc, .slice (some ⟨f2, g2, none⟩) mem.length j2, .int .i64 save, .bool lets, .bool waits, .int .i64 halt, .slice (some ⟨f3, g3, none⟩) ins.length j3, .slice (some ⟨f4, 0, none⟩) outs.length j4, .int .i64 count] 25) = vd at XB MC Z0 H1 K0 ⊢
  generalize vc.heap.size = X at XB XS RX ⊢
  refine (irqs R (0 + 4000) vd H1.out (by omega)).mono ?_
  rintro e ve ⟨qi, ci, li, xi, rfl, xl, xn, OI, h2, k2⟩
  replace XB := hide (box_keep XB.out k2 (by have := RX.out.1; omega))
  replace Z0 := hide (box_keep Z0.out k2 (by have := RW.out; omega))
  replace MC := hide (cm_keep MC.out SW.out.2 k2)
  have LI : Hid (R < vd.heap.size) := H1.out.lt
  replace K0 := hide (K0.out.trans (k2.below (by have := RW.out; omega) K0.out.size))
  replace H1 := hide h2
  replace OI := hide OI
  clear h2 k2
  go_wp2_with fail
  refine (pick R (0 + 4000 + 5) 60 ve H1.out (by omega)).mono ?_
  rintro e vf ⟨y, rfl, y0, y1, -, h2, k2⟩
  replace y1 := y1 (by omega)
  replace XB := hide (box_keep XB.out k2 (by have := RX.out.1; omega))
  replace Z0 := hide (box_keep Z0.out k2 (by have := RW.out; omega))
  replace MC := hide (cm_keep MC.out SW.out.2 k2)
  replace OI := hide (OwnF.turn OI.out k2.turn (Or.inl LI.out))
  replace K0 := hide (K0.out.trans (k2.below (by have := RW.out; omega) K0.out.size))
  replace H1 := hide h2
  clear h2 k2
  go_wp2_with fail
  refine (odd R (0 + 4000 + 5 + 1) 20 vf H1.out (by omega) (by omega) (by omega)).mono ?_
  rintro e vg ⟨b, rfl, h2, k2⟩
  replace XB := hide (box_keep XB.out k2 (by have := RX.out.1; omega))
  replace Z0 := hide (box_keep Z0.out k2 (by have := RW.out; omega))
  replace MC := hide (cm_keep MC.out SW.out.2 k2)
  replace OI := hide (OwnF.turn OI.out k2.turn (Or.inl LI.out))
  replace K0 := hide (K0.out.trans (k2.below (by have := RW.out; omega) K0.out.size))
  replace H1 := hide h2
  clear h2 k2
  have YB := hide (show -1 ≤ y ∧ y ≤ 401 by omega)
  clear y0 y1
  go_upto_if 18 with fail
  go_cut [8] (fun s8 wx => ∃ n : Int, s8 = .int .i64 n ∧ Hid (-1 ≤ n ∧ n ≤ 401) ∧ Hid (Box X 25 [.slice (some ⟨f1, g1, none⟩) regs.length j1, .int .i64 pc, .slice (some ⟨f2, g2, none⟩) mem.length j2, .int .i64 save, .bool lets, .bool waits, .int .i64 halt, .slice (some ⟨f3, g3, none⟩) ins.length j3, .slice (some ⟨f4, 0, none⟩) outs.length j4, .int .i64 count] wx) ∧ Hid (Box w.heap.size 25 [.slice none 0 0, .int .i64 0, .slice none 0 0, .int .i64 0, .bool false, .bool false, .int .i64 0, .slice none 0 0, .slice none 0 0, .int .i64 0] wx) ∧ Hid (CMach wx vb.heap.size (mv ⟨regs, pc, mem, save, lets, waits, halt, ins, outs, count⟩ (.slice (some ⟨f1, g1, none⟩) regs.length j1) (.slice (some ⟨f2, g2, none⟩) mem.length j2) (.slice (some ⟨f3, g3, none⟩) ins.length j3) (.slice (some ⟨f4, 0, none⟩) outs.length j4)) ⟨regs, pc, mem, save, lets, waits, halt, ins, outs, count⟩) ∧ Hid (OwnN wx vd.heap.size (.slice qi li ci) xi) ∧ Hid (Below w.heap.size w wx))
  case first =>
    cases b with
    | false =>
      go_wp2_with fail
      go_meet
      exact ⟨y, rfl, YB, XB, Z0, MC, OI, K0⟩
    | true =>
      have SE : Hid (R < vg.heap.size) := H1.out.lt
      have bo : Below vg.heap.size vg (vg.alloc (.cells #[.int .i64 (-1), .int .i64 400, .int .i64 401] 3)) := (Below.refl _ _).alloc (Nat.le_refl _) _
      replace XB := hide (XB.out.below bo)
      replace Z0 := hide (Z0.out.below bo)
      replace MC := hide (MC.out.below bo)
      replace OI := hide (OwnF.below OI.out bo)
      replace H1 := hide (H1.out.below (bo.mono (by have := H1.out.lt; omega)))
      replace K0 := hide (K0.out.trans (bo.mono K0.out.size))
      clear bo
      go_wp2_with fail
      refine (pick R (0 + 4000 + 5 + 1 + 1) 3 _ H1.out (by omega)).mono ?_
      rintro e vh ⟨x, rfl, x0, x1, -, h2, k2⟩
      replace x1 := x1 (by omega)
      obtain ⟨z, hz, hzb⟩ : ∃ z : Int, (vg.alloc (.cells #[.int .i64 (-1), .int .i64 400, .int .i64 401] 3)).cell? ⟨vg.heap.size, x.toNat, none⟩ = some (.int .i64 z) ∧ (-1 ≤ z ∧ z ≤ 401) := by
        rw [World.cell?_alloc_new]
        have : x = 0 ∨ x = 1 ∨ x = 2 := by omega
        rcases this with rfl | rfl | rfl
        · exact ⟨_, rfl, by omega⟩
        · exact ⟨_, rfl, by omega⟩
        · exact ⟨_, rfl, by omega⟩
      replace hz : vh.cell? ⟨vg.heap.size, x.toNat, none⟩ = some (.int .i64 z) := (k2.cell (p := ⟨vg.heap.size, x.toNat, none⟩) (by simp) (by have := SE.out; show vg.heap.size ≠ R; omega)).trans hz
      replace XB := hide (box_keep XB.out k2 (by have := RX.out.1; omega))
      replace Z0 := hide (box_keep Z0.out k2 (by have := RW.out; omega))
      replace MC := hide (cm_keep MC.out SW.out.2 k2)
      replace OI := hide (OwnF.turn OI.out k2.turn (Or.inl LI.out))
      replace K0 := hide (K0.out.trans (k2.below (by have := RW.out; omega) K0.out.size))
      have ZB := hide hzb
      clear h2 k2 H1 hzb
      go_wp2_with fail
      go_meet
      exact ⟨z, rfl, ZB, XB, Z0, MC, OI, K0⟩
  case rest =>
  obtain ⟨n, rfl, NB, XB', Z0', MC', OI', K0'⟩ := hcut
  clear XB Z0 MC OI K0 H1 YB
  have x0 := XB'.out.r.cell 0 _ rfl
  have x1 := XB'.out.r.cell 1 _ rfl
  have x2 := XB'.out.r.cell 2 _ rfl
  have x3 := XB'.out.r.cell 3 _ rfl
  have x4 := XB'.out.r.cell 4 _ rfl
  have x5 := XB'.out.r.cell 5 _ rfl
  have x6 := XB'.out.r.cell 6 _ rfl
  have x7 := XB'.out.r.cell 7 _ rfl
  have x8 := XB'.out.r.cell 8 _ rfl
  have x9 := XB'.out.r.cell 9 _ rfl
  go_wp2_with (refine Mch.wpList_lay rfl rfl _ _ rfl w.heap.size _ _ _ _ _ _ _ _ _ _ Z0'.out rfl _ _ _ _ _ _ _ _ _ _ _ _ _ _ _ _ _ _ rfl ?_; intro ug XN TX; refine Hid.out ?_)
  have FIN2 : Hid (CMach ug w.heap.size (mv ⟨regs, pc, mem, save, lets, waits, halt, ins, outs, count⟩ (.slice (some ⟨f1, g1, none⟩) regs.length j1) (.slice (some ⟨f2, g2, none⟩) mem.length j2) (.slice (some ⟨f3, g3, none⟩) ins.length j3) (.slice (some ⟨f4, 0, none⟩) outs.length j4)) ⟨regs, pc, mem, save, lets, waits, halt, ins, outs, count⟩ ∧ Below w.heap.size w ug) := ⟨CMach.turn (MC'.out.lowA SW.out.1) Z0'.out.t mach_int TX.out, K0'.out.trans (TX.out.below (Nat.le_refl _) K0'.out.size)⟩
  have RI : Hid (∃ B, Row ug B (.slice qi li ci) xi) := by
    have h3 := OwnF.turn OI'.out TX.out (Or.inl (by have := LI.out; have := RW.out; omega))
    obtain ⟨B, hw, _⟩ := OwnF.wrow h3 _ (Nat.le_refl _)
    exact ⟨B, (Blk.row_of_flat hw).row⟩
  clear x0 x1 x2 x3 x4 x5 x6 x7 x8 x9 XB' Z0' TX MC' OI' K0'
  refine hide ?_
  have z0 := XN.out.r.cell 0 _ rfl
  have z1 := XN.out.r.cell 1 _ rfl
  have z2 := XN.out.r.cell 2 _ rfl
  have z3 := XN.out.r.cell 3 _ rfl
  have z4 := XN.out.r.cell 4 _ rfl
  have z5 := XN.out.r.cell 5 _ rfl
  have z6 := XN.out.r.cell 6 _ rfl
  have z7 := XN.out.r.cell 7 _ rfl
  have z8 := XN.out.r.cell 8 _ rfl
  have z9 := XN.out.r.cell 9 _ rfl
  clear XN
  go_wp2_with fail
  obtain ⟨B, RI2⟩ := RI.out
  exact bodyPost_ret (v := .tuple #[.agg #[.slice (some ⟨f1, g1, none⟩) regs.length j1, .int .i64 pc, .slice (some ⟨f2, g2, none⟩) mem.length j2, .int .i64 save, .bool lets, .bool waits, .int .i64 halt, .slice (some ⟨f3, g3, none⟩) ins.length j3, .slice (some ⟨f4, 0, none⟩) outs.length j4, .int .i64 count], .slice qi li ci, .int .i64 n]) (by simp [results, Tryz.results22, go_sem, z0, z1, z2, z3, z4, z5, z6, z7, z8, z9]) rfl ⟨_, _, _, _, _, _, _, B, rfl, FIN2.out.1, MF.out, RI2, xl, xn, NB.out, FIN2.out.2⟩
end Go.Proofs.YtnhpmbhphbphaaaGreat.Draw
