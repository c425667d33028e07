/-
  The program's step.
-/
import Derived.Test.YtnhpmbhphbphaaaGreatJnQ
namespace Go.Proofs.YtnhpmbhphbphaaaGreat.MchI
set_option linter.unusedSimpArgs false
set_option linter.unusedVariables false
open Go.ChangeShapes Go.WideShapes Go.ChangeAt Go.RowKit IntS Mch
set_option maxRecDepth 8000 in
set_option maxHeartbeats 4000000 in
theorem step_rest (A : Nat → Prop) (Z D : Nat) (m : M) (irq : Bool) (w : World) (h : PM A w Z m) (hst : m.halt ≠ 0 ∨ 1000000 ≤ m.count) :
    Calls Tryz.prog 33 #[.pointer (some ⟨Z, 0, none⟩), .bool irq, .map (some D)] w fun e w' => e = .returned (.tuple #[]) ∧ Below w.heap.size w w' := by
  obtain ⟨b1, o1, k1, b2, o2, k2, b3, o3, k3, b4, k4, hB, hC, hA⟩ := h
  clear hC hA
  obtain ⟨regs, pc, mem, save, lets, waits, halt, ins, outs, count⟩ := m
  simp only [mv] at *
  have bV : Below w.heap.size w (w.alloc (.cells #[.pointer (some ⟨Z, 0, none⟩)] 50)) := (Below.refl _ _).alloc (Nat.le_refl _) _
  have N := hide (hB.below bV)
  have BV := hide bV
  have ST := hide hst
  clear hB bV hst
  have z0 := N.out.r.cell 0 _ rfl
  have z1 := N.out.r.cell 1 _ rfl
  have z2 := N.out.r.cell 2 _ rfl
  have z3 := N.out.r.cell 3 _ rfl
  have z4 := N.out.r.cell 4 _ rfl
  have z5 := N.out.r.cell 5 _ rfl
  have z6 := N.out.r.cell 6 _ rfl
  have z7 := N.out.r.cell 7 _ rfl
  have z8 := N.out.r.cell 8 _ rfl
  have z9 := N.out.r.cell 9 _ rfl
  have hmf : ∀ (fn : Fn) (first cap : Array Value) (w : World), (Instr.makeFunc fn first cap).run Tryz.prog w = .ok (.func fn first cap) w := fun _ _ _ _ => rfl
  go_enter_defers Tryz.func33, Tryz.ntmps33
  go_wp2_with fail
  refine (standsStill _ _ _ _ _ _ _ _ _ _ _ _ pc save halt count lets waits _).mono ?_
  rintro e u ⟨rfl, hb⟩
  rw [decide_eq_true ST.out]
  have BU := hide (BV.out.trans (hb.mono BV.out.size))
  clear hb N BV z0 z1 z2 z3 z4 z5 z6 z7 z8 z9 ST
  go_wp2
  simp [bodyPostD, Leaves, settle, results, Tryz.results33, go_sem]
  exact BU.out
theorem interruptM (Z : Nat) (regs mem ins outs : List Int) (r e i o : Value) (pc save halt count : Int) (lets waits irq : Bool) (w : World) (h : Box Z 25 [r, .int .i64 pc, e, .int .i64 save, .bool lets, .bool waits, .int .i64 halt, i, o, .int .i64 count] w) :
    Calls Tryz.prog 55 #[.pointer (some ⟨Z, 0, none⟩), .bool irq] w fun x w' => x = .returned (.tuple #[]) ∧ Turn Z w w' ∧
      ∃ pc2 save2 lets2 waits2, sampleM ⟨regs, pc, mem, save, lets, waits, halt, ins, outs, count⟩ irq = ⟨regs, pc2, mem, save2, lets2, waits2, halt, ins, outs, count⟩ ∧ Box Z 25 [r, .int .i64 pc2, e, .int .i64 save2, .bool lets2, .bool waits2, .int .i64 halt, i, o, .int .i64 count] w' := by
  refine (interrupt Z r e i o pc save halt count lets waits irq w h).mono ?_
  rintro x w' ⟨hx, ht, hb⟩
  refine ⟨hx, ht, ?_⟩
  cases waits <;> cases irq <;> cases lets <;> simp only [Bool.or_true, Bool.or_false, Bool.and_true, Bool.and_false, Bool.false_eq_true, if_true, if_false, Bool.true_and, Bool.false_and, Bool.true_or, Bool.false_or] at hb <;> exact ⟨_, _, _, _, by simp [sampleM], hb⟩
end Go.Proofs.YtnhpmbhphbphaaaGreat.MchI
namespace Go.Proofs.YtnhpmbhphbphaaaGreat.MchI
set_option linter.unusedSimpArgs false
set_option linter.unusedVariables false
open Go.ChangeShapes Go.WideShapes Go.ChangeAt Go.RowKit IntS Mch
theorem PM.mono {A A' : Nat → Prop} {w : World} {Z : Nat} {m : M} (h : PM A w Z m) (hA : ∀ k, A k → A' k) : PM A' w Z m := by
  obtain ⟨b1, o1, k1, b2, o2, k2, b3, o3, k3, b4, k4, hB, hC, h1, h2, h3, h4⟩ := h
  exact ⟨b1, o1, k1, b2, o2, k2, b3, o3, k3, b4, k4, hB, hC, hA _ h1, hA _ h2, hA _ h3, hA _ h4⟩

set_option maxRecDepth 8000 in
set_option maxHeartbeats 4000000 in
theorem step_nowhere (A : Nat → Prop) (Z D : Nat) (m : M) (irq : Bool) (w : World) (h : PM A w Z m) (h0 : m.halt = 0) (h1 : m.count < 1000000) (hp : 64 ≤ (sampleM m irq).pc) :
    Calls Tryz.prog 33 #[.pointer (some ⟨Z, 0, none⟩), .bool irq, .map (some D)] w fun e w' => e = .returned (.tuple #[]) ∧ PM A w' Z (haltM (sampleM m irq) 4) ∧ Keep (Grip A Z) w w' := by
  obtain ⟨b1, o1, k1, b2, o2, k2, b3, o3, k3, b4, k4, hB, hC, hA⟩ := h
  obtain ⟨regs, pc, mem, save, lets, waits, halt, ins, outs, count⟩ := m
  simp only [mv] at *
  have bV : Below w.heap.size w (w.alloc (.cells #[.pointer (some ⟨Z, 0, none⟩)] 50)) := (Below.refl _ _).alloc (Nat.le_refl _) _
  have N := hide (hB.below bV)
  have C := hide (hC.below bV)
  have BV := hide bV
  have Q := hide (Box.new w [.pointer (some ⟨Z, 0, none⟩)] 50)
  have lz : Hid (Z < w.heap.size) := hB.t.lt
  have ST : Hid (decide (halt ≠ 0 ∨ 1000000 ≤ count) = false) := show _ = _ by rw [decide_eq_false_iff_not]; omega
  have HA := hide hA
  have HP := hide hp


  clear hB hC bV hA hp h0 h1
  have z0 := N.out.r.cell 0 _ rfl
  have z1 := N.out.r.cell 1 _ rfl
  have z2 := N.out.r.cell 2 _ rfl
  have z3 := N.out.r.cell 3 _ rfl
  have z4 := N.out.r.cell 4 _ rfl
  have z5 := N.out.r.cell 5 _ rfl
  have z6 := N.out.r.cell 6 _ rfl
  have z7 := N.out.r.cell 7 _ rfl
  have z8 := N.out.r.cell 8 _ rfl
  have z9 := N.out.r.cell 9 _ rfl
  have hmf : ∀ (fn : Fn) (first cap : Array Value) (w : World), (Instr.makeFunc fn first cap).run Tryz.prog w = .ok (.func fn first cap) w := fun _ _ _ _ => rfl
  go_enter_defers Tryz.func33, Tryz.ntmps33
  go_wp2_with fail
  refine (standsStill _ _ _ _ _ _ _ _ _ _ _ _ pc save halt count lets waits _).mono ?_
  rintro e u ⟨rfl, hb⟩
  rw [ST.out]
  have BU := hide (BV.out.trans (hb.mono BV.out.size))
  replace N := hide (N.out.below hb)
  replace C := hide (C.out.below hb)
  replace Q := hide (Q.out.below hb)
  clear hb BV z0 z1 z2 z3 z4 z5 z6 z7 z8 z9 ST
  have q0 := Q.out.r.cell 0 _ rfl
  go_wp2_with fail
  refine (interruptM Z regs mem ins outs _ _ _ _ pc save halt count lets waits irq _ N.out).mono ?_
  rintro e u1 ⟨rfl, ht, pc2, save2, lets2, waits2, SM, N1⟩
  replace HP : Hid (64 ≤ pc2) := by have := HP.out; rw [SM] at this; exact this
  replace SM := hide SM
  have C1 := hide ((CMach.turn C.out N.out.t mach_int ht).plain (pc' := pc2) (save' := save2) (halt' := halt) (count' := count) (lets' := lets2) (waits' := waits2))
  have Q1 := hide (Q.out.turn ht (by have := lz.out; omega))
  have K1 : Hid (Keep (Grip A Z) w u1) := (Keep.of_below BU.out).turn ht (fun j _ hn e => hn (Or.inl e))
  replace N1 := hide N1
  clear ht N C Q BU q0
  have z0 := N1.out.r.cell 0 _ rfl
  have z1 := N1.out.r.cell 1 _ rfl
  have z2 := N1.out.r.cell 2 _ rfl
  have z3 := N1.out.r.cell 3 _ rfl
  have z4 := N1.out.r.cell 4 _ rfl
  have z5 := N1.out.r.cell 5 _ rfl
  have z6 := N1.out.r.cell 6 _ rfl
  have z7 := N1.out.r.cell 7 _ rfl
  have z8 := N1.out.r.cell 8 _ rfl
  have z9 := N1.out.r.cell 9 _ rfl
  have q0 := Q1.out.r.cell 0 _ rfl
  go_wp2_with fail
  refine (at_place ⟨regs, pc2, mem, save2, lets2, waits2, halt, ins, outs, count⟩ _ _ (CMach.write C1.out).read HP.out).mono ?_
  rintro e u2 ⟨rfl, hb⟩
  replace N1 := hide (N1.out.below hb)
  replace C1 := hide (C1.out.below hb)
  replace Q1 := hide (Q1.out.below hb)
  replace K1 : Hid (Keep (Grip A Z) w u2) := K1.out.trans (Keep.of_below hb)
  clear hb z0 z1 z2 z3 z4 z5 z6 z7 z8 z9 q0
  go_wp2
  have q0 := Q1.out.r.cell 0 _ rfl
  have z6 := N1.out.r.cell 6 _ rfl
  have y6 := N1.out.r.soft 6
  refine leaves_cons (f := 54) (args := #[.pointer (some ⟨w.heap.size, 0, none⟩)]) (by simp) (by simp [go_sem]) ?_
  refine (caught w.heap.size Z 4 halt [] _ q0 z6 y6).mono ?_
  rintro e u' w'' ⟨rfl, rfl, rfl⟩
  have FI : PM A (u2.setCell ⟨Z, 6, none⟩ (.int .i64 4)) Z (haltM (sampleM ⟨regs, pc, mem, save, lets, waits, halt, ins, outs, count⟩ irq) 4) ∧ Keep (Grip A Z) w (u2.setCell ⟨Z, 6, none⟩ (.int .i64 4)) := by
    rw [SM.out]
    exact ⟨⟨b1, o1, k1, b2, o2, k2, b3, o3, k3, b4, k4, N1.out.set 6 _ (by simp) rfl, (CMach.other C1.out N1.out.t mach_int 6 _).plain, HA.out⟩, K1.out.turn ((Turn.refl Z u2).setCell rfl _) (fun j _ hn e => hn (Or.inl e))⟩
  simp [Leaves, settle, results, Tryz.results33, go_sem]
  exact FI
set_option maxRecDepth 8000 in
set_option maxHeartbeats 4000000 in
theorem step_noword (A : Nat → Prop) (Z D : Nat) (m : M) (irq : Bool) (w : World) (h : PM A w Z m) (h0 : m.halt = 0) (h1 : m.count < 1000000) (t : Nat) (hp : (sampleM m irq).pc = t) (ht : t < 64) (hl : m.mem.length = 64) (v : Int) (hv : m.mem[t]? = some v) (tk : Ins.takeB v = false) :
    Calls Tryz.prog 33 #[.pointer (some ⟨Z, 0, none⟩), .bool irq, .map (some D)] w fun e w' => e = .returned (.tuple #[]) ∧ PM A w' Z (haltM (sampleM m irq) 2) ∧ Keep (Grip A Z) w w' := by
  obtain ⟨b1, o1, k1, b2, o2, k2, b3, o3, k3, b4, k4, hB, hC, hA⟩ := h
  obtain ⟨regs, pc, mem, save, lets, waits, halt, ins, outs, count⟩ := m
  simp only [mv] at *
  have bV : Below w.heap.size w (w.alloc (.cells #[.pointer (some ⟨Z, 0, none⟩)] 50)) := (Below.refl _ _).alloc (Nat.le_refl _) _
  have N := hide (hB.below bV)
  have C := hide (hC.below bV)
  have BV := hide bV
  have Q := hide (Box.new w [.pointer (some ⟨Z, 0, none⟩)] 50)
  have lz : Hid (Z < w.heap.size) := hB.t.lt
  have ST : Hid (decide (halt ≠ 0 ∨ 1000000 ≤ count) = false) := show _ = _ by rw [decide_eq_false_iff_not]; omega
  have HA := hide hA
  have HP := hide hp
  have HL := hide hl
  clear hl
  clear hB hC bV hA hp h0 h1
  have z0 := N.out.r.cell 0 _ rfl
  have z1 := N.out.r.cell 1 _ rfl
  have z2 := N.out.r.cell 2 _ rfl
  have z3 := N.out.r.cell 3 _ rfl
  have z4 := N.out.r.cell 4 _ rfl
  have z5 := N.out.r.cell 5 _ rfl
  have z6 := N.out.r.cell 6 _ rfl
  have z7 := N.out.r.cell 7 _ rfl
  have z8 := N.out.r.cell 8 _ rfl
  have z9 := N.out.r.cell 9 _ rfl
  have hmf : ∀ (fn : Fn) (first cap : Array Value) (w : World), (Instr.makeFunc fn first cap).run Tryz.prog w = .ok (.func fn first cap) w := fun _ _ _ _ => rfl
  go_enter_defers Tryz.func33, Tryz.ntmps33
  go_wp2_with fail
  refine (standsStill _ _ _ _ _ _ _ _ _ _ _ _ pc save halt count lets waits _).mono ?_
  rintro e u ⟨rfl, hb⟩
  rw [ST.out]
  have BU := hide (BV.out.trans (hb.mono BV.out.size))
  replace N := hide (N.out.below hb)
  replace C := hide (C.out.below hb)
  replace Q := hide (Q.out.below hb)
  clear hb BV z0 z1 z2 z3 z4 z5 z6 z7 z8 z9 ST
  have q0 := Q.out.r.cell 0 _ rfl
  go_wp2_with fail
  refine (interruptM Z regs mem ins outs _ _ _ _ pc save halt count lets waits irq _ N.out).mono ?_
  rintro e u1 ⟨rfl, ht, pc2, save2, lets2, waits2, SM, N1⟩
  have EP : pc2 = t := by have := HP.out; rw [SM] at this; exact this
  subst EP
  replace SM := hide SM
  have C1 := hide ((CMach.turn C.out N.out.t mach_int ht).plain (pc' := ((t : Nat) : Int)) (save' := save2) (halt' := halt) (count' := count) (lets' := lets2) (waits' := waits2))
  have Q1 := hide (Q.out.turn ht (by have := lz.out; omega))
  have K1 : Hid (Keep (Grip A Z) w u1) := (Keep.of_below BU.out).turn ht (fun j _ hn e => hn (Or.inl e))
  replace N1 := hide N1
  clear ht N C Q BU q0
  have z0 := N1.out.r.cell 0 _ rfl
  have z1 := N1.out.r.cell 1 _ rfl
  have z2 := N1.out.r.cell 2 _ rfl
  have z3 := N1.out.r.cell 3 _ rfl
  have z4 := N1.out.r.cell 4 _ rfl
  have z5 := N1.out.r.cell 5 _ rfl
  have z6 := N1.out.r.cell 6 _ rfl
  have z7 := N1.out.r.cell 7 _ rfl
  have z8 := N1.out.r.cell 8 _ rfl
  have z9 := N1.out.r.cell 9 _ rfl
  have q0 := Q1.out.r.cell 0 _ rfl
  go_wp2_with fail
  refine (at_no mem t save2 halt count lets2 waits2 _ _ _ b2 o2 k2 _ C1.out.parts.2.1 ht HL.out v hv tk).mono ?_
  rintro e u2 ⟨rfl, hb⟩
  replace N1 := hide (N1.out.below hb)
  replace C1 := hide (C1.out.below hb)
  replace Q1 := hide (Q1.out.below hb)
  replace K1 : Hid (Keep (Grip A Z) w u2) := K1.out.trans (Keep.of_below hb)
  clear hb z0 z1 z2 z3 z4 z5 z6 z7 z8 z9 q0
  go_wp2
  have q0 := Q1.out.r.cell 0 _ rfl
  have z6 := N1.out.r.cell 6 _ rfl
  have y6 := N1.out.r.soft 6
  refine leaves_cons (f := 54) (args := #[.pointer (some ⟨w.heap.size, 0, none⟩)]) (by simp) (by simp [go_sem]) ?_
  refine (caught w.heap.size Z 2 halt [] _ q0 z6 y6).mono ?_
  rintro e u' w'' ⟨rfl, rfl, rfl⟩
  have FI : PM A (u2.setCell ⟨Z, 6, none⟩ (.int .i64 2)) Z (haltM (sampleM ⟨regs, pc, mem, save, lets, waits, halt, ins, outs, count⟩ irq) 2) ∧ Keep (Grip A Z) w (u2.setCell ⟨Z, 6, none⟩ (.int .i64 2)) := by
    rw [SM.out]
    exact ⟨⟨b1, o1, k1, b2, o2, k2, b3, o3, k3, b4, k4, N1.out.set 6 _ (by simp) rfl, (CMach.other C1.out N1.out.t mach_int 6 _).plain, HA.out⟩, K1.out.turn ((Turn.refl Z u2).setCell rfl _) (fun j _ hn e => hn (Or.inl e))⟩
  simp [Leaves, settle, results, Tryz.results33, go_sem]
  exact FI
end Go.Proofs.YtnhpmbhphbphaaaGreat.MchI
