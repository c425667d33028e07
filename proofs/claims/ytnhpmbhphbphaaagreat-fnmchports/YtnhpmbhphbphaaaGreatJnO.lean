/-
  The program's deeds on a machine behind a pointer: what they leave.
-/
import Derived.Test.YtnhpmbhphbphaaaGreatMchT
import Derived.Test.YtnhpmbhphbphaaaGreatJnM
import Derived.Test.YtnhpmbhphbphaaaGreatMchU
import Derived.StillTailTactics
import Derived.Deep.RegionHeld3
namespace Go.Proofs.YtnhpmbhphbphaaaGreat.Mch
open Go.ChangeShapes Go.WideShapes Go.ChangeAt Go.RowKit IntS
/-- A machine behind a pointer, its lists in blocks of a set. -/
structure PM (A : Nat → Prop) (w : World) (Z : Nat) (m : M) : Prop where
  ex : ∃ b1 o1 k1 b2 o2 k2 b3 o3 k3 b4 k4, Box Z 25 (mv m (.slice (some ⟨b1, o1, none⟩) m.regs.length k1) (.slice (some ⟨b2, o2, none⟩) m.mem.length k2) (.slice (some ⟨b3, o3, none⟩) m.ins.length k3) (.slice (some ⟨b4, 0, none⟩) m.outs.length k4)) w ∧
    CMach w 0 (mv m (.slice (some ⟨b1, o1, none⟩) m.regs.length k1) (.slice (some ⟨b2, o2, none⟩) m.mem.length k2) (.slice (some ⟨b3, o3, none⟩) m.ins.length k3) (.slice (some ⟨b4, 0, none⟩) m.outs.length k4)) m ∧ A b1 ∧ A b2 ∧ A b3 ∧ A b4
theorem PM.below {A : Nat → Prop} {w w' : World} {Z : Nat} {m : M} (h : PM A w Z m) (hb : Below w.heap.size w w') : PM A w' Z m := by
  obtain ⟨b1, o1, k1, b2, o2, k2, b3, o3, k3, b4, k4, hB, hC, hA⟩ := h
  exact ⟨b1, o1, k1, b2, o2, k2, b3, o3, k3, b4, k4, hB.below hb, hC.below hb, hA⟩
/-- What a deed may turn: the machine's own block, and blocks of its lists. -/
def Grip (A : Nat → Prop) (Z : Nat) (k : Nat) : Prop := k = Z ∨ A k
theorem grip_turn {A : Nat → Prop} {Z B : Nat} (hB : A B) : ∀ j, ¬ Grip A Z j → j ≠ B := fun j hn e => hn (Or.inr (by rw [e]; exact hB))
/-- How a deed ends: it tells where the machine goes on, or the machine stands still. -/
def Deed (A : Nat → Prop) (Z : Nat) (w : World) (res : M) (e : Ending) (w' : World) : Prop :=
  (∃ (place : Int) (m' : M), e = .returned (.int .i64 place) ∧ PM A w' Z m' ∧ Keep (Grip A Z) w w' ∧ 0 ≤ place ∧ place < 65536 ∧ (0 ≤ m'.count ∧ m'.count ≤ 1000000) ∧ nextM m' place = res) ∨
  (∃ (h : Int) (m' : M), e = .panicked [{ v := .iface 64 (.int .i64 h), recovered := false }] ∧ PM A w' Z m' ∧ Keep (Grip A Z) w w' ∧ haltM m' h = res)
end Go.Proofs.YtnhpmbhphbphaaaGreat.Mch
namespace Go.Proofs.YtnhpmbhphbphaaaGreat.MchI
open Go.ChangeShapes Go.WideShapes Go.ChangeAt Go.RowKit IntS Mch
theorem set_of (m : M) (d : Nat) (n : Int) : nextM { m with regs := m.regs.set d n } ((m.pc + 1) % 65536) = setM m d n := by
  unfold setM nextM
  simp only [M.mk.injEq, and_true, true_and]
  omega
/-- A register set. -/
theorem PM.setReg {A : Nat → Prop} {w : World} {Z b1 o1 k1 b2 o2 k2 b3 o3 k3 b4 k4 : Nat} {m : M} (hB : Box Z 25 (mv m (.slice (some ⟨b1, o1, none⟩) m.regs.length k1) (.slice (some ⟨b2, o2, none⟩) m.mem.length k2) (.slice (some ⟨b3, o3, none⟩) m.ins.length k3) (.slice (some ⟨b4, 0, none⟩) m.outs.length k4)) w)
    (hC : CMach w 0 (mv m (.slice (some ⟨b1, o1, none⟩) m.regs.length k1) (.slice (some ⟨b2, o2, none⟩) m.mem.length k2) (.slice (some ⟨b3, o3, none⟩) m.ins.length k3) (.slice (some ⟨b4, 0, none⟩) m.outs.length k4)) m) (hA : A b1 ∧ A b2 ∧ A b3 ∧ A b4) (d : Nat) (n : Int) (hd : d < m.regs.length) :
    PM A (w.setCell ⟨b1, o1 + d, none⟩ (.int .i64 n)) Z { m with regs := m.regs.set d n } ∧ Keep (Grip A Z) w (w.setCell ⟨b1, o1 + d, none⟩ (.int .i64 n)) := by
  have hne : b1 ≠ Z := fun e => (hB.t.ne hC.parts.2.2.2.2.2.2.1.t mach_int) e.symm
  refine ⟨⟨b1, o1, k1, b2, o2, k2, b3, o3, k3, b4, k4, ?_, ?_, hA⟩, (Keep.refl _ w).turn ((Turn.refl b1 w).setCell rfl _) (fun j _ hn => grip_turn hA.1 j hn)⟩
  · have := hB.other ⟨b1, o1 + d, none⟩ (.int .i64 n) hne
    simpa only [mv, List.length_set] using this
  · have := hC.setReg d n hd
    simpa only [mv, List.length_set] using this
end Go.Proofs.YtnhpmbhphbphaaaGreat.MchI
namespace Go.Proofs.YtnhpmbhphbphaaaGreat.Mch
open Go.ChangeShapes Go.WideShapes Go.ChangeAt Go.RowKit IntS
theorem Box.drew {Z : Nat} {t : TypeId} {cs : List Value} {u : World} (h : Box Z t cs u) : Box Z t cs u.drew := ⟨h.r.drew, h.t⟩
theorem Keep.drew {S : Nat → Prop} {w u : World} (h : Keep S w u) : Keep S w u.drew := ⟨h.os, h.tape, h.output, h.size, h.block⟩
end Go.Proofs.YtnhpmbhphbphaaaGreat.Mch
namespace Go.Proofs.YtnhpmbhphbphaaaGreat.MchI
open Go.ChangeShapes Go.WideShapes Go.ChangeAt Go.RowKit IntS Mch
set_option maxRecDepth 8000 in
set_option maxHeartbeats 4000000 in
theorem deed_1 (A : Nat → Prop) (Z : Nat) (m : M) (d a : Nat) (k : Int) (w : World) (h : PM A w Z m) (hf : Fit m) (hd : d < 4) (ha : a < 4) :
    Calls Tryz.prog 59 #[.pointer (some ⟨Z, 0, none⟩), .agg #[.int .i64 1, .int .i64 d, .int .i64 a, .int .i64 k]] w (Deed A Z w (doM m 1 d a k)) := by
  obtain ⟨b1, o1, k1, b2, o2, k2, b3, o3, k3, b4, k4, hB0, hC0, hA⟩ := h
  obtain ⟨regs, pc, mem, save, lets, waits, halt, ins, outs, count⟩ := m
  obtain ⟨r4, m64, rw_, mw_, p0, p1, c0, c1⟩ := hf
  have la : a < regs.length := by rw [show regs.length = 4 from r4]; exact ha
  have ld : d < regs.length := by rw [show regs.length = 4 from r4]; exact hd
  have la' : ((a : Nat) : Int) < (regs.length : Int) := by omega
  have ld' : ((d : Nat) : Int) < (regs.length : Int) := by omega
  have R4 := hide r4
  have M64 := hide m64
  have bV : Below w.heap.size w (w.alloc (.cells #[.int .i64 1, .int .i64 d, .int .i64 a, .int .i64 k] 38)) := (Below.refl _ _).alloc (Nat.le_refl _) _
  have hB := hB0.below bV
  have hC := hC0.below bV
  have I := hide (Box.new w [.int .i64 1, .int .i64 d, .int .i64 a, .int .i64 k] 38)
  have KV := hide (Keep.of_below (S := Grip A Z) bV)
  obtain ⟨x, ex⟩ : ∃ x, regs[a]? = some x := ⟨_, List.getElem?_eq_getElem la⟩
  obtain ⟨y, ey⟩ : ∃ y, regs[d]? = some y := ⟨_, List.getElem?_eq_getElem ld⟩
  have bx := rw_ a x ex
  have by_ := rw_ d y ey
  have GX := hide (getD_of ex)
  have GY := hide (getD_of ey)
  obtain ⟨cx, fx⟩ := row_at hC.parts.1 ex
  obtain ⟨cy, fy⟩ := row_at hC.parts.1 ey
  have hne : b1 ≠ Z := fun e => (hB.t.ne hC.parts.2.2.2.2.2.2.1.t mach_int) e.symm
  have HA := hide hA
  have nI : Hid (w.heap.size ≠ Z) := by have := hB0.r.lt; show _ ≠ _; omega
  have EY0 := hide ey
  clear hB0 hC0 r4 m64 hA
  simp only [mv] at *
  go_enter Tryz.func59, Tryz.ntmps59
  go_wp2_with fail
  generalize w.alloc (.cells #[.int .i64 1, .int .i64 d, .int .i64 a, .int .i64 k] 38) = V at *
  have PB := hide hB
  have PC := hide hC
  clear hB hC bV
  have z0 := PB.out.r.cell 0 _ rfl
  have z1 := PB.out.r.cell 1 _ rfl
  have i0 := I.out.r.cell 0 _ rfl
  have i1 := I.out.r.cell 1 _ rfl
  have i2 := I.out.r.cell 2 _ rfl
  have i3 := I.out.r.cell 3 _ rfl
  go_wp2_with fail
  refine (setRegister Z b1 o1 _ k1 d pc y k _ z0 z1 ld' cy fy hne p0 p1).mono ?_
  rintro e u ⟨rfl, rfl⟩
  obtain ⟨PN, KN⟩ := PM.setReg (m := ⟨regs, pc, mem, save, lets, waits, halt, ins, outs, count⟩) PB.out PC.out HA.out d k ld
  have PN' := hide PN
  have KN' := hide (KV.out.trans KN)
  have EN : Hid (nextM ⟨regs.set d k, pc, mem, save, lets, waits, halt, ins, outs, count⟩ ((pc + 1) % 65536) = doM ⟨regs, pc, mem, save, lets, waits, halt, ins, outs, count⟩ 1 d a k) := show _ = _ by
    rw [show doM ⟨regs, pc, mem, save, lets, waits, halt, ins, outs, count⟩ 1 d a k = setM ⟨regs, pc, mem, save, lets, waits, halt, ins, outs, count⟩ d k by unfold doM; simp]
    exact set_of ⟨regs, pc, mem, save, lets, waits, halt, ins, outs, count⟩ d k
  have q0 : Hid (0 ≤ (pc + 1) % 65536 ∧ (pc + 1) % 65536 < 65536) := by show _ ∧ _; omega
  clear PN KN PB PC KV
  go_wp2
  go_ret
  exact Or.inl ⟨_, _, rfl, PN'.out, KN'.out, q0.out.1, q0.out.2, ⟨c0, c1⟩, EN.out⟩
set_option maxRecDepth 8000 in
set_option maxHeartbeats 4000000 in
theorem deed_2 (A : Nat → Prop) (Z : Nat) (m : M) (d a : Nat) (k : Int) (w : World) (h : PM A w Z m) (hf : Fit m) (hd : d < 4) (ha : a < 4) :
    Calls Tryz.prog 61 #[.pointer (some ⟨Z, 0, none⟩), .agg #[.int .i64 2, .int .i64 d, .int .i64 a, .int .i64 k]] w (Deed A Z w (doM m 2 d a k)) := by
  obtain ⟨b1, o1, k1, b2, o2, k2, b3, o3, k3, b4, k4, hB0, hC0, hA⟩ := h
  obtain ⟨regs, pc, mem, save, lets, waits, halt, ins, outs, count⟩ := m
  obtain ⟨r4, m64, rw_, mw_, p0, p1, c0, c1⟩ := hf
  have la : a < regs.length := by rw [show regs.length = 4 from r4]; exact ha
  have ld : d < regs.length := by rw [show regs.length = 4 from r4]; exact hd
  have la' : ((a : Nat) : Int) < (regs.length : Int) := by omega
  have ld' : ((d : Nat) : Int) < (regs.length : Int) := by omega
  have R4 := hide r4
  have M64 := hide m64
  have bV : Below w.heap.size w (w.alloc (.cells #[.int .i64 2, .int .i64 d, .int .i64 a, .int .i64 k] 38)) := (Below.refl _ _).alloc (Nat.le_refl _) _
  have hB := hB0.below bV
  have hC := hC0.below bV
  have I := hide (Box.new w [.int .i64 2, .int .i64 d, .int .i64 a, .int .i64 k] 38)
  have KV := hide (Keep.of_below (S := Grip A Z) bV)
  obtain ⟨x, ex⟩ : ∃ x, regs[a]? = some x := ⟨_, List.getElem?_eq_getElem la⟩
  obtain ⟨y, ey⟩ : ∃ y, regs[d]? = some y := ⟨_, List.getElem?_eq_getElem ld⟩
  have bx := rw_ a x ex
  have by_ := rw_ d y ey
  have GX := hide (getD_of ex)
  have GY := hide (getD_of ey)
  obtain ⟨cx, fx⟩ := row_at hC.parts.1 ex
  obtain ⟨cy, fy⟩ := row_at hC.parts.1 ey
  have hne : b1 ≠ Z := fun e => (hB.t.ne hC.parts.2.2.2.2.2.2.1.t mach_int) e.symm
  have HA := hide hA
  have nI : Hid (w.heap.size ≠ Z) := by have := hB0.r.lt; show _ ≠ _; omega
  have EY0 := hide ey
  clear hB0 hC0 r4 m64 hA
  simp only [mv] at *
  go_enter Tryz.func61, Tryz.ntmps61
  go_wp2_with fail
  generalize w.alloc (.cells #[.int .i64 2, .int .i64 d, .int .i64 a, .int .i64 k] 38) = V at *
  have PB := hide hB
  have PC := hide hC
  clear hB hC bV
  have z0 := PB.out.r.cell 0 _ rfl
  have z1 := PB.out.r.cell 1 _ rfl
  have i0 := I.out.r.cell 0 _ rfl
  have i1 := I.out.r.cell 1 _ rfl
  have i2 := I.out.r.cell 2 _ rfl
  have i3 := I.out.r.cell 3 _ rfl
  refine region_tail 11 (by kernel_rfl) (by kernel_rfl) ?_
  simp only [List.take_succ_cons, List.take_zero, List.drop_succ_cons, List.drop_zero]
  repeat still_step
  refine wpStill_nil ?_
  go_wp2_with fail
  refine (setRegister Z b1 o1 _ k1 d pc y x V.drew z0 z1 ld' cy fy hne p0 p1).mono ?_
  rintro e u ⟨rfl, rfl⟩
  replace PB := hide (Box.drew PB.out)
  replace PC := hide (CMach.drewN PC.out 1)
  replace KV := hide (Keep.drew KV.out)
  replace I := hide (Box.drew I.out)
  obtain ⟨PN, KN⟩ := PM.setReg (m := ⟨regs, pc, mem, save, lets, waits, halt, ins, outs, count⟩) PB.out PC.out HA.out d x ld
  have PN' := hide PN
  have KN' := hide (KV.out.trans KN)
  have EN : Hid (nextM ⟨regs.set d x, pc, mem, save, lets, waits, halt, ins, outs, count⟩ ((pc + 1) % 65536) = doM ⟨regs, pc, mem, save, lets, waits, halt, ins, outs, count⟩ 2 d a k) := show _ = _ by
    rw [show doM ⟨regs, pc, mem, save, lets, waits, halt, ins, outs, count⟩ 2 d a k = setM ⟨regs, pc, mem, save, lets, waits, halt, ins, outs, count⟩ d x by unfold doM; simp; rw [← List.getD_eq_getElem?_getD, GX.out]]
    exact set_of ⟨regs, pc, mem, save, lets, waits, halt, ins, outs, count⟩ d x
  have q0 : Hid (0 ≤ (pc + 1) % 65536 ∧ (pc + 1) % 65536 < 65536) := by show _ ∧ _; omega
  clear PN KN PB PC KV
  go_wp2
  go_ret
  exact Or.inl ⟨_, _, rfl, PN'.out, KN'.out, q0.out.1, q0.out.2, ⟨c0, c1⟩, EN.out⟩
set_option maxRecDepth 8000 in
set_option maxHeartbeats 4000000 in
theorem deed_13 (A : Nat → Prop) (Z : Nat) (m : M) (d a : Nat) (k : Int) (w : World) (h : PM A w Z m) (hf : Fit m) (hd : d < 4) (ha : a < 4) :
    Calls Tryz.prog 69 #[.pointer (some ⟨Z, 0, none⟩), .agg #[.int .i64 13, .int .i64 d, .int .i64 a, .int .i64 k]] w (Deed A Z w (doM m 13 d a k)) := by
  obtain ⟨b1, o1, k1, b2, o2, k2, b3, o3, k3, b4, k4, hB0, hC0, hA⟩ := h
  obtain ⟨regs, pc, mem, save, lets, waits, halt, ins, outs, count⟩ := m
  obtain ⟨r4, m64, rw_, mw_, p0, p1, c0, c1⟩ := hf
  have la : a < regs.length := by rw [show regs.length = 4 from r4]; exact ha
  have ld : d < regs.length := by rw [show regs.length = 4 from r4]; exact hd
  have la' : ((a : Nat) : Int) < (regs.length : Int) := by omega
  have ld' : ((d : Nat) : Int) < (regs.length : Int) := by omega
  have R4 := hide r4
  have M64 := hide m64
  have bV : Below w.heap.size w (w.alloc (.cells #[.int .i64 13, .int .i64 d, .int .i64 a, .int .i64 k] 38)) := (Below.refl _ _).alloc (Nat.le_refl _) _
  have hB := hB0.below bV
  have hC := hC0.below bV
  have I := hide (Box.new w [.int .i64 13, .int .i64 d, .int .i64 a, .int .i64 k] 38)
  have KV := hide (Keep.of_below (S := Grip A Z) bV)
  obtain ⟨x, ex⟩ : ∃ x, regs[a]? = some x := ⟨_, List.getElem?_eq_getElem la⟩
  obtain ⟨y, ey⟩ : ∃ y, regs[d]? = some y := ⟨_, List.getElem?_eq_getElem ld⟩
  have bx := rw_ a x ex
  have by_ := rw_ d y ey
  have GX := hide (getD_of ex)
  have GY := hide (getD_of ey)
  obtain ⟨cx, fx⟩ := row_at hC.parts.1 ex
  obtain ⟨cy, fy⟩ := row_at hC.parts.1 ey
  have hne : b1 ≠ Z := fun e => (hB.t.ne hC.parts.2.2.2.2.2.2.1.t mach_int) e.symm
  have HA := hide hA
  have nI : Hid (w.heap.size ≠ Z) := by have := hB0.r.lt; show _ ≠ _; omega
  have EY0 := hide ey
  clear hB0 hC0 r4 m64 hA
  simp only [mv] at *
  go_enter Tryz.func69, Tryz.ntmps69
  go_wp2_with fail
  generalize w.alloc (.cells #[.int .i64 13, .int .i64 d, .int .i64 a, .int .i64 k] 38) = V at *
  have PB := hide hB
  have PC := hide hC
  clear hB hC bV
  have z0 := PB.out.r.cell 0 _ rfl
  have i0 := I.out.r.cell 0 _ rfl
  have i1 := I.out.r.cell 1 _ rfl
  have i2 := I.out.r.cell 2 _ rfl
  have i3 := I.out.r.cell 3 _ rfl
  have PN := hide (show PM A V.drew Z ⟨regs, pc, mem, save, lets, waits, halt, ins, outs, count⟩ from ⟨b1, o1, k1, b2, o2, k2, b3, o3, k3, b4, k4, (Box.drew PB.out : _), CMach.drewN PC.out 1, HA.out⟩)
  have KN := hide (Keep.drew KV.out)
  go_still (by kernel_rfl)
  go_wp2
  go_ret
  refine Or.inl ⟨x, _, rfl, PN.out, KN.out, bx.1, bx.2, ⟨c0, c1⟩, ?_⟩
  unfold doM
  simp
  rw [← List.getD_eq_getElem?_getD, GX.out]
theorem doM_ask (m : M) (rel : Int) (d a : Nat) (k : Int) (h : rel = 1 ∨ rel = 2) (hx : 0 ≤ m.regs.getD a 0 ∧ m.regs.getD a 0 < 65536) (hy : 0 ≤ m.regs.getD d 0 ∧ m.regs.getD d 0 < 65536) : doM m (rel + 10) d a k = nextM m (if Wrd.wrel rel (m.regs.getD d 0) (m.regs.getD a 0) = true then k else m.pc + 1) := by
  rcases h with rfl | rfl
  · rw [Wrd.wrel1 hy hx]
    unfold doM
    simp
  · rw [Wrd.wrel2 hy hx]
    unfold doM
    simp
set_option maxRecDepth 8000 in
set_option maxHeartbeats 4000000 in
theorem deed_ask (A : Nat → Prop) (Z : Nat) (m : M) (d a : Nat) (k : Int) (w : World) (h : PM A w Z m) (hf : Fit m) (hd : d < 4) (ha : a < 4) (k0 : 0 ≤ k) (k1' : k ≤ 255) (rel : Int) (hrel : rel = 1 ∨ rel = 2) (q : Nat) (hq : w.cell? ⟨q, 0, none⟩ = some (.int .i64 rel)) :
    Calls Tryz.prog 93 #[.pointer (some ⟨Z, 0, none⟩), .agg #[.int .i64 (rel + 10), .int .i64 d, .int .i64 a, .int .i64 k], .pointer (some ⟨q, 0, none⟩)] w (Deed A Z w (doM m (rel + 10) d a k)) := by
  obtain ⟨b1, o1, k1, b2, o2, k2, b3, o3, k3, b4, k4, hB0, hC0, hA⟩ := h
  obtain ⟨regs, pc, mem, save, lets, waits, halt, ins, outs, count⟩ := m
  obtain ⟨r4, m64, rw_, mw_, p0, p1, c0, c1⟩ := hf
  have la : a < regs.length := by rw [show regs.length = 4 from r4]; exact ha
  have ld : d < regs.length := by rw [show regs.length = 4 from r4]; exact hd
  have la' : ((a : Nat) : Int) < (regs.length : Int) := by omega
  have ld' : ((d : Nat) : Int) < (regs.length : Int) := by omega
  have R4 := hide r4
  have M64 := hide m64
  have bV : Below w.heap.size w (w.alloc (.cells #[.int .i64 (rel + 10), .int .i64 d, .int .i64 a, .int .i64 k] 38)) := (Below.refl _ _).alloc (Nat.le_refl _) _
  have hB := hB0.below bV
  have hC := hC0.below bV
  have I := hide (Box.new w [.int .i64 (rel + 10), .int .i64 d, .int .i64 a, .int .i64 k] 38)
  have KV := hide (Keep.of_below (S := Grip A Z) bV)
  obtain ⟨x, ex⟩ : ∃ x, regs[a]? = some x := ⟨_, List.getElem?_eq_getElem la⟩
  obtain ⟨y, ey⟩ : ∃ y, regs[d]? = some y := ⟨_, List.getElem?_eq_getElem ld⟩
  have bx := rw_ a x ex
  have by_ := rw_ d y ey
  have GX := hide (getD_of ex)
  have GY := hide (getD_of ey)
  obtain ⟨cx, fx⟩ := row_at hC.parts.1 ex
  obtain ⟨cy, fy⟩ := row_at hC.parts.1 ey
  have hne : b1 ≠ Z := fun e => (hB.t.ne hC.parts.2.2.2.2.2.2.1.t mach_int) e.symm
  have HA := hide hA
  have nI : Hid (w.heap.size ≠ Z) := by have := hB0.r.lt; show _ ≠ _; omega
  have cq := cell_below bV hq
  have EY0 := hide ey
  clear hB0 hC0 r4 m64 hA
  simp only [mv] at *
  go_enter Tryz.func93, Tryz.ntmps93
  go_wp2_with fail
  generalize w.alloc (.cells #[.int .i64 (rel + 10), .int .i64 d, .int .i64 a, .int .i64 k] 38) = V at *
  have PB := hide hB
  have PC := hide hC
  clear hB hC bV
  clear hq
  have z0 := PB.out.r.cell 0 _ rfl
  have z1 := PB.out.r.cell 1 _ rfl
  have i0 := I.out.r.cell 0 _ rfl
  have i1 := I.out.r.cell 1 _ rfl
  have i2 := I.out.r.cell 2 _ rfl
  have i3 := I.out.r.cell 3 _ rfl
  have HD := hide (doM_ask ⟨regs, pc, mem, save, lets, waits, halt, ins, outs, count⟩ rel d a k hrel (by rw [GX.out]; exact bx) (by rw [GY.out]; exact by_))
  simp only [] at HD
  rw [GX.out, GY.out] at HD
  clear hrel
  refine region_tail 17 (by kernel_rfl) (by kernel_rfl) ?_
  simp only [List.take_succ_cons, List.take_zero, List.drop_succ_cons, List.drop_zero]
  repeat still_step
  refine wpStill_nil ?_
  go_wp2_with fail
  refine (Wrd.implRel rel y x _).mono ?_
  rintro e u ⟨rfl, rfl⟩
  have PN := hide (show PM A V.drew Z ⟨regs, pc, mem, save, lets, waits, halt, ins, outs, count⟩ from ⟨b1, o1, k1, b2, o2, k2, b3, o3, k3, b4, k4, (Box.drew PB.out : _), CMach.drewN PC.out 1, HA.out⟩)
  have KN := hide (Keep.drew KV.out)
  cases hr : Wrd.wrel rel y x with
  | true =>
    rw [hr, if_pos rfl] at HD
    clear hr
    go_wp2
    go_ret
    exact Or.inl ⟨k, _, rfl, PN.out, KN.out, k0, by omega, ⟨c0, c1⟩, HD.out.symm⟩
  | false =>
    rw [hr, if_neg (by decide)] at HD
    clear hr
    go_wp2_with fail
    refine (behind Z pc V.drew z1 p0 p1).mono ?_
    rintro e u ⟨rfl, rfl⟩
    go_wp2
    go_ret
    refine Or.inl ⟨(pc + 1) % 65536, _, rfl, PN.out, KN.out, by omega, by omega, ⟨c0, c1⟩, ?_⟩
    rw [HD.out]
    unfold nextM
    simp
set_option maxRecDepth 8000 in
set_option maxHeartbeats 4000000 in
theorem address_no (Z b1 o1 n1 k1 : Nat) (op : Int) (d a : Nat) (k x : Int) (w : World) (z0 : w.cell? ⟨Z, 0, none⟩ = some (.slice (some ⟨b1, o1, none⟩) n1 k1)) (ha : ((a : Nat) : Int) < (n1 : Int)) (cx : w.cell? ⟨b1, o1 + a, none⟩ = some (.int .i64 x)) (bx : 0 ≤ x ∧ x < 65536) (k0 : 0 ≤ k) (k1' : k ≤ 255) (hn : 64 ≤ (x + k) % 65536) :
    Calls Tryz.prog 66 #[.pointer (some ⟨Z, 0, none⟩), .agg #[.int .i64 op, .int .i64 d, .int .i64 a, .int .i64 k]] w fun e w' => e = .panicked [{ v := .iface 64 (.int .i64 3), recovered := false }] ∧ Below w.heap.size w w' := by
  have bV : Below w.heap.size w (w.alloc (.cells #[.int .i64 op, .int .i64 d, .int .i64 a, .int .i64 k] 38)) := (Below.refl _ _).alloc (Nat.le_refl _) _
  have I := hide (Box.new w [.int .i64 op, .int .i64 d, .int .i64 a, .int .i64 k] 38)
  replace z0 := cell_below bV z0
  replace cx := cell_below bV cx
  have BV := hide bV
  clear bV
  have ED : Hid (Wrd.wdo 1 x k = (x + k) % 65536) := show _ = _ by
    unfold Wrd.wdo
    simp [bx.1, bx.2, k0, show k < 65536 by omega]
  go_enter Tryz.func66, Tryz.ntmps66
  go_wp2_with fail
  generalize w.alloc (.cells #[.int .i64 op, .int .i64 d, .int .i64 a, .int .i64 k] 38) = V at *
  have i2 := I.out.r.cell 2 _ rfl
  have i3 := I.out.r.cell 3 _ rfl
  refine region_tail 10 (by kernel_rfl) (by kernel_rfl) ?_
  simp only [List.take_succ_cons, List.take_zero, List.drop_succ_cons, List.drop_zero]
  repeat still_step
  refine wpStill_nil ?_
  go_wp2_with fail
  refine (Wrd.implDo 1 x k _).mono ?_
  rintro e u ⟨rfl, hb⟩
  rw [ED.out]
  have BU := hide (BV.out.drew.trans (hb.mono BV.out.size))
  clear hb I z0 cx BV i2 i3 ED
  generalize (x + k) % 65536 = t at *
  go_wp2
  exact ⟨rfl, rfl, BU.out⟩
set_option maxRecDepth 8000 in
set_option maxHeartbeats 4000000 in
theorem address_yes (Z b1 o1 n1 k1 : Nat) (op : Int) (d a : Nat) (k x : Int) (w : World) (z0 : w.cell? ⟨Z, 0, none⟩ = some (.slice (some ⟨b1, o1, none⟩) n1 k1)) (ha : ((a : Nat) : Int) < (n1 : Int)) (cx : w.cell? ⟨b1, o1 + a, none⟩ = some (.int .i64 x)) (bx : 0 ≤ x ∧ x < 65536) (k0 : 0 ≤ k) (k1' : k ≤ 255) (hn : ¬ 64 ≤ (x + k) % 65536) :
    Calls Tryz.prog 66 #[.pointer (some ⟨Z, 0, none⟩), .agg #[.int .i64 op, .int .i64 d, .int .i64 a, .int .i64 k]] w fun e w' => e = .returned (.int .i64 ((x + k) % 65536)) ∧ Below w.heap.size w w' := by
  have bV : Below w.heap.size w (w.alloc (.cells #[.int .i64 op, .int .i64 d, .int .i64 a, .int .i64 k] 38)) := (Below.refl _ _).alloc (Nat.le_refl _) _
  have I := hide (Box.new w [.int .i64 op, .int .i64 d, .int .i64 a, .int .i64 k] 38)
  replace z0 := cell_below bV z0
  replace cx := cell_below bV cx
  have BV := hide bV
  clear bV
  have ED : Hid (Wrd.wdo 1 x k = (x + k) % 65536) := show _ = _ by
    unfold Wrd.wdo
    simp [bx.1, bx.2, k0, show k < 65536 by omega]
  go_enter Tryz.func66, Tryz.ntmps66
  go_wp2_with fail
  generalize w.alloc (.cells #[.int .i64 op, .int .i64 d, .int .i64 a, .int .i64 k] 38) = V at *
  have i2 := I.out.r.cell 2 _ rfl
  have i3 := I.out.r.cell 3 _ rfl
  refine region_tail 10 (by kernel_rfl) (by kernel_rfl) ?_
  simp only [List.take_succ_cons, List.take_zero, List.drop_succ_cons, List.drop_zero]
  repeat still_step
  refine wpStill_nil ?_
  go_wp2_with fail
  refine (Wrd.implDo 1 x k _).mono ?_
  rintro e u ⟨rfl, hb⟩
  rw [ED.out]
  have BU := hide (BV.out.drew.trans (hb.mono BV.out.size))
  clear hb I z0 cx BV i2 i3 ED
  go_wp2
  go_ret
  exact ⟨rfl, BU.out⟩
end Go.Proofs.YtnhpmbhphbphaaaGreat.MchI
