/-
  A copy of a machine with words of its own, one of which is written; what a step does to machines whose next word is known.
-/
import Derived.Test.YtnhpmbhphbphaaaGreatMpC
namespace Go.Proofs.YtnhpmbhphbphaaaGreat.Mch
set_option linter.unusedVariables false
set_option linter.unusedSimpArgs false
open Go.ChangeShapes Go.WideShapes Go.ChangeAt Go.RowKit IntS
structure Cp (n : World) (X g cap : Nat) (cells : List Value) (mem : List Int) (u : World) : Prop where
  bn : Below n.heap.size n u
  bx : Box X 25 cells u
  row : WRow u g (.slice (some ⟨g, 0, none⟩) mem.length cap) mem
  hx : n.heap.size ≤ X
  hg : X < g
  lt : g < u.heap.size
theorem Cp.start {n u : World} {g cap : Nat} {cells : List Value} {mem : List Int} (ht : Turn (n.alloc (.cells cells.toArray 25)).heap.size ((n.alloc (.cells cells.toArray 25)).alloc (.cells #[] 3)) u)
    (hr : WRow u g (.slice (some ⟨g, 0, none⟩) mem.length cap) mem) (hg : (n.alloc (.cells cells.toArray 25)).heap.size ≤ g) (hl : g < u.heap.size) : Cp n n.heap.size g cap cells mem u := by
  have e1 : (n.alloc (.cells cells.toArray 25)).heap.size = n.heap.size + 1 := by simp
  have b1 : Below n.heap.size n (n.alloc (.cells cells.toArray 25)) := (Below.refl _ _).alloc (Nat.le_refl _) _
  have b2 : Below (n.alloc (.cells cells.toArray 25)).heap.size (n.alloc (.cells cells.toArray 25)) ((n.alloc (.cells cells.toArray 25)).alloc (.cells #[] 3)) := (Below.refl _ _).alloc (Nat.le_refl _) _
  have hx := ((Box.new n cells 25).below b2).turn ht (by omega)
  refine ⟨(b1.trans (b2.mono b1.size)).trans (ht.below (by omega) (b1.trans (b2.mono b1.size)).size), hx, hr, Nat.le_refl _, by omega, hl⟩
theorem Cp.below {n u u' : World} {X g cap : Nat} {cells : List Value} {mem : List Int} (h : Cp n X g cap cells mem u) (hb : Below u.heap.size u u') : Cp n X g cap cells mem u' :=
  ⟨h.bn.trans (hb.mono h.bn.size), h.bx.below hb, h.row.below hb, h.hx, h.hg, Nat.lt_of_lt_of_le h.lt hb.size⟩
theorem Cp.setX {n u : World} {X g cap : Nat} {cells cells' : List Value} {mem : List Int} (h : Cp n X g cap cells mem u) (i : Nat) (v : Value) (hi : i < cells.length) (he : cells.set i v = cells') : Cp n X g cap cells' mem (u.setCell ⟨X, i, none⟩ v) := by
  have T : Turn X u (u.setCell ⟨X, i, none⟩ v) := (Turn.refl X u).setCell rfl _
  exact ⟨h.bn.trans (T.below h.hx h.bn.size), h.bx.set i v hi he, h.row.turn T (by have := h.hg; omega), h.hx, h.hg, Nat.lt_of_lt_of_le h.lt T.size⟩
theorem Cp.put {n u : World} {X g cap : Nat} {cells : List Value} {mem : List Int} (h : Cp n X g cap cells mem u) (k : Nat) (y : Int) (hk : k < mem.length) :
    (∃ z, u.cell? ⟨g, k, none⟩ = some (.int .i64 z)) ∧ u.frozen? ⟨g, k, none⟩ = false ∧ Cp n X g cap cells (mem.set k y) (u.setCell ⟨g, k, none⟩ (.int .i64 y)) := by
  have T : Turn g u (u.setCell ⟨g, k, none⟩ (.int .i64 y)) := (Turn.refl g u).setCell rfl _
  have hr := h.row
  obtain ⟨c, f⟩ := row_at hr (show mem[k]? = some mem[k] from List.getElem?_eq_getElem hk)
  rw [Nat.zero_add] at c f
  have hs := row_set hr k y hk
  rw [Nat.zero_add] at hs
  refine ⟨⟨_, c⟩, f, ⟨h.bn.trans (T.below (by have := h.hx; have := h.hg; omega) h.bn.size), h.bx.turn T (by have := h.hg; omega), ?_, h.hx, h.hg, Nat.lt_of_lt_of_le h.lt T.size⟩⟩
  exact hs
theorem mach_mem {u : World} {m : M} {v1 v2 v3 v4 vm : Value} {mem' : List Int} {B : Nat} (h : RMach u (mv m v1 v2 v3 v4) m) (hr : Row u B vm mem') (pc save halt count : Int) (lets waits : Bool) :
    RMach u (mv ⟨m.regs, pc, mem', save, lets, waits, halt, m.ins, m.outs, count⟩ v1 vm v3 v4) ⟨m.regs, pc, mem', save, lets, waits, halt, m.ins, m.outs, count⟩ := by
  obtain ⟨r', e', i', o', b1, b2, b3, b4, hc, h1, h2, h3, h4⟩ := h
  simp only [mv, List.cons.injEq, and_true, true_and] at hc
  obtain ⟨rfl, rfl, rfl, rfl⟩ := hc
  exact ⟨_, _, _, _, b1, B, b3, b4, rfl, h1, hr, h3, h4⟩
theorem put_ok {op d a k : Int} (h : Ins.okB op d a k = true) : 0 ≤ Ins.putN op d a k ∧ Ins.putN op d a k < 65536 ∧ Ins.takeB (Ins.putN op d a k) = true ∧ Ins.putN op d a k / 4096 = op ∧ Ins.putN op d a k / 1024 % 4 = d ∧ Ins.putN op d a k / 256 % 4 = a ∧ Ins.putN op d a k % 256 = k := by
  obtain ⟨o0, o1, d0, d1, a0, a1, k0, k1, _⟩ := Ins.okB_bd h
  have e : Ins.putN op d a k = op * 4096 + d * 1024 + a * 256 + k := by unfold Ins.putN; rw [if_pos h]
  have e1 : Ins.putN op d a k / 4096 = op := by rw [e]; omega
  have e2 : Ins.putN op d a k / 1024 % 4 = d := by rw [e]; omega
  have e3 : Ins.putN op d a k / 256 % 4 = a := by rw [e]; omega
  have e4 : Ins.putN op d a k % 256 = k := by rw [e]; omega
  have hb : 0 ≤ Ins.putN op d a k ∧ Ins.putN op d a k < 65536 := by rw [e]; omega
  refine ⟨hb.1, hb.2, ?_, e1, e2, e3, e4⟩
  unfold Ins.takeB
  rw [e1, e2, e3, e4, h, decide_eq_true hb]
  rfl
/-- A machine that goes on with a known instruction does it. -/
theorem step_put {m : M} (ok : okM m = true) (hh : m.halt = 0) (hc : m.count ≠ 1000000) (irq : Bool) (P : Nat) (hp : (sampleM m irq).pc = (P : Int)) (hP : P < 64) {op d a k : Int} (hi : Ins.okB op d a k = true) (hm : m.mem[P]? = some (Ins.putN op d a k)) :
    stepM m irq = doM (sampleM m irq) op d.toNat a.toNat k := by
  obtain ⟨s1, s2, s3, s4, s5, s6⟩ := sample_same m irq
  obtain ⟨q0, q1, q2, q3, q4, q5, q6⟩ := put_ok hi
  rw [step_goM ok hh hc]
  unfold goM
  have e : (sampleM m irq).mem.getD (sampleM m irq).pc.toNat 0 = Ins.putN op d a k := by
    rw [s2, hp, Int.toNat_natCast, List.getD_eq_getElem?_getD, hm]
    rfl
  rw [if_neg (by rw [hp]; omega), e, q2, if_pos rfl, q3, q4, q5, q6]
theorem ok_mem {m : M} (ok : okM m = true) (mem : List Int) (hm : mem.length = 64) (hw : wordsB mem = true) (pc save halt count : Int) (lets waits : Bool) (p : 0 ≤ pc ∧ pc < 65536) (s : 0 ≤ save ∧ save < 65536) (h : 0 ≤ halt ∧ halt ≤ 4) (c : 0 ≤ count ∧ count ≤ 1000000) :
    okM ⟨m.regs, pc, mem, save, lets, waits, halt, m.ins, m.outs, count⟩ = true := by
  have O := okM_of ok
  exact OkM.back ⟨O.regs, hm, O.wr, hw, O.wi, O.wo, p, s, h, c⟩
/-- P63. -/
theorem step_return {m : M} (ok : okM m = true) (hc : m.count ≠ 1000000) :
    stepM ⟨m.regs, m.pc, m.mem.set 48 (Ins.putN 0 0 0 1), m.save, true, false, 0, m.ins, m.outs, m.count⟩ true = ⟨m.regs, m.pc, m.mem.set 48 (Ins.putN 0 0 0 1), m.pc, true, false, 0, m.ins, m.outs, m.count + 1⟩ := by
  have O := okM_of ok
  have mm := O.mem
  have pp := O.p
  have hi : Ins.okB 0 0 0 1 = true := by decide
  have okx := ok_mem ok (m.mem.set 48 (Ins.putN 0 0 0 1)) (by rw [List.length_set]; exact mm) (words_set O.wm 48 _ ⟨(put_ok hi).1, (put_ok hi).2.1⟩) m.pc m.save 0 m.count true false O.p O.s (by omega) O.c
  rw [step_put okx rfl hc true 48 rfl (by omega) hi (by show (m.mem.set 48 _)[48]? = _; rw [List.getElem?_set_self (by omega)])]
  show stopM _ 1 = _
  unfold stopM
  rw [if_pos rfl]
  show M.mk _ (m.pc % 65536) _ _ _ _ _ _ _ _ = _
  rw [show m.pc % 65536 = m.pc by omega]
  rfl
/-- P64. -/
theorem step_come {m : M} (ok : okM m = true) (hc : m.count ≠ 1000000) (y : M) (hy : stepM ⟨m.regs, 5, m.mem.set 5 (Ins.putN 15 1 0 0), m.save, m.lets, false, 0, m.ins, m.outs, m.count⟩ false = y) :
    y.pc = 6 ∧ y.regs.length = 4 ∧ ((m.ins = [] ∧ y.regs[1]? = some 0 ∧ y.ins = []) ∨ ∃ n r, m.ins = n :: r ∧ y.regs[1]? = some n ∧ y.ins = r) := by
  have O := okM_of ok
  have mm := O.mem
  have rr := O.regs
  have hi : Ins.okB 15 1 0 0 = true := by decide
  have okx := ok_mem ok (m.mem.set 5 (Ins.putN 15 1 0 0)) (by rw [List.length_set]; exact mm) (words_set O.wm 5 _ ⟨(put_ok hi).1, (put_ok hi).2.1⟩) 5 m.save 0 m.count m.lets false (by omega) O.s (by omega) O.c
  rw [step_put okx rfl hc false 5 (by rw [sample_none (by rfl)]; rfl) (by omega) hi (by show (m.mem.set 5 _)[5]? = _; rw [List.getElem?_set_self (by omega)]), sample_none (by rfl)] at hy
  have e : doM ⟨m.regs, 5, m.mem.set 5 (Ins.putN 15 1 0 0), m.save, m.lets, false, 0, m.ins, m.outs, m.count⟩ 15 (1 : Int).toNat (0 : Int).toNat 0 = inM ⟨m.regs, 5, m.mem.set 5 (Ins.putN 15 1 0 0), m.save, m.lets, false, 0, m.ins, m.outs, m.count⟩ 1 := rfl
  rw [e] at hy
  unfold inM at hy
  cases hin : m.ins with
  | nil =>
    simp only [hin] at hy
    subst hy
    exact ⟨rfl, by show (m.regs.set 1 0).length = 4; rw [List.length_set]; exact rr, Or.inl ⟨rfl, by show (m.regs.set 1 0)[1]? = _; rw [List.getElem?_set_self (by omega)], rfl⟩⟩
  | cons n r =>
    simp only [hin] at hy
    subst hy
    exact ⟨rfl, by show (m.regs.set 1 n).length = 4; rw [List.length_set]; exact rr, Or.inr ⟨n, r, rfl, by show (m.regs.set 1 n)[1]? = _; rw [List.getElem?_set_self (by omega)], rfl⟩⟩
/-- P62. -/
theorem step_shift {m : M} (ok : okM m = true) (hc : m.count < 1000000) (k : Int) (k0 : 0 ≤ k) (k1 : k < 16) (mem' : List Int) (hm : mem'.length = 64) (hw : wordsB mem' = true) (h0 : mem'[0]? = some (Ins.putN 8 2 3 k)) (y : M) (hy : stepM ⟨m.regs, 0, mem', m.save, m.lets, false, 0, m.ins, m.outs, m.count⟩ false = y) :
    y.regs.length = 4 ∧ y.regs[2]? = some (shiftN (m.regs.getD 3 0) k.toNat) ∧ y.count = m.count + 1 := by
  have O := okM_of ok
  have rr := O.regs
  have hi : Ins.okB 8 2 3 k = true := by
    have hk : k = 0 ∨ k = 1 ∨ k = 2 ∨ k = 3 ∨ k = 4 ∨ k = 5 ∨ k = 6 ∨ k = 7 ∨ k = 8 ∨ k = 9 ∨ k = 10 ∨ k = 11 ∨ k = 12 ∨ k = 13 ∨ k = 14 ∨ k = 15 := by omega
    rcases hk with rfl | rfl | rfl | rfl | rfl | rfl | rfl | rfl | rfl | rfl | rfl | rfl | rfl | rfl | rfl | rfl <;> decide
  have okx := ok_mem ok mem' hm hw 0 m.save 0 m.count m.lets false (by omega) O.s (by omega) O.c
  rw [step_put okx rfl (by show m.count ≠ 1000000; omega) false 0 (by rw [sample_none (by rfl)]; rfl) (by omega) hi h0, sample_none (by rfl)] at hy
  subst hy
  refine ⟨by show (m.regs.set 2 _).length = 4; rw [List.length_set]; exact rr, ?_, rfl⟩
  show (m.regs.set 2 _)[2]? = _
  rw [List.getElem?_set_self (by omega)]
  rfl
end Go.Proofs.YtnhpmbhphbphaaaGreat.Mch
