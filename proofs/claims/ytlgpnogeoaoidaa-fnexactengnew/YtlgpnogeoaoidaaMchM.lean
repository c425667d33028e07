/-
  Machines: what it is that a struct holds one, and contracts of the laws' own helpers over them (szMchMach, toMchMach, eqMchMach, markMchMach, heldMchMach).
-/
import Derived.Test.YtlgpnogeoaoidaaIntS
import Derived.Test.YtlgpnogeoaoidaaShape
namespace Go.Proofs.Ytlgpnogeoaoidaa.Mch
open Go.ChangeShapes Go.WideShapes Go.ChangeAt Go.RowKit IntS
/-- A block that holds a struct's cells. -/
structure Rec (Z : Nat) (cs : List Value) (w : World) : Prop where
  lt : Z < w.heap.size
  cell : ∀ (i : Nat) v, cs[i]? = some v → w.cell? ⟨Z, i, none⟩ = some v
  soft : ∀ i : Nat, w.frozen? ⟨Z, i, none⟩ = false
theorem Rec.new (w : World) (cs : List Value) (t : TypeId) : Rec w.heap.size cs (w.alloc (.cells cs.toArray t)) :=
  ⟨by simp, fun i v h => by rw [World.cell?_alloc_new]; simpa using h, fun i => by simp⟩
theorem Rec.turn {Z B : Nat} {cs : List Value} {w w' : World} (h : Rec Z cs w) (ht : Turn B w w') (hB : Z ≠ B) : Rec Z cs w' :=
  ⟨Nat.lt_of_lt_of_le h.lt ht.size, fun i v hv => (ht.cell (p := ⟨Z, i, none⟩) h.lt hB).trans (h.cell i v hv), fun i => (ht.frozen (p := ⟨Z, i, none⟩) h.lt hB).trans (h.soft i)⟩
theorem Rec.below {Z : Nat} {cs : List Value} {w w' : World} (h : Rec Z cs w) (hb : Below w.heap.size w w') : Rec Z cs w' := h.turn (B := Z + 1) (Turn.of_below hb) (by omega)
theorem Rec.alloc {Z : Nat} {cs : List Value} {w : World} (h : Rec Z cs w) (o : Obj) : Rec Z cs (w.alloc o) := h.below ((Below.refl _ _).alloc (Nat.le_refl _) o)
theorem Rec.other {Z : Nat} {cs : List Value} {w : World} (h : Rec Z cs w) (p : Addr) (v : Value) (hp : p.block ≠ Z) : Rec Z cs (w.setCell p v) := h.turn ((Turn.refl p.block w).setCell rfl v) (fun e => hp e.symm)
theorem Rec.set {Z : Nat} {cs cs' : List Value} {w : World} (h : Rec Z cs w) (i : Nat) (v : Value) (hi : i < cs.length) (he : cs.set i v = cs') : Rec Z cs' (w.setCell ⟨Z, i, none⟩ v) := by
  subst he
  refine ⟨by simpa [World.setCell] using h.lt, fun j x hx => ?_, fun j => (World.frozen?_setCell ..).trans (h.soft j)⟩
  by_cases e : i = j
  · subst e
    rw [List.getElem?_set_self hi] at hx
    obtain rfl := Option.some.inj hx
    exact World.cell?_setCell_same w _ _ (h.cell i _ (List.getElem?_eq_getElem hi))
  · rw [List.getElem?_set_ne e] at hx
    rw [World.cell?_setCell_other w _ _ _ (fun h2 => e (congrArg Addr.off h2))]
    exact h.cell j x hx
theorem other_row {w : World} {B : Nat} {v : Value} {xs : List Int} (h : WRow w B v xs) (p : Addr) (x : Value) (hp : p.block ≠ B) : WRow (w.setCell p x) B v xs := h.turn ((Turn.refl p.block w).setCell rfl x) (fun e => hp e.symm)
/-- A machine. -/
structure M where
  regs : List Int
  pc : Int
  mem : List Int
  save : Int
  lets : Bool
  waits : Bool
  halt : Int
  ins : List Int
  outs : List Int
  count : Int
/-- A machine's cells. -/
def mv (m : M) (r e i o : Value) : List Value := [r, .int .i64 m.pc, e, .int .i64 m.save, .bool m.lets, .bool m.waits, .int .i64 m.halt, i, o, .int .i64 m.count]
/-- A struct that holds a machine. -/
structure RMach (w : World) (c : List Value) (m : M) : Prop where
  ex : ∃ r e i o b1 b2 b3 b4, c = mv m r e i o ∧ Row w b1 r m.regs ∧ Row w b2 e m.mem ∧ Row w b3 i m.ins ∧ Row w b4 o m.outs
theorem RMach.below {w w' : World} {c : List Value} {m : M} (h : RMach w c m) (hb : Below w.heap.size w w') : RMach w' c m := by
  obtain ⟨r, e, i, o, b1, b2, b3, b4, hc, h1, h2, h3, h4⟩ := h
  exact ⟨r, e, i, o, b1, b2, b3, b4, hc, h1.below hb, h2.below hb, h3.below hb, h4.below hb⟩
/-- A struct that holds a machine whose lists lie in blocks of their own, from block lo on. -/
structure WMach (w : World) (lo : Nat) (c : List Value) (m : M) : Prop where
  ex : ∃ r e i o b1 b2 b3 b4, c = mv m r e i o ∧ WRow w b1 r m.regs ∧ WRow w b2 e m.mem ∧ WRow w b3 i m.ins ∧ WRow w b4 o m.outs ∧ lo ≤ b1 ∧ lo ≤ b2 ∧ lo ≤ b3 ∧ lo ≤ b4 ∧ b1 ≠ b2 ∧ b1 ≠ b3 ∧ b1 ≠ b4 ∧ b2 ≠ b3 ∧ b2 ≠ b4 ∧ b3 ≠ b4
theorem WMach.read {w : World} {lo : Nat} {c : List Value} {m : M} (h : WMach w lo c m) : RMach w c m := by
  obtain ⟨r, e, i, o, b1, b2, b3, b4, hc, h1, h2, h3, h4, _⟩ := h
  exact ⟨r, e, i, o, b1, b2, b3, b4, hc, h1.row, h2.row, h3.row, h4.row⟩
theorem WMach.below {w w' : World} {lo : Nat} {c : List Value} {m : M} (h : WMach w lo c m) (hb : Below w.heap.size w w') : WMach w' lo c m := by
  obtain ⟨r, e, i, o, b1, b2, b3, b4, hc, h1, h2, h3, h4, hr⟩ := h
  exact ⟨r, e, i, o, b1, b2, b3, b4, hc, h1.below hb, h2.below hb, h3.below hb, h4.below hb, hr⟩
/-- No list of a machine is longer than that. -/
def Small (m : M) : Prop := m.regs.length ≤ 1048576 ∧ m.mem.length ≤ 1048576 ∧ m.ins.length ≤ 1048576 ∧ m.outs.length ≤ 1048576
/-- The three blocks of toMchMach: what came in, the answer, and what is filled. -/
structure Three (w : World) (n : Nat) (A Z O : List Value) (u : World) : Prop where
  bw : Below n w u
  a : Rec n A u
  z : Rec (n + 1) Z u
  o : Rec (n + 1 + 1) O u
theorem Three.new (w : World) (A Z O : List Value) (t1 t2 t3 : TypeId) : Three w w.heap.size A Z O (((w.alloc (.cells A.toArray t1)).alloc (.cells Z.toArray t2)).alloc (.cells O.toArray t3)) := by
  have hz := Rec.new (w.alloc (.cells A.toArray t1)) Z t2
  have ez : (w.alloc (.cells A.toArray t1)).heap.size = w.heap.size + 1 := by simp
  have ho := Rec.new ((w.alloc (.cells A.toArray t1)).alloc (.cells Z.toArray t2)) O t3
  have eo : ((w.alloc (.cells A.toArray t1)).alloc (.cells Z.toArray t2)).heap.size = w.heap.size + 1 + 1 := by simp
  rw [ez] at hz
  rw [eo] at ho
  exact ⟨(((Below.refl _ _).alloc (Nat.le_refl _) _).alloc (by simp) _).alloc (by simp; omega) _, ((Rec.new w A t1).alloc _).alloc _, hz.alloc _, ho⟩
theorem Three.below {w u u' : World} {n : Nat} {A Z O : List Value} (h : Three w n A Z O u) (hb : Below u.heap.size u u') : Three w n A Z O u' :=
  ⟨h.bw.trans (hb.mono (Nat.le_of_lt h.a.lt)), h.a.below hb, h.z.below hb, h.o.below hb⟩
theorem Three.set {w u : World} {n : Nat} {A Z O O' : List Value} (h : Three w n A Z O u) (i : Nat) (v : Value) (hi : i < O.length) (he : O.set i v = O') : Three w n A Z O' (u.setCell ⟨n + 1 + 1, i, none⟩ v) :=
  ⟨h.bw.setCell (by show n ≤ n + 1 + 1; omega) _, h.a.other _ _ (by show n + 1 + 1 ≠ n; omega), h.z.other _ _ (by show n + 1 + 1 ≠ n + 1; omega), h.o.set i v hi he⟩
set_option maxRecDepth 8000 in
set_option maxHeartbeats 4000000 in
theorem toMch (m : M) (c : List Value) (w : World) (h : RMach w c m) (hs : Small m) :
    Calls Try.prog 7 #[.agg c.toArray] w fun e w' => ∃ c', e = .returned (.agg c'.toArray) ∧ WMach w' w.heap.size c' m ∧ Below w.heap.size w w' := by
  obtain ⟨r, e, i, o, b1, b2, b3, b4, rfl, h1, h2, h3, h4⟩ := h
  obtain ⟨regs, pc, mem, save, lets, waits, halt, ins, outs, count⟩ := m
  obtain ⟨l1, l2, l3, l4⟩ := hs
  simp only [mv] at *
  have T := hide (Three.new w [r, .int .i64 pc, e, .int .i64 save, .bool lets, .bool waits, .int .i64 halt, i, o, .int .i64 count] [.slice none 0 0, .int .i64 0, .slice none 0 0, .int .i64 0, .bool false, .bool false, .int .i64 0, .slice none 0 0, .slice none 0 0, .int .i64 0] [.slice none 0 0, .int .i64 0, .slice none 0 0, .int .i64 0, .bool false, .bool false, .int .i64 0, .slice none 0 0, .slice none 0 0, .int .i64 0] 24 26 26)
  have H1 := hide h1
  have H2 := hide h2
  have H3 := hide h3
  have H4 := hide h4
  clear h1 h2 h3 h4
  go_enter Try.func7, Try.ntmps7
  go_wp2_with fail
  refine (toIntS regs b1 _ _ (H1.out.below T.out.bw) l1).mono ?_
  rintro e u1 ⟨g1, rfl, R1, ge1, gl1, hb⟩
  have gO1 : w.heap.size + 1 + 1 < g1 := Nat.lt_of_lt_of_le T.out.o.lt ge1
  replace R1 := hide R1
  have T1 := T.out.below hb
  clear ge1 T hb
  have o0 := T1.o.cell 0 _ rfl
  have f0 := T1.o.soft 0
  have o1 := T1.o.cell 1 _ rfl
  have f1 := T1.o.soft 1
  have a1 := T1.a.cell 1 _ rfl
  have a2 := T1.a.cell 2 _ rfl
  have T := hide ((T1.set 0 (.slice (some ⟨g1, 0, none⟩) regs.length regs.length) (by simp) (show _ = [.slice (some ⟨g1, 0, none⟩) regs.length regs.length, .int .i64 0, .slice none 0 0, .int .i64 0, .bool false, .bool false, .int .i64 0, .slice none 0 0, .slice none 0 0, .int .i64 0] from rfl)).set 1 (.int .i64 pc) (by simp) (show _ = [.slice (some ⟨g1, 0, none⟩) regs.length regs.length, .int .i64 pc, .slice none 0 0, .int .i64 0, .bool false, .bool false, .int .i64 0, .slice none 0 0, .slice none 0 0, .int .i64 0] from rfl))
  clear T1
  replace R1 := hide (other_row (other_row R1.out ⟨w.heap.size + 1 + 1, 0, none⟩ (.slice (some ⟨g1, 0, none⟩) regs.length regs.length) (Nat.ne_of_lt gO1)) ⟨w.heap.size + 1 + 1, 1, none⟩ (.int .i64 pc) (Nat.ne_of_lt gO1))
  go_wp2_with fail
  refine (toIntS mem b2 _ _ (H2.out.below T.out.bw) l2).mono ?_
  rintro e u2 ⟨g2, rfl, R2, ge2, gl2, hb⟩
  clear o0 f0 o1 f1 a1 a2
  have gO2 : w.heap.size + 1 + 1 < g2 := Nat.lt_of_lt_of_le T.out.o.lt ge2
  have d1 : g1 < g2 := Nat.lt_of_lt_of_le gl1 (by simpa [World.setCell] using ge2)
  clear gl1
  replace R1 := hide (R1.out.below hb)
  replace R2 := hide R2
  have T2 := T.out.below hb
  clear ge2 T hb
  have o2 := T2.o.cell 2 _ rfl
  have f2 := T2.o.soft 2
  have o3 := T2.o.cell 3 _ rfl
  have f3 := T2.o.soft 3
  have o4 := T2.o.cell 4 _ rfl
  have f4 := T2.o.soft 4
  have o5 := T2.o.cell 5 _ rfl
  have f5 := T2.o.soft 5
  have o6 := T2.o.cell 6 _ rfl
  have f6 := T2.o.soft 6
  have a3 := T2.a.cell 3 _ rfl
  have a4 := T2.a.cell 4 _ rfl
  have a5 := T2.a.cell 5 _ rfl
  have a6 := T2.a.cell 6 _ rfl
  have a7 := T2.a.cell 7 _ rfl
  have T := hide (((((T2.set 2 (.slice (some ⟨g2, 0, none⟩) mem.length mem.length) (by simp) (show _ = [.slice (some ⟨g1, 0, none⟩) regs.length regs.length, .int .i64 pc, .slice (some ⟨g2, 0, none⟩) mem.length mem.length, .int .i64 0, .bool false, .bool false, .int .i64 0, .slice none 0 0, .slice none 0 0, .int .i64 0] from rfl)).set 3 (.int .i64 save) (by simp) (show _ = [.slice (some ⟨g1, 0, none⟩) regs.length regs.length, .int .i64 pc, .slice (some ⟨g2, 0, none⟩) mem.length mem.length, .int .i64 save, .bool false, .bool false, .int .i64 0, .slice none 0 0, .slice none 0 0, .int .i64 0] from rfl)).set 4 (.bool lets) (by simp) (show _ = [.slice (some ⟨g1, 0, none⟩) regs.length regs.length, .int .i64 pc, .slice (some ⟨g2, 0, none⟩) mem.length mem.length, .int .i64 save, .bool lets, .bool false, .int .i64 0, .slice none 0 0, .slice none 0 0, .int .i64 0] from rfl)).set 5 (.bool waits) (by simp) (show _ = [.slice (some ⟨g1, 0, none⟩) regs.length regs.length, .int .i64 pc, .slice (some ⟨g2, 0, none⟩) mem.length mem.length, .int .i64 save, .bool lets, .bool waits, .int .i64 0, .slice none 0 0, .slice none 0 0, .int .i64 0] from rfl)).set 6 (.int .i64 halt) (by simp) (show _ = [.slice (some ⟨g1, 0, none⟩) regs.length regs.length, .int .i64 pc, .slice (some ⟨g2, 0, none⟩) mem.length mem.length, .int .i64 save, .bool lets, .bool waits, .int .i64 halt, .slice none 0 0, .slice none 0 0, .int .i64 0] from rfl))
  clear T2
  replace R1 := hide (other_row (other_row (other_row (other_row (other_row R1.out ⟨w.heap.size + 1 + 1, 2, none⟩ (.slice (some ⟨g2, 0, none⟩) mem.length mem.length) (Nat.ne_of_lt gO1)) ⟨w.heap.size + 1 + 1, 3, none⟩ (.int .i64 save) (Nat.ne_of_lt gO1)) ⟨w.heap.size + 1 + 1, 4, none⟩ (.bool lets) (Nat.ne_of_lt gO1)) ⟨w.heap.size + 1 + 1, 5, none⟩ (.bool waits) (Nat.ne_of_lt gO1)) ⟨w.heap.size + 1 + 1, 6, none⟩ (.int .i64 halt) (Nat.ne_of_lt gO1))
  replace R2 := hide (other_row (other_row (other_row (other_row (other_row R2.out ⟨w.heap.size + 1 + 1, 2, none⟩ (.slice (some ⟨g2, 0, none⟩) mem.length mem.length) (Nat.ne_of_lt gO2)) ⟨w.heap.size + 1 + 1, 3, none⟩ (.int .i64 save) (Nat.ne_of_lt gO2)) ⟨w.heap.size + 1 + 1, 4, none⟩ (.bool lets) (Nat.ne_of_lt gO2)) ⟨w.heap.size + 1 + 1, 5, none⟩ (.bool waits) (Nat.ne_of_lt gO2)) ⟨w.heap.size + 1 + 1, 6, none⟩ (.int .i64 halt) (Nat.ne_of_lt gO2))
  go_wp2_with fail
  refine (toIntS ins b3 _ _ (H3.out.below T.out.bw) l3).mono ?_
  rintro e u3 ⟨g3, rfl, R3, ge3, gl3, hb⟩
  clear o2 f2 o3 f3 o4 f4 o5 f5 o6 f6 a3 a4 a5 a6 a7
  have gO3 : w.heap.size + 1 + 1 < g3 := Nat.lt_of_lt_of_le T.out.o.lt ge3
  have d2 : g2 < g3 := Nat.lt_of_lt_of_le gl2 (by simpa [World.setCell] using ge3)
  clear gl2
  replace R1 := hide (R1.out.below hb)
  replace R2 := hide (R2.out.below hb)
  replace R3 := hide R3
  have T3 := T.out.below hb
  clear ge3 T hb
  have o7 := T3.o.cell 7 _ rfl
  have f7 := T3.o.soft 7
  have a8 := T3.a.cell 8 _ rfl
  have T := hide (T3.set 7 (.slice (some ⟨g3, 0, none⟩) ins.length ins.length) (by simp) (show _ = [.slice (some ⟨g1, 0, none⟩) regs.length regs.length, .int .i64 pc, .slice (some ⟨g2, 0, none⟩) mem.length mem.length, .int .i64 save, .bool lets, .bool waits, .int .i64 halt, .slice (some ⟨g3, 0, none⟩) ins.length ins.length, .slice none 0 0, .int .i64 0] from rfl))
  clear T3
  replace R1 := hide (other_row R1.out ⟨w.heap.size + 1 + 1, 7, none⟩ (.slice (some ⟨g3, 0, none⟩) ins.length ins.length) (Nat.ne_of_lt gO1))
  replace R2 := hide (other_row R2.out ⟨w.heap.size + 1 + 1, 7, none⟩ (.slice (some ⟨g3, 0, none⟩) ins.length ins.length) (Nat.ne_of_lt gO2))
  replace R3 := hide (other_row R3.out ⟨w.heap.size + 1 + 1, 7, none⟩ (.slice (some ⟨g3, 0, none⟩) ins.length ins.length) (Nat.ne_of_lt gO3))
  go_wp2_with fail
  refine (toIntS outs b4 _ _ (H4.out.below T.out.bw) l4).mono ?_
  rintro e u4 ⟨g4, rfl, R4, ge4, gl4, hb⟩
  clear o7 f7 a8
  have gO4 : w.heap.size + 1 + 1 < g4 := Nat.lt_of_lt_of_le T.out.o.lt ge4
  have d3 : g3 < g4 := Nat.lt_of_lt_of_le gl3 (by simpa [World.setCell] using ge4)
  clear gl3
  replace R1 := hide (R1.out.below hb)
  replace R2 := hide (R2.out.below hb)
  replace R3 := hide (R3.out.below hb)
  replace R4 := hide R4
  have T4 := T.out.below hb
  clear ge4 T hb
  have o8 := T4.o.cell 8 _ rfl
  have f8 := T4.o.soft 8
  have o9 := T4.o.cell 9 _ rfl
  have f9 := T4.o.soft 9
  have a9 := T4.a.cell 9 _ rfl
  have o0 := T4.o.cell 0 _ rfl
  have o1 := T4.o.cell 1 _ rfl
  have o2 := T4.o.cell 2 _ rfl
  have o3 := T4.o.cell 3 _ rfl
  have o4 := T4.o.cell 4 _ rfl
  have o5 := T4.o.cell 5 _ rfl
  have o6 := T4.o.cell 6 _ rfl
  have o7 := T4.o.cell 7 _ rfl
  have z0 := T4.z.cell 0 _ rfl
  have e0 := T4.z.soft 0
  have z1 := T4.z.cell 1 _ rfl
  have e1 := T4.z.soft 1
  have z2 := T4.z.cell 2 _ rfl
  have e2 := T4.z.soft 2
  have z3 := T4.z.cell 3 _ rfl
  have e3 := T4.z.soft 3
  have z4 := T4.z.cell 4 _ rfl
  have e4 := T4.z.soft 4
  have z5 := T4.z.cell 5 _ rfl
  have e5 := T4.z.soft 5
  have z6 := T4.z.cell 6 _ rfl
  have e6 := T4.z.soft 6
  have z7 := T4.z.cell 7 _ rfl
  have e7 := T4.z.soft 7
  have z8 := T4.z.cell 8 _ rfl
  have e8 := T4.z.soft 8
  have z9 := T4.z.cell 9 _ rfl
  have e9 := T4.z.soft 9
  have T := hide ((T4.set 8 (.slice (some ⟨g4, 0, none⟩) outs.length outs.length) (by simp) (show _ = [.slice (some ⟨g1, 0, none⟩) regs.length regs.length, .int .i64 pc, .slice (some ⟨g2, 0, none⟩) mem.length mem.length, .int .i64 save, .bool lets, .bool waits, .int .i64 halt, .slice (some ⟨g3, 0, none⟩) ins.length ins.length, .slice (some ⟨g4, 0, none⟩) outs.length outs.length, .int .i64 0] from rfl)).set 9 (.int .i64 count) (by simp) (show _ = [.slice (some ⟨g1, 0, none⟩) regs.length regs.length, .int .i64 pc, .slice (some ⟨g2, 0, none⟩) mem.length mem.length, .int .i64 save, .bool lets, .bool waits, .int .i64 halt, .slice (some ⟨g3, 0, none⟩) ins.length ins.length, .slice (some ⟨g4, 0, none⟩) outs.length outs.length, .int .i64 count] from rfl))
  have BW := T4.bw
  clear T4
  clear T
  have k1 : w.heap.size ≤ w.heap.size + 1 := by omega
  have k2 : w.heap.size ≤ w.heap.size + 1 + 1 := by omega
  go_wp2
  refine bodyPost_ret (v := .agg #[.slice (some ⟨g1, 0, none⟩) regs.length regs.length, .int .i64 pc, .slice (some ⟨g2, 0, none⟩) mem.length mem.length, .int .i64 save, .bool lets, .bool waits, .int .i64 halt, .slice (some ⟨g3, 0, none⟩) ins.length ins.length, .slice (some ⟨g4, 0, none⟩) outs.length outs.length, .int .i64 count]) (by simp [results, Try.results7, go_sem, z0, z1, z2, z3, z4, z5, z6, z7, z8, z9]) rfl ⟨[.slice (some ⟨g1, 0, none⟩) regs.length regs.length, .int .i64 pc, .slice (some ⟨g2, 0, none⟩) mem.length mem.length, .int .i64 save, .bool lets, .bool waits, .int .i64 halt, .slice (some ⟨g3, 0, none⟩) ins.length ins.length, .slice (some ⟨g4, 0, none⟩) outs.length outs.length, .int .i64 count], rfl, ?_, ((((((((((((BW.setCell k2 _).setCell k2 _).setCell k1 _).setCell k1 _).setCell k1 _).setCell k1 _).setCell k1 _).setCell k1 _).setCell k1 _).setCell k1 _).setCell k1 _).setCell k1 _)⟩
  exact ⟨_, _, _, _, g1, g2, g3, g4, rfl, (other_row (other_row (other_row (other_row (other_row (other_row (other_row (other_row (other_row (other_row (other_row (other_row R1.out ⟨w.heap.size + 1 + 1, 8, none⟩ (.slice (some ⟨g4, 0, none⟩) outs.length outs.length) (Nat.ne_of_lt gO1)) ⟨w.heap.size + 1 + 1, 9, none⟩ (.int .i64 count) (Nat.ne_of_lt gO1)) ⟨w.heap.size + 1, 0, none⟩ (.slice (some ⟨g1, 0, none⟩) regs.length regs.length) (Nat.ne_of_lt (Nat.lt_trans (Nat.lt_succ_self _) gO1))) ⟨w.heap.size + 1, 1, none⟩ (.int .i64 pc) (Nat.ne_of_lt (Nat.lt_trans (Nat.lt_succ_self _) gO1))) ⟨w.heap.size + 1, 2, none⟩ (.slice (some ⟨g2, 0, none⟩) mem.length mem.length) (Nat.ne_of_lt (Nat.lt_trans (Nat.lt_succ_self _) gO1))) ⟨w.heap.size + 1, 3, none⟩ (.int .i64 save) (Nat.ne_of_lt (Nat.lt_trans (Nat.lt_succ_self _) gO1))) ⟨w.heap.size + 1, 4, none⟩ (.bool lets) (Nat.ne_of_lt (Nat.lt_trans (Nat.lt_succ_self _) gO1))) ⟨w.heap.size + 1, 5, none⟩ (.bool waits) (Nat.ne_of_lt (Nat.lt_trans (Nat.lt_succ_self _) gO1))) ⟨w.heap.size + 1, 6, none⟩ (.int .i64 halt) (Nat.ne_of_lt (Nat.lt_trans (Nat.lt_succ_self _) gO1))) ⟨w.heap.size + 1, 7, none⟩ (.slice (some ⟨g3, 0, none⟩) ins.length ins.length) (Nat.ne_of_lt (Nat.lt_trans (Nat.lt_succ_self _) gO1))) ⟨w.heap.size + 1, 8, none⟩ (.slice (some ⟨g4, 0, none⟩) outs.length outs.length) (Nat.ne_of_lt (Nat.lt_trans (Nat.lt_succ_self _) gO1))) ⟨w.heap.size + 1, 9, none⟩ (.int .i64 count) (Nat.ne_of_lt (Nat.lt_trans (Nat.lt_succ_self _) gO1))), (other_row (other_row (other_row (other_row (other_row (other_row (other_row (other_row (other_row (other_row (other_row (other_row R2.out ⟨w.heap.size + 1 + 1, 8, none⟩ (.slice (some ⟨g4, 0, none⟩) outs.length outs.length) (Nat.ne_of_lt gO2)) ⟨w.heap.size + 1 + 1, 9, none⟩ (.int .i64 count) (Nat.ne_of_lt gO2)) ⟨w.heap.size + 1, 0, none⟩ (.slice (some ⟨g1, 0, none⟩) regs.length regs.length) (Nat.ne_of_lt (Nat.lt_trans (Nat.lt_succ_self _) gO2))) ⟨w.heap.size + 1, 1, none⟩ (.int .i64 pc) (Nat.ne_of_lt (Nat.lt_trans (Nat.lt_succ_self _) gO2))) ⟨w.heap.size + 1, 2, none⟩ (.slice (some ⟨g2, 0, none⟩) mem.length mem.length) (Nat.ne_of_lt (Nat.lt_trans (Nat.lt_succ_self _) gO2))) ⟨w.heap.size + 1, 3, none⟩ (.int .i64 save) (Nat.ne_of_lt (Nat.lt_trans (Nat.lt_succ_self _) gO2))) ⟨w.heap.size + 1, 4, none⟩ (.bool lets) (Nat.ne_of_lt (Nat.lt_trans (Nat.lt_succ_self _) gO2))) ⟨w.heap.size + 1, 5, none⟩ (.bool waits) (Nat.ne_of_lt (Nat.lt_trans (Nat.lt_succ_self _) gO2))) ⟨w.heap.size + 1, 6, none⟩ (.int .i64 halt) (Nat.ne_of_lt (Nat.lt_trans (Nat.lt_succ_self _) gO2))) ⟨w.heap.size + 1, 7, none⟩ (.slice (some ⟨g3, 0, none⟩) ins.length ins.length) (Nat.ne_of_lt (Nat.lt_trans (Nat.lt_succ_self _) gO2))) ⟨w.heap.size + 1, 8, none⟩ (.slice (some ⟨g4, 0, none⟩) outs.length outs.length) (Nat.ne_of_lt (Nat.lt_trans (Nat.lt_succ_self _) gO2))) ⟨w.heap.size + 1, 9, none⟩ (.int .i64 count) (Nat.ne_of_lt (Nat.lt_trans (Nat.lt_succ_self _) gO2))), (other_row (other_row (other_row (other_row (other_row (other_row (other_row (other_row (other_row (other_row (other_row (other_row R3.out ⟨w.heap.size + 1 + 1, 8, none⟩ (.slice (some ⟨g4, 0, none⟩) outs.length outs.length) (Nat.ne_of_lt gO3)) ⟨w.heap.size + 1 + 1, 9, none⟩ (.int .i64 count) (Nat.ne_of_lt gO3)) ⟨w.heap.size + 1, 0, none⟩ (.slice (some ⟨g1, 0, none⟩) regs.length regs.length) (Nat.ne_of_lt (Nat.lt_trans (Nat.lt_succ_self _) gO3))) ⟨w.heap.size + 1, 1, none⟩ (.int .i64 pc) (Nat.ne_of_lt (Nat.lt_trans (Nat.lt_succ_self _) gO3))) ⟨w.heap.size + 1, 2, none⟩ (.slice (some ⟨g2, 0, none⟩) mem.length mem.length) (Nat.ne_of_lt (Nat.lt_trans (Nat.lt_succ_self _) gO3))) ⟨w.heap.size + 1, 3, none⟩ (.int .i64 save) (Nat.ne_of_lt (Nat.lt_trans (Nat.lt_succ_self _) gO3))) ⟨w.heap.size + 1, 4, none⟩ (.bool lets) (Nat.ne_of_lt (Nat.lt_trans (Nat.lt_succ_self _) gO3))) ⟨w.heap.size + 1, 5, none⟩ (.bool waits) (Nat.ne_of_lt (Nat.lt_trans (Nat.lt_succ_self _) gO3))) ⟨w.heap.size + 1, 6, none⟩ (.int .i64 halt) (Nat.ne_of_lt (Nat.lt_trans (Nat.lt_succ_self _) gO3))) ⟨w.heap.size + 1, 7, none⟩ (.slice (some ⟨g3, 0, none⟩) ins.length ins.length) (Nat.ne_of_lt (Nat.lt_trans (Nat.lt_succ_self _) gO3))) ⟨w.heap.size + 1, 8, none⟩ (.slice (some ⟨g4, 0, none⟩) outs.length outs.length) (Nat.ne_of_lt (Nat.lt_trans (Nat.lt_succ_self _) gO3))) ⟨w.heap.size + 1, 9, none⟩ (.int .i64 count) (Nat.ne_of_lt (Nat.lt_trans (Nat.lt_succ_self _) gO3))), (other_row (other_row (other_row (other_row (other_row (other_row (other_row (other_row (other_row (other_row (other_row (other_row R4.out ⟨w.heap.size + 1 + 1, 8, none⟩ (.slice (some ⟨g4, 0, none⟩) outs.length outs.length) (Nat.ne_of_lt gO4)) ⟨w.heap.size + 1 + 1, 9, none⟩ (.int .i64 count) (Nat.ne_of_lt gO4)) ⟨w.heap.size + 1, 0, none⟩ (.slice (some ⟨g1, 0, none⟩) regs.length regs.length) (Nat.ne_of_lt (Nat.lt_trans (Nat.lt_succ_self _) gO4))) ⟨w.heap.size + 1, 1, none⟩ (.int .i64 pc) (Nat.ne_of_lt (Nat.lt_trans (Nat.lt_succ_self _) gO4))) ⟨w.heap.size + 1, 2, none⟩ (.slice (some ⟨g2, 0, none⟩) mem.length mem.length) (Nat.ne_of_lt (Nat.lt_trans (Nat.lt_succ_self _) gO4))) ⟨w.heap.size + 1, 3, none⟩ (.int .i64 save) (Nat.ne_of_lt (Nat.lt_trans (Nat.lt_succ_self _) gO4))) ⟨w.heap.size + 1, 4, none⟩ (.bool lets) (Nat.ne_of_lt (Nat.lt_trans (Nat.lt_succ_self _) gO4))) ⟨w.heap.size + 1, 5, none⟩ (.bool waits) (Nat.ne_of_lt (Nat.lt_trans (Nat.lt_succ_self _) gO4))) ⟨w.heap.size + 1, 6, none⟩ (.int .i64 halt) (Nat.ne_of_lt (Nat.lt_trans (Nat.lt_succ_self _) gO4))) ⟨w.heap.size + 1, 7, none⟩ (.slice (some ⟨g3, 0, none⟩) ins.length ins.length) (Nat.ne_of_lt (Nat.lt_trans (Nat.lt_succ_self _) gO4))) ⟨w.heap.size + 1, 8, none⟩ (.slice (some ⟨g4, 0, none⟩) outs.length outs.length) (Nat.ne_of_lt (Nat.lt_trans (Nat.lt_succ_self _) gO4))) ⟨w.heap.size + 1, 9, none⟩ (.int .i64 count) (Nat.ne_of_lt (Nat.lt_trans (Nat.lt_succ_self _) gO4))), by omega, by omega, by omega, by omega, by omega, by omega, by omega, by omega, by omega, by omega⟩
end Go.Proofs.Ytlgpnogeoaoidaa.Mch
