/-
  Machines: contracts of the laws' own helpers over them (eqMchMach, szMchMach, markMchMach, heldMchMach).
-/
import Derived.Test.YtlgpnogeoaoidaaMchM
namespace Go.Proofs.Ytlgpnogeoaoidaa.Mch
open Go.ChangeShapes Go.WideShapes Go.ChangeAt Go.RowKit IntS
/-- Two blocks of what came in. -/
structure Two (w : World) (n : Nat) (A B : List Value) (u : World) : Prop where
  bw : Below n w u
  a : Rec n A u
  b : Rec (n + 1) B u
theorem Two.new (w : World) (A B : List Value) (t1 t2 : TypeId) : Two w w.heap.size A B ((w.alloc (.cells A.toArray t1)).alloc (.cells B.toArray t2)) := by
  have hz := Rec.new (w.alloc (.cells A.toArray t1)) B t2
  have ez : (w.alloc (.cells A.toArray t1)).heap.size = w.heap.size + 1 := by simp
  rw [ez] at hz
  exact ⟨((Below.refl _ _).alloc (Nat.le_refl _) _).alloc (by simp) _, (Rec.new w A t1).alloc _, hz⟩
theorem Two.below {w u u' : World} {n : Nat} {A B : List Value} (h : Two w n A B u) (hb : Below u.heap.size u u') : Two w n A B u' :=
  ⟨h.bw.trans (hb.mono (Nat.le_of_lt h.a.lt)), h.a.below hb, h.b.below hb⟩
/-- A block of what came in. -/
structure One (w : World) (n : Nat) (A : List Value) (u : World) : Prop where
  bw : Below n w u
  a : Rec n A u
theorem One.new (w : World) (A : List Value) (t1 : TypeId) : One w w.heap.size A (w.alloc (.cells A.toArray t1)) := ⟨(Below.refl _ _).alloc (Nat.le_refl _) _, Rec.new w A t1⟩
theorem One.below {w u u' : World} {n : Nat} {A : List Value} (h : One w n A u) (hb : Below u.heap.size u u') : One w n A u' :=
  ⟨h.bw.trans (hb.mono (Nat.le_of_lt h.a.lt)), h.a.below hb⟩
theorem Rec.drew {Z : Nat} {cs : List Value} {w : World} (h : Rec Z cs w) : Rec Z cs w.drew := ⟨h.lt, h.cell, h.soft⟩
theorem One.drew {w u : World} {n : Nat} {A : List Value} (h : One w n A u) : One w n A u.drew := ⟨h.bw.drew, h.a.drew⟩
theorem row_drew {w : World} {B : Nat} {v : Value} {xs : List Int} (h : Row w B v xs) : Row w.drew B v xs := ⟨h.ex⟩
theorem RMach.drew {w : World} {c : List Value} {m : M} (h : RMach w c m) : RMach w.drew c m := by
  obtain ⟨r, e, i, o, b1, b2, b3, b4, hc, h1, h2, h3, h4⟩ := h
  exact ⟨r, e, i, o, b1, b2, b3, b4, hc, row_drew h1, row_drew h2, row_drew h3, row_drew h4⟩
theorem same_ne (a : Int) : (a != a) = false := by simp
theorem same_neb (a : Bool) : (a != a) = false := by simp
set_option maxRecDepth 8000 in
set_option maxHeartbeats 4000000 in
theorem eqMch (m : M) (c c' : List Value) (w : World) (h : RMach w c m) (h' : RMach w c' m) :
    Calls Try.prog 10 #[.agg c.toArray, .agg c'.toArray] w fun e w' => e = .returned (.bool true) ∧ Below w.heap.size w w' := by
  obtain ⟨r, e, i, o, b1, b2, b3, b4, rfl, h1, h2, h3, h4⟩ := h
  obtain ⟨r', e', i', o', b1', b2', b3', b4', rfl, h1', h2', h3', h4'⟩ := h'
  obtain ⟨regs, pc, mem, save, lets, waits, halt, ins, outs, count⟩ := m
  simp only [mv] at *
  have T := hide (Two.new w [r, .int .i64 pc, e, .int .i64 save, .bool lets, .bool waits, .int .i64 halt, i, o, .int .i64 count] [r', .int .i64 pc, e', .int .i64 save, .bool lets, .bool waits, .int .i64 halt, i', o', .int .i64 count] 26 26)
  have H1 := hide (And.intro h1 h1')
  have H2 := hide (And.intro h2 h2')
  have H3 := hide (And.intro h3 h3')
  have H4 := hide (And.intro h4 h4')
  clear h1 h2 h3 h4 h1' h2' h3' h4'
  have n1 := same_ne pc
  have n2 := same_ne save
  have n3 := same_neb lets
  have n4 := same_neb waits
  have n5 := same_ne halt
  have n6 := same_ne count
  go_enter Try.func10, Try.ntmps10
  go_wp2_with fail
  refine (eqIntS regs regs b1 b1' _ _ _ (H1.out.1.below T.out.bw) (H1.out.2.below T.out.bw)).mono ?_
  rintro e u1 ⟨rfl, hb⟩
  rw [decide_eq_true (rfl : regs = regs)]
  replace T := hide (T.out.below hb)
  clear hb
  have a1 := T.out.a.cell 1 _ rfl
  have b1_ := T.out.b.cell 1 _ rfl
  have a2 := T.out.a.cell 2 _ rfl
  have b2_ := T.out.b.cell 2 _ rfl
  go_wp2_with fail
  refine (eqIntS mem mem b2 b2' _ _ _ (H2.out.1.below T.out.bw) (H2.out.2.below T.out.bw)).mono ?_
  rintro e u2 ⟨rfl, hb⟩
  rw [decide_eq_true (rfl : mem = mem)]
  clear a1 b1_ a2 b2_
  replace T := hide (T.out.below hb)
  clear hb
  have a3 := T.out.a.cell 3 _ rfl
  have b3_ := T.out.b.cell 3 _ rfl
  have a4 := T.out.a.cell 4 _ rfl
  have b4_ := T.out.b.cell 4 _ rfl
  have a5 := T.out.a.cell 5 _ rfl
  have b5_ := T.out.b.cell 5 _ rfl
  have a6 := T.out.a.cell 6 _ rfl
  have b6_ := T.out.b.cell 6 _ rfl
  have a7 := T.out.a.cell 7 _ rfl
  have b7_ := T.out.b.cell 7 _ rfl
  go_wp2_with fail
  refine (eqIntS ins ins b3 b3' _ _ _ (H3.out.1.below T.out.bw) (H3.out.2.below T.out.bw)).mono ?_
  rintro e u3 ⟨rfl, hb⟩
  rw [decide_eq_true (rfl : ins = ins)]
  clear a3 b3_ a4 b4_ a5 b5_ a6 b6_ a7 b7_
  replace T := hide (T.out.below hb)
  clear hb
  have a8 := T.out.a.cell 8 _ rfl
  have b8_ := T.out.b.cell 8 _ rfl
  go_wp2_with fail
  refine (eqIntS outs outs b4 b4' _ _ _ (H4.out.1.below T.out.bw) (H4.out.2.below T.out.bw)).mono ?_
  rintro e u4 ⟨rfl, hb⟩
  rw [decide_eq_true (rfl : outs = outs)]
  clear a8 b8_
  replace T := hide (T.out.below hb)
  clear hb
  have a9 := T.out.a.cell 9 _ rfl
  have b9_ := T.out.b.cell 9 _ rfl
  have BW := hide T.out.bw
  clear T
  go_wp2
  go_ret
  exact ⟨rfl, BW.out⟩
set_option maxRecDepth 8000 in
set_option maxHeartbeats 4000000 in
theorem szMch (m : M) (c : List Value) (w : World) (h : RMach w c m) :
    Calls Try.prog 5 #[.agg c.toArray, .int .i64 1048576] w fun e w' => ∃ n : Int, e = .returned (.int .i64 n) ∧ -1 ≤ n ∧ (0 ≤ n → Small m) ∧ Below w.heap.size w w' := by
  obtain ⟨r, e, i, o, b1, b2, b3, b4, rfl, h1, h2, h3, h4⟩ := h
  obtain ⟨regs, pc, mem, save, lets, waits, halt, ins, outs, count⟩ := m
  obtain ⟨a1, c1, _, rfl, p1, q1, _⟩ := h1
  obtain ⟨a2, c2, _, rfl, p2, q2, _⟩ := h2
  obtain ⟨a3, c3, _, rfl, p3, q3, _⟩ := h3
  obtain ⟨a4, c4, _, rfl, p4, q4, _⟩ := h4
  simp only [mv] at *
  have BW : Hid (Below w.heap.size w (w.alloc (.cells #[.slice a1 regs.length c1, .int .i64 pc, .slice a2 mem.length c2, .int .i64 save, .bool lets, .bool waits, .int .i64 halt, .slice a3 ins.length c3, .slice a4 outs.length c4, .int .i64 count] 24))) := (Below.refl _ _).alloc (Nat.le_refl _) _
  go_enter Try.func5, Try.ntmps5
  go_wp2_with fail
  refine (szIntS regs.length c1 a1 1048576 _ p1 q1 (by omega) (by omega)).mono ?_
  rintro e u ⟨rfl, rfl⟩
  by_cases e1 : 1048576 < (regs.length : Int)
  · rw [if_pos e1]
    go_wp2
    go_ret
    exact ⟨-1, rfl, by omega, fun h => by omega, BW.out⟩
  · rw [if_neg e1]
    go_wp2_with fail
    refine (szIntS mem.length c2 a2 (1048576 - (regs.length : Int)) _ p2 q2 (by omega) (by omega)).mono ?_
    rintro e u ⟨rfl, rfl⟩
    by_cases e2 : (1048576 - (regs.length : Int)) < (mem.length : Int)
    · rw [if_pos e2]
      go_wp2
      go_ret
      exact ⟨-1, rfl, by omega, fun h => by omega, BW.out⟩
    · rw [if_neg e2]
      go_wp2_with fail
      refine (szIntS ins.length c3 a3 (1048576 - (regs.length : Int) - (mem.length : Int)) _ p3 q3 (by omega) (by omega)).mono ?_
      rintro e u ⟨rfl, rfl⟩
      by_cases e3 : (1048576 - (regs.length : Int) - (mem.length : Int)) < (ins.length : Int)
      · rw [if_pos e3]
        go_wp2
        go_ret
        exact ⟨-1, rfl, by omega, fun h => by omega, BW.out⟩
      · rw [if_neg e3]
        go_wp2_with fail
        refine (szIntS outs.length c4 a4 (1048576 - (regs.length : Int) - (mem.length : Int) - (ins.length : Int)) _ p4 q4 (by omega) (by omega)).mono ?_
        rintro e u ⟨rfl, rfl⟩
        by_cases e4 : (1048576 - (regs.length : Int) - (mem.length : Int) - (ins.length : Int)) < (outs.length : Int)
        · rw [if_pos e4]
          go_wp2
          go_ret
          exact ⟨-1, rfl, by omega, fun h => by omega, BW.out⟩
        · rw [if_neg e4]
          go_wp2
          go_ret
          exact ⟨_, rfl, by omega, fun _ => ⟨by show regs.length ≤ 1048576; omega, by show mem.length ≤ 1048576; omega, by show ins.length ≤ 1048576; omega, by show outs.length ≤ 1048576; omega⟩, BW.out⟩
end Go.Proofs.Ytlgpnogeoaoidaa.Mch
