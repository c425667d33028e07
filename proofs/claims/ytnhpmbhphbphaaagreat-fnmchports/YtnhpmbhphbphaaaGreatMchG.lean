/-
  The specification's steps on a copy of a machine: contracts of l3Set, l3Stop, l3Shift.
-/
import Derived.Test.YtnhpmbhphbphaaaGreatJnJ
namespace Go.Proofs.YtnhpmbhphbphaaaGreat.Mch
open Go.ChangeShapes Go.WideShapes Go.ChangeAt Go.RowKit IntS
theorem mach_int : 25 ≠ 3 := by decide
theorem size_set (w : World) (p : Addr) (v : Value) : (w.setCell p v).heap.size = w.heap.size := by simp
set_option maxRecDepth 8000 in
set_option maxHeartbeats 4000000 in
theorem l3Set (m : M) (d : Nat) (n : Int) (lo : Nat) (c : List Value) (w : World) (h : CMach w lo c m) (hd : d < m.regs.length) (hl : m.regs.length ≤ 1000) (c0 : 0 ≤ m.count) (c1 : m.count ≤ 1000000) (p0 : 0 ≤ m.pc) (p1 : m.pc < 65536) :
    Calls Tryz.prog 75 #[.agg c.toArray, .int .i64 d, .int .i64 n] w fun e w' => ∃ c', e = .returned (.agg c'.toArray) ∧ CMach w' lo c' (setM m d n) ∧ Ints lo w w' := by
  obtain ⟨b1, o1, k1, b2, o2, k2, b3, o3, k3, b4, k4, rfl⟩ := forms h
  obtain ⟨regs, pc, mem, save, lets, waits, halt, ins, outs, count⟩ := m
  have bX : Below w.heap.size w ((w.alloc (.cells #[.slice (some ⟨b1, o1, none⟩) regs.length k1, .int .i64 pc, .slice (some ⟨b2, o2, none⟩) mem.length k2, .int .i64 save, .bool lets, .bool waits, .int .i64 halt, .slice (some ⟨b3, o3, none⟩) ins.length k3, .slice (some ⟨b4, 0, none⟩) outs.length k4, .int .i64 count] 25)).alloc (.cells #[.slice none 0 0, .int .i64 0, .slice none 0 0, .int .i64 0, .bool false, .bool false, .int .i64 0, .slice none 0 0, .slice none 0 0, .int .i64 0] 25)) := ((Below.refl _ _).alloc (Nat.le_refl _) _).alloc (by simp) _
  have bY : Below (w.setCell ⟨b1, o1 + d, none⟩ (.int .i64 n)).heap.size (w.setCell ⟨b1, o1 + d, none⟩ (.int .i64 n)) (((w.setCell ⟨b1, o1 + d, none⟩ (.int .i64 n)).alloc (.cells #[.slice (some ⟨b1, o1, none⟩) regs.length k1, .int .i64 pc, .slice (some ⟨b2, o2, none⟩) mem.length k2, .int .i64 save, .bool lets, .bool waits, .int .i64 halt, .slice (some ⟨b3, o3, none⟩) ins.length k3, .slice (some ⟨b4, 0, none⟩) outs.length k4, .int .i64 count] 25)).alloc (.cells #[.slice none 0 0, .int .i64 0, .slice none 0 0, .int .i64 0, .bool false, .bool false, .int .i64 0, .slice none 0 0, .slice none 0 0, .int .i64 0] 25)) := ((Below.refl _ _).alloc (Nat.le_refl _) _).alloc (by simp) _
  have HX := h.below bX
  have hb1 := h.parts.2.2.2.2.2.2.1.lt
  have hlb1 := h.parts.2.2.2.2.1.1
  obtain ⟨x0, ex⟩ : ∃ x, regs[d]? = some x := ⟨_, List.getElem?_eq_getElem hd⟩
  obtain ⟨cx, fx⟩ := row_at HX.parts.1 ex
  have Y := hide ((h.setReg d n hd).below bY)
  have T0 := (Two.new (w.setCell ⟨b1, o1 + d, none⟩ (.int .i64 n)) [.slice (some ⟨b1, o1, none⟩) regs.length k1, .int .i64 pc, .slice (some ⟨b2, o2, none⟩) mem.length k2, .int .i64 save, .bool lets, .bool waits, .int .i64 halt, .slice (some ⟨b3, o3, none⟩) ins.length k3, .slice (some ⟨b4, 0, none⟩) outs.length k4, .int .i64 count] [.slice none 0 0, .int .i64 0, .slice none 0 0, .int .i64 0, .bool false, .bool false, .int .i64 0, .slice none 0 0, .slice none 0 0, .int .i64 0] 25 25).b
  rw [size_set] at T0
  have ZT0 := IsT.new ((w.setCell ⟨b1, o1 + d, none⟩ (.int .i64 n)).alloc (.cells #[.slice (some ⟨b1, o1, none⟩) regs.length k1, .int .i64 pc, .slice (some ⟨b2, o2, none⟩) mem.length k2, .int .i64 save, .bool lets, .bool waits, .int .i64 halt, .slice (some ⟨b3, o3, none⟩) ins.length k3, .slice (some ⟨b4, 0, none⟩) outs.length k4, .int .i64 count] 25)) #[.slice none 0 0, .int .i64 0, .slice none 0 0, .int .i64 0, .bool false, .bool false, .int .i64 0, .slice none 0 0, .slice none 0 0, .int .i64 0] 25
  have e1 : ((w.setCell ⟨b1, o1 + d, none⟩ (.int .i64 n)).alloc (.cells #[.slice (some ⟨b1, o1, none⟩) regs.length k1, .int .i64 pc, .slice (some ⟨b2, o2, none⟩) mem.length k2, .int .i64 save, .bool lets, .bool waits, .int .i64 halt, .slice (some ⟨b3, o3, none⟩) ins.length k3, .slice (some ⟨b4, 0, none⟩) outs.length k4, .int .i64 count] 25)).heap.size = w.heap.size + 1 := by simp
  rw [e1] at ZT0
  have ZT := hide ZT0
  have Z0 := hide T0
  have BW := hide (Ints.of_turn (lo := lo) (((Turn.refl b1 w).setCell (p := ⟨b1, o1 + d, none⟩) rfl (.int .i64 n)).trans (Turn.of_below bY)) h.parts.2.2.2.2.2.2.1.t hlb1)
  have k0 : w.heap.size ≤ w.heap.size + 1 := by omega
  simp only [mv] at *
  clear h HX ex T0 bX bY ZT0 e1
  go_enter Tryz.func75, Tryz.ntmps75
  go_wp2_with fail
  refine (l3Next _ _ _ _ _ _ _ _ _ _ _ _ _ _ _ _ _ _ (pc + 1) _ c0 c1).mono ?_
  rintro e u ⟨rfl, hb⟩
  have Yu := hide (Y.out.below hb)
  have Zu := Z0.out.below hb
  have ZTu := hide (ZT.out.below hb)
  have Bu := hide (BW.out.trans (Ints.of_below hb))
  have z0 := Zu.cell 0 _ rfl
  have y0 := Zu.soft 0
  have z1 := Zu.cell 1 _ rfl
  have y1 := Zu.soft 1
  have z2 := Zu.cell 2 _ rfl
  have y2 := Zu.soft 2
  have z3 := Zu.cell 3 _ rfl
  have y3 := Zu.soft 3
  have z4 := Zu.cell 4 _ rfl
  have y4 := Zu.soft 4
  have z5 := Zu.cell 5 _ rfl
  have y5 := Zu.soft 5
  have z6 := Zu.cell 6 _ rfl
  have y6 := Zu.soft 6
  have z7 := Zu.cell 7 _ rfl
  have y7 := Zu.soft 7
  have z8 := Zu.cell 8 _ rfl
  have y8 := Zu.soft 8
  have z9 := Zu.cell 9 _ rfl
  have y9 := Zu.soft 9
  clear Y Z0 ZT BW hb Zu cx fx
  go_wp2
  exact bodyPost_ret (v := .agg #[.slice (some ⟨b1, o1, none⟩) regs.length k1, .int .i64 ((pc + 1) % 65536), .slice (some ⟨b2, o2, none⟩) mem.length k2, .int .i64 save, .bool lets, .bool waits, .int .i64 halt, .slice (some ⟨b3, o3, none⟩) ins.length k3, .slice (some ⟨b4, 0, none⟩) outs.length k4, .int .i64 (count + 1)]) (by simp [results, Tryz.results75, go_sem, z0, z1, z2, z3, z4, z5, z6, z7, z8, z9]) rfl ⟨[.slice (some ⟨b1, o1, none⟩) regs.length k1, .int .i64 ((pc + 1) % 65536), .slice (some ⟨b2, o2, none⟩) mem.length k2, .int .i64 save, .bool lets, .bool waits, .int .i64 halt, .slice (some ⟨b3, o3, none⟩) ins.length k3, .slice (some ⟨b4, 0, none⟩) outs.length k4, .int .i64 (count + 1)], rfl, (CMach.plain Yu.out).ten ZTu.out mach_int _ _ _ _ _ _ _ _ _ _, ints_ten Bu.out k0 _ _ _ _ _ _ _ _ _ _⟩
set_option maxRecDepth 8000 in
set_option maxHeartbeats 4000000 in
theorem l3Stop_0 (q1 q2 q3 q4 : Option Addr) (n1 n2 n3 n4 j1 j2 j3 j4 : Nat) (pc save halt count : Int) (lets waits : Bool) (w : World) (c0 : 0 ≤ count) (c1 : count ≤ 1000000) (p0 : 0 ≤ pc) (p1 : pc < 65536) :
    Calls Tryz.prog 74 #[.agg #[.slice q1 n1 j1, .int .i64 pc, .slice q2 n2 j2, .int .i64 save, .bool lets, .bool waits, .int .i64 halt, .slice q3 n3 j3, .slice q4 n4 j4, .int .i64 count], .int .i64 0] w fun e w' => e = .returned (.agg #[.slice q1 n1 j1, .int .i64 ((pc + 1) % 65536), .slice q2 n2 j2, .int .i64 save, .bool lets, .bool waits, .int .i64 1, .slice q3 n3 j3, .slice q4 n4 j4, .int .i64 (count + 1)]) ∧ Below w.heap.size w w' := by
  have k0 : w.heap.size ≤ w.heap.size + 1 := by omega
  have T := hide (Two.new w [.slice q1 n1 j1, .int .i64 pc, .slice q2 n2 j2, .int .i64 save, .bool lets, .bool waits, .int .i64 halt, .slice q3 n3 j3, .slice q4 n4 j4, .int .i64 count] [.slice none 0 0, .int .i64 0, .slice none 0 0, .int .i64 0, .bool false, .bool false, .int .i64 0, .slice none 0 0, .slice none 0 0, .int .i64 0] 25 25)
  go_enter Tryz.func74, Tryz.ntmps74
  go_wp2_with fail
  refine (l3Halt _ _ _ _ _ _ _ _ _ _ _ _ _ _ _ _ _ _ 1 _).mono ?_
  rintro e u0 ⟨rfl, hb0⟩
  have T1 := T.out.below hb0
  have a0 := T1.a.cell 0 _ rfl
  have s0 := T1.a.soft 0
  have a1 := T1.a.cell 1 _ rfl
  have s1 := T1.a.soft 1
  have a2 := T1.a.cell 2 _ rfl
  have s2 := T1.a.soft 2
  have a3 := T1.a.cell 3 _ rfl
  have s3 := T1.a.soft 3
  have a4 := T1.a.cell 4 _ rfl
  have s4 := T1.a.soft 4
  have a5 := T1.a.cell 5 _ rfl
  have s5 := T1.a.soft 5
  have a6 := T1.a.cell 6 _ rfl
  have s6 := T1.a.soft 6
  have a7 := T1.a.cell 7 _ rfl
  have s7 := T1.a.soft 7
  have a8 := T1.a.cell 8 _ rfl
  have s8 := T1.a.soft 8
  have a9 := T1.a.cell 9 _ rfl
  have s9 := T1.a.soft 9
  have Z1 := hide ((((((((((T1.b.other ⟨w.heap.size, 0, none⟩ (.slice q1 n1 j1) (by show w.heap.size ≠ w.heap.size + 1; omega)).other ⟨w.heap.size, 1, none⟩ (.int .i64 pc) (by show w.heap.size ≠ w.heap.size + 1; omega)).other ⟨w.heap.size, 2, none⟩ (.slice q2 n2 j2) (by show w.heap.size ≠ w.heap.size + 1; omega)).other ⟨w.heap.size, 3, none⟩ (.int .i64 save) (by show w.heap.size ≠ w.heap.size + 1; omega)).other ⟨w.heap.size, 4, none⟩ (.bool lets) (by show w.heap.size ≠ w.heap.size + 1; omega)).other ⟨w.heap.size, 5, none⟩ (.bool waits) (by show w.heap.size ≠ w.heap.size + 1; omega)).other ⟨w.heap.size, 6, none⟩ (.int .i64 1) (by show w.heap.size ≠ w.heap.size + 1; omega)).other ⟨w.heap.size, 7, none⟩ (.slice q3 n3 j3) (by show w.heap.size ≠ w.heap.size + 1; omega)).other ⟨w.heap.size, 8, none⟩ (.slice q4 n4 j4) (by show w.heap.size ≠ w.heap.size + 1; omega)).other ⟨w.heap.size, 9, none⟩ (.int .i64 count) (by show w.heap.size ≠ w.heap.size + 1; omega))
  have B1 := hide ((((((((((T1.bw.setCell (p := ⟨w.heap.size, 0, none⟩) (Nat.le_refl _) (.slice q1 n1 j1)).setCell (p := ⟨w.heap.size, 1, none⟩) (Nat.le_refl _) (.int .i64 pc)).setCell (p := ⟨w.heap.size, 2, none⟩) (Nat.le_refl _) (.slice q2 n2 j2)).setCell (p := ⟨w.heap.size, 3, none⟩) (Nat.le_refl _) (.int .i64 save)).setCell (p := ⟨w.heap.size, 4, none⟩) (Nat.le_refl _) (.bool lets)).setCell (p := ⟨w.heap.size, 5, none⟩) (Nat.le_refl _) (.bool waits)).setCell (p := ⟨w.heap.size, 6, none⟩) (Nat.le_refl _) (.int .i64 1)).setCell (p := ⟨w.heap.size, 7, none⟩) (Nat.le_refl _) (.slice q3 n3 j3)).setCell (p := ⟨w.heap.size, 8, none⟩) (Nat.le_refl _) (.slice q4 n4 j4)).setCell (p := ⟨w.heap.size, 9, none⟩) (Nat.le_refl _) (.int .i64 count))
  clear T T1 hb0
  go_wp2_with fail
  refine (l3Next _ _ _ _ _ _ _ _ _ _ _ _ _ _ _ _ _ _ (pc + 1) _ c0 c1).mono ?_
  rintro e u ⟨rfl, hb⟩
  have Z2 := Z1.out.below hb
  have BW := hide (B1.out.trans (hb.mono B1.out.size))
  have z0 := Z2.cell 0 _ rfl
  have y0 := Z2.soft 0
  have z1 := Z2.cell 1 _ rfl
  have y1 := Z2.soft 1
  have z2 := Z2.cell 2 _ rfl
  have y2 := Z2.soft 2
  have z3 := Z2.cell 3 _ rfl
  have y3 := Z2.soft 3
  have z4 := Z2.cell 4 _ rfl
  have y4 := Z2.soft 4
  have z5 := Z2.cell 5 _ rfl
  have y5 := Z2.soft 5
  have z6 := Z2.cell 6 _ rfl
  have y6 := Z2.soft 6
  have z7 := Z2.cell 7 _ rfl
  have y7 := Z2.soft 7
  have z8 := Z2.cell 8 _ rfl
  have y8 := Z2.soft 8
  have z9 := Z2.cell 9 _ rfl
  have y9 := Z2.soft 9
  clear Z1 Z2 B1 hb a0 s0 a1 s1 a2 s2 a3 s3 a4 s4 a5 s5 a6 s6 a7 s7 a8 s8 a9 s9
  go_wp2
  exact bodyPost_ret (v := .agg #[.slice q1 n1 j1, .int .i64 ((pc + 1) % 65536), .slice q2 n2 j2, .int .i64 save, .bool lets, .bool waits, .int .i64 1, .slice q3 n3 j3, .slice q4 n4 j4, .int .i64 (count + 1)]) (by simp [results, Tryz.results74, go_sem, z0, z1, z2, z3, z4, z5, z6, z7, z8, z9]) rfl ⟨rfl, below_ten BW.out k0 _ _ _ _ _ _ _ _ _ _⟩
set_option maxRecDepth 8000 in
set_option maxHeartbeats 4000000 in
theorem l3Stop_1 (q1 q2 q3 q4 : Option Addr) (n1 n2 n3 n4 j1 j2 j3 j4 : Nat) (pc save halt count : Int) (lets waits : Bool) (w : World) (c0 : 0 ≤ count) (c1 : count ≤ 1000000) :
    Calls Tryz.prog 74 #[.agg #[.slice q1 n1 j1, .int .i64 pc, .slice q2 n2 j2, .int .i64 save, .bool lets, .bool waits, .int .i64 halt, .slice q3 n3 j3, .slice q4 n4 j4, .int .i64 count], .int .i64 1] w fun e w' => e = .returned (.agg #[.slice q1 n1 j1, .int .i64 ((save) % 65536), .slice q2 n2 j2, .int .i64 save, .bool true, .bool waits, .int .i64 halt, .slice q3 n3 j3, .slice q4 n4 j4, .int .i64 (count + 1)]) ∧ Below w.heap.size w w' := by
  have k0 : w.heap.size ≤ w.heap.size + 1 := by omega
  have T := hide (Two.new w [.slice q1 n1 j1, .int .i64 pc, .slice q2 n2 j2, .int .i64 save, .bool true, .bool waits, .int .i64 halt, .slice q3 n3 j3, .slice q4 n4 j4, .int .i64 count] [.slice none 0 0, .int .i64 0, .slice none 0 0, .int .i64 0, .bool false, .bool false, .int .i64 0, .slice none 0 0, .slice none 0 0, .int .i64 0] 25 25)
  go_enter Tryz.func74, Tryz.ntmps74
  go_wp2_with fail
  refine (l3Next _ _ _ _ _ _ _ _ _ _ _ _ _ _ _ _ _ _ (save) _ c0 c1).mono ?_
  rintro e u ⟨rfl, hb⟩
  replace T := T.out.below hb
  have BW := hide T.bw
  have z0 := T.b.cell 0 _ rfl
  have y0 := T.b.soft 0
  have z1 := T.b.cell 1 _ rfl
  have y1 := T.b.soft 1
  have z2 := T.b.cell 2 _ rfl
  have y2 := T.b.soft 2
  have z3 := T.b.cell 3 _ rfl
  have y3 := T.b.soft 3
  have z4 := T.b.cell 4 _ rfl
  have y4 := T.b.soft 4
  have z5 := T.b.cell 5 _ rfl
  have y5 := T.b.soft 5
  have z6 := T.b.cell 6 _ rfl
  have y6 := T.b.soft 6
  have z7 := T.b.cell 7 _ rfl
  have y7 := T.b.soft 7
  have z8 := T.b.cell 8 _ rfl
  have y8 := T.b.soft 8
  have z9 := T.b.cell 9 _ rfl
  have y9 := T.b.soft 9
  clear T hb
  go_wp2
  exact bodyPost_ret (v := .agg #[.slice q1 n1 j1, .int .i64 ((save) % 65536), .slice q2 n2 j2, .int .i64 save, .bool true, .bool waits, .int .i64 halt, .slice q3 n3 j3, .slice q4 n4 j4, .int .i64 (count + 1)]) (by simp [results, Tryz.results74, go_sem, z0, z1, z2, z3, z4, z5, z6, z7, z8, z9]) rfl ⟨rfl, below_ten BW.out k0 _ _ _ _ _ _ _ _ _ _⟩
set_option maxRecDepth 8000 in
set_option maxHeartbeats 4000000 in
theorem l3Stop_2 (q1 q2 q3 q4 : Option Addr) (n1 n2 n3 n4 j1 j2 j3 j4 : Nat) (pc save halt count : Int) (lets waits : Bool) (w : World) (c0 : 0 ≤ count) (c1 : count ≤ 1000000) (p0 : 0 ≤ pc) (p1 : pc < 65536) :
    Calls Tryz.prog 74 #[.agg #[.slice q1 n1 j1, .int .i64 pc, .slice q2 n2 j2, .int .i64 save, .bool lets, .bool waits, .int .i64 halt, .slice q3 n3 j3, .slice q4 n4 j4, .int .i64 count], .int .i64 2] w fun e w' => e = .returned (.agg #[.slice q1 n1 j1, .int .i64 ((pc + 1) % 65536), .slice q2 n2 j2, .int .i64 save, .bool true, .bool waits, .int .i64 halt, .slice q3 n3 j3, .slice q4 n4 j4, .int .i64 (count + 1)]) ∧ Below w.heap.size w w' := by
  have k0 : w.heap.size ≤ w.heap.size + 1 := by omega
  have T := hide (Two.new w [.slice q1 n1 j1, .int .i64 pc, .slice q2 n2 j2, .int .i64 save, .bool true, .bool waits, .int .i64 halt, .slice q3 n3 j3, .slice q4 n4 j4, .int .i64 count] [.slice none 0 0, .int .i64 0, .slice none 0 0, .int .i64 0, .bool false, .bool false, .int .i64 0, .slice none 0 0, .slice none 0 0, .int .i64 0] 25 25)
  go_enter Tryz.func74, Tryz.ntmps74
  go_wp2_with fail
  refine (l3Next _ _ _ _ _ _ _ _ _ _ _ _ _ _ _ _ _ _ (pc + 1) _ c0 c1).mono ?_
  rintro e u ⟨rfl, hb⟩
  replace T := T.out.below hb
  have BW := hide T.bw
  have z0 := T.b.cell 0 _ rfl
  have y0 := T.b.soft 0
  have z1 := T.b.cell 1 _ rfl
  have y1 := T.b.soft 1
  have z2 := T.b.cell 2 _ rfl
  have y2 := T.b.soft 2
  have z3 := T.b.cell 3 _ rfl
  have y3 := T.b.soft 3
  have z4 := T.b.cell 4 _ rfl
  have y4 := T.b.soft 4
  have z5 := T.b.cell 5 _ rfl
  have y5 := T.b.soft 5
  have z6 := T.b.cell 6 _ rfl
  have y6 := T.b.soft 6
  have z7 := T.b.cell 7 _ rfl
  have y7 := T.b.soft 7
  have z8 := T.b.cell 8 _ rfl
  have y8 := T.b.soft 8
  have z9 := T.b.cell 9 _ rfl
  have y9 := T.b.soft 9
  clear T hb
  go_wp2
  exact bodyPost_ret (v := .agg #[.slice q1 n1 j1, .int .i64 ((pc + 1) % 65536), .slice q2 n2 j2, .int .i64 save, .bool true, .bool waits, .int .i64 halt, .slice q3 n3 j3, .slice q4 n4 j4, .int .i64 (count + 1)]) (by simp [results, Tryz.results74, go_sem, z0, z1, z2, z3, z4, z5, z6, z7, z8, z9]) rfl ⟨rfl, below_ten BW.out k0 _ _ _ _ _ _ _ _ _ _⟩
set_option maxRecDepth 8000 in
set_option maxHeartbeats 4000000 in
theorem l3Stop_3 (q1 q2 q3 q4 : Option Addr) (n1 n2 n3 n4 j1 j2 j3 j4 : Nat) (pc save halt count : Int) (lets waits : Bool) (w : World) (c0 : 0 ≤ count) (c1 : count ≤ 1000000) (p0 : 0 ≤ pc) (p1 : pc < 65536) :
    Calls Tryz.prog 74 #[.agg #[.slice q1 n1 j1, .int .i64 pc, .slice q2 n2 j2, .int .i64 save, .bool lets, .bool waits, .int .i64 halt, .slice q3 n3 j3, .slice q4 n4 j4, .int .i64 count], .int .i64 3] w fun e w' => e = .returned (.agg #[.slice q1 n1 j1, .int .i64 ((pc + 1) % 65536), .slice q2 n2 j2, .int .i64 save, .bool false, .bool waits, .int .i64 halt, .slice q3 n3 j3, .slice q4 n4 j4, .int .i64 (count + 1)]) ∧ Below w.heap.size w w' := by
  have k0 : w.heap.size ≤ w.heap.size + 1 := by omega
  have T := hide (Two.new w [.slice q1 n1 j1, .int .i64 pc, .slice q2 n2 j2, .int .i64 save, .bool false, .bool waits, .int .i64 halt, .slice q3 n3 j3, .slice q4 n4 j4, .int .i64 count] [.slice none 0 0, .int .i64 0, .slice none 0 0, .int .i64 0, .bool false, .bool false, .int .i64 0, .slice none 0 0, .slice none 0 0, .int .i64 0] 25 25)
  go_enter Tryz.func74, Tryz.ntmps74
  go_wp2_with fail
  refine (l3Next _ _ _ _ _ _ _ _ _ _ _ _ _ _ _ _ _ _ (pc + 1) _ c0 c1).mono ?_
  rintro e u ⟨rfl, hb⟩
  replace T := T.out.below hb
  have BW := hide T.bw
  have z0 := T.b.cell 0 _ rfl
  have y0 := T.b.soft 0
  have z1 := T.b.cell 1 _ rfl
  have y1 := T.b.soft 1
  have z2 := T.b.cell 2 _ rfl
  have y2 := T.b.soft 2
  have z3 := T.b.cell 3 _ rfl
  have y3 := T.b.soft 3
  have z4 := T.b.cell 4 _ rfl
  have y4 := T.b.soft 4
  have z5 := T.b.cell 5 _ rfl
  have y5 := T.b.soft 5
  have z6 := T.b.cell 6 _ rfl
  have y6 := T.b.soft 6
  have z7 := T.b.cell 7 _ rfl
  have y7 := T.b.soft 7
  have z8 := T.b.cell 8 _ rfl
  have y8 := T.b.soft 8
  have z9 := T.b.cell 9 _ rfl
  have y9 := T.b.soft 9
  clear T hb
  go_wp2
  exact bodyPost_ret (v := .agg #[.slice q1 n1 j1, .int .i64 ((pc + 1) % 65536), .slice q2 n2 j2, .int .i64 save, .bool false, .bool waits, .int .i64 halt, .slice q3 n3 j3, .slice q4 n4 j4, .int .i64 (count + 1)]) (by simp [results, Tryz.results74, go_sem, z0, z1, z2, z3, z4, z5, z6, z7, z8, z9]) rfl ⟨rfl, below_ten BW.out k0 _ _ _ _ _ _ _ _ _ _⟩
/-- A word so many times doubled. -/
def shiftN (n : Int) : Nat → Int
  | 0 => n
  | k + 1 => (shiftN n k + shiftN n k) % 65536
theorem shift_bd {n : Int} (h0 : 0 ≤ n) (h1 : n < 65536) : ∀ k, 0 ≤ shiftN n k ∧ shiftN n k < 65536
  | 0 => ⟨h0, h1⟩
  | k + 1 => by unfold shiftN; omega
set_option maxHeartbeats 2000000 in
theorem l3Shift (n : Int) (k : Nat) (w : World) (h0 : 0 ≤ n) (h1 : n < 65536) (hk : k ≤ 1000) :
    Calls Tryz.prog 76 #[.int .i64 n, .int .i64 k] w fun e w' => e = .returned (.int .i64 (shiftN n k)) ∧ w' = w := by
  go_enter Tryz.func76, Tryz.ntmps76
  go_wp2
  go_loopw [5, 6] (fun x i wr => ∃ j : Nat, j ≤ k ∧ x = .int .i64 (shiftN n j) ∧ i = .int .i64 j ∧ wr = w) (fun _ i _ => k - (intOf i).toNat)
  case atStart => exact ⟨0, by omega, rfl, rfl, rfl⟩
  case round =>
    obtain ⟨j, hj, rfl, rfl, rfl⟩ := hrel
    by_cases hlt : j < k
    · obtain ⟨b0, b1⟩ := shift_bd h0 h1 j
      have HS : Hid (shiftN n (j + 1) = (shiftN n j + shiftN n j) % 65536) := rfl
      generalize shiftN n j = y at b0 b1 HS ⊢
      go_wp2_with fail
      refine (Wrd.specWrap (y + y) _).mono ?_
      rintro e u ⟨rfl, rfl⟩
      rw [← HS.out]
      go_wp2
      exact ⟨⟨j + 1, by omega, rfl, by go_num, trivial⟩, by simp [intOf]; omega⟩
    · have ej : j = k := by omega
      subst ej
      go_wp2
      go_ret
      exact ⟨rfl, rfl⟩
end Go.Proofs.YtnhpmbhphbphaaaGreat.Mch
