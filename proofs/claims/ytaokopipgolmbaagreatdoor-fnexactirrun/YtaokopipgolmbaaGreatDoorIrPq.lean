/-
  How the program runs a piece of code: its operations that reach nowhere, and those that load and store.
  How the program runs a piece of code: its operations that store, and those that let words in and out.
  How the program runs a piece of code: its operation that lets a word out.
  How the program runs a piece of code: each operation is a step of the model.
-/
import Derived.Test.YtaokopipgolmbaaGreatDoorIrPp
import Derived.Test.YtaokopipgolmbaaGreatDoorFlat
namespace Go.Proofs.YtaokopipgolmbaaGreatDoor.Ir
set_option linter.unusedVariables false
set_option linter.unusedSimpArgs false
open Go.ChangeShapes Go.WideShapes Go.ChangeAt Go.RowKit IntS Mch

set_option maxRecDepth 8000 in
set_option maxHeartbeats 8000000 in
theorem do_const (lo P Z cap : Nat) (b : Bk) (q : Option Addr) (wv : Value) (c : List Value) (m : M) (vs : List Int) (u : World) (h : Psg u lo P Z b q cap wv c m vs) (x_ y_ k_ t_ : Int) :
    Calls Tryz.prog 92 #[.agg #[.int .i64 1, .int .i64 x_, .int .i64 y_, .int .i64 k_, .int .i64 t_], .pointer (some ⟨P, 0, none⟩)] u (DoR lo P Z b q cap wv vs m (k_) (.nilIface) u) := by
  have bX := alloc_below u (.cells #[.int .i64 1, .int .i64 x_, .int .i64 y_, .int .i64 k_, .int .i64 t_] 109)
  have H := hide (h.below bX)
  have R := hide (Rec.new u [.int .i64 1, .int .i64 x_, .int .i64 y_, .int .i64 k_, .int .i64 t_] 109)
  have BX := hide (bX.mono h.lu)
  have hP : P < u.heap.size := h.p.lt
  clear bX
  clear h R
  go_enter Tryz.func92, Tryz.ntmps92
  go_wp2
  exact bodyPost_ret (v := .tuple #[.int .i64 (k_), .nilIface]) (by simp [results, Tryz.results92, go_sem]) rfl ⟨rfl, ⟨_, H.out⟩, BX.out⟩
set_option maxRecDepth 8000 in
set_option maxHeartbeats 8000000 in
theorem do_get (lo P Z cap : Nat) (b : Bk) (q : Option Addr) (wv : Value) (c : List Value) (m : M) (vs : List Int) (u : World) (h : Psg u lo P Z b q cap wv c m vs) (x_ y_ t_ : Int) (d : Nat) (z : Int) (hd : m.regs[d]? = some z) :
    Calls Tryz.prog 93 #[.agg #[.int .i64 2, .int .i64 x_, .int .i64 y_, .int .i64 (d : Int), .int .i64 t_], .pointer (some ⟨P, 0, none⟩)] u (DoR lo P Z b q cap wv vs m (z) (.nilIface) u) := by
  have bX := alloc_below u (.cells #[.int .i64 2, .int .i64 x_, .int .i64 y_, .int .i64 (d : Int), .int .i64 t_] 110)
  have H := hide (h.below bX)
  have R := hide (Rec.new u [.int .i64 2, .int .i64 x_, .int .i64 y_, .int .i64 (d : Int), .int .i64 t_] 110)
  have BX := hide (bX.mono h.lu)
  have hP : P < u.heap.size := h.p.lt
  clear bX
  obtain ⟨b1, o1, k1, b2, o2, k2, b3, o3, k3, b4, k4, rfl⟩ := forms h.mach
  obtain ⟨regs, pc, mem, save, lets, waits, halt, ins, outs, count⟩ := m
  simp only [mv] at *
  have ld : d < regs.length := (List.getElem?_eq_some_iff.1 hd).1
  have ld' : ((d : Nat) : Int) < (regs.length : Int) := by omega
  have cd := (row_at (CMach.parts (m := ⟨regs, pc, mem, save, lets, waits, halt, ins, outs, count⟩) H.out.mach).1 hd).1
  clear h hd
  go_enter Tryz.func93, Tryz.ntmps93
  go_wp2_with fail
  generalize (u.alloc (.cells #[.int .i64 2, .int .i64 x_, .int .i64 y_, .int .i64 (d : Int), .int .i64 t_] 110)) = v at H R BX cd ⊢
  have p7 := H.out.p.cell 7 _ rfl
  have z0 := H.out.z.cell 0 _ rfl
  have w3 := R.out.cell 3 _ rfl
  refine region_tail 11 (by kernel_rfl) (by kernel_rfl) ?_
  simp only [List.take_succ_cons, List.take_zero, List.drop_succ_cons, List.drop_zero]
  repeat still_step
  refine wpStill_nil ?_
  have D : Below v.heap.size v v.drew := (Below.refl _ _).drew
  replace H := hide (H.out.below D)
  replace BX := hide (BX.out.trans (D.mono (Nat.le_trans H.out.lu (by simp))))
  go_wp2
  exact bodyPost_ret (v := .tuple #[.int .i64 (z), .nilIface]) (by simp [results, Tryz.results93, go_sem]) rfl ⟨rfl, ⟨_, H.out⟩, BX.out⟩
set_option maxRecDepth 8000 in
set_option maxHeartbeats 8000000 in
theorem do_do (lo P Z cap : Nat) (b : Bk) (q : Option Addr) (wv : Value) (c : List Value) (m : M) (vs : List Int) (u : World) (h : Psg u lo P Z b q cap wv c m vs) (k_ t_ : Int) (i j : Nat) (x y : Int) (hx : vs[i]? = some x) (hy : vs[j]? = some y) :
    Calls Tryz.prog 94 #[.agg #[.int .i64 3, .int .i64 (i : Int), .int .i64 (j : Int), .int .i64 k_, .int .i64 t_], .pointer (some ⟨P, 0, none⟩)] u (DoR lo P Z b q cap wv vs m (Wrd.wdo k_ x y) (.nilIface) u) := by
  have bX := alloc_below u (.cells #[.int .i64 3, .int .i64 (i : Int), .int .i64 (j : Int), .int .i64 k_, .int .i64 t_] 111)
  have H := hide (h.below bX)
  have R := hide (Rec.new u [.int .i64 3, .int .i64 (i : Int), .int .i64 (j : Int), .int .i64 k_, .int .i64 t_] 111)
  have BX := hide (bX.mono h.lu)
  have hP : P < u.heap.size := h.p.lt
  clear bX
  obtain ⟨g, cp, rfl, cx⟩ := H.out.word hx
  obtain ⟨g', cp', ev, cy⟩ := H.out.word hy
  cases ev
  have li : i < vs.length := (List.getElem?_eq_some_iff.1 hx).1
  have lj : j < vs.length := (List.getElem?_eq_some_iff.1 hy).1
  have li' : ((i : Nat) : Int) < (vs.length : Int) := by omega
  have lj' : ((j : Nat) : Int) < (vs.length : Int) := by omega
  clear h hx hy
  obtain ⟨r, er⟩ : ∃ r, Wrd.wdo k_ x y = r := ⟨_, rfl⟩
  have ER := hide er
  rw [er]
  clear er
  go_enter Tryz.func94, Tryz.ntmps94
  go_wp2_with fail
  generalize (u.alloc (.cells #[.int .i64 3, .int .i64 (i : Int), .int .i64 (j : Int), .int .i64 k_, .int .i64 t_] 111)) = v at H R BX cx cy ⊢
  have p8 := H.out.p.cell 8 _ rfl
  have w1 := R.out.cell 1 _ rfl
  have w2 := R.out.cell 2 _ rfl
  have w3 := R.out.cell 3 _ rfl
  refine region_tail 18 (by kernel_rfl) (by kernel_rfl) ?_
  simp only [List.take_succ_cons, List.take_zero, List.drop_succ_cons, List.drop_zero]
  repeat still_step
  refine wpStill_nil ?_
  have D : Below v.heap.size v v.drew := (Below.refl _ _).drew
  replace H := hide (H.out.below D)
  replace BX := hide (BX.out.trans (D.mono (Nat.le_trans H.out.lu (by simp))))
  clear p8 w1 w2 w3 cx cy R
  generalize v.drew = v1 at H BX ⊢
  go_wp2_with fail
  refine (Wrd.implDo k_ x y _).mono ?_
  rintro e u1 ⟨rfl, hb⟩
  rw [ER.out]
  replace BX := hide (BX.out.trans (hb.mono H.out.lu))
  replace H := hide (H.out.below hb)
  clear hb
  go_wp2
  exact bodyPost_ret (v := .tuple #[.int .i64 (r), .nilIface]) (by simp [results, Tryz.results94, go_sem]) rfl ⟨rfl, ⟨_, H.out⟩, BX.out⟩
set_option maxRecDepth 8000 in
set_option maxHeartbeats 8000000 in
theorem do_load_no (lo P Z cap : Nat) (b : Bk) (q : Option Addr) (wv : Value) (c : List Value) (m : M) (vs : List Int) (u : World) (h : Psg u lo P Z b q cap wv c m vs) (y_ k_ t_ : Int) (i : Nat) (x : Int) (hx : vs[i]? = some x) (hq : 64 ≤ x) :
    Calls Tryz.prog 102 #[.agg #[.int .i64 4, .int .i64 (i : Int), .int .i64 y_, .int .i64 k_, .int .i64 t_], .pointer (some ⟨P, 0, none⟩)] u (DoR lo P Z b q cap wv vs m (0) (.iface 81 (.agg #[.int .i64 t_])) u) := by
  have bX := alloc_below u (.cells #[.int .i64 4, .int .i64 (i : Int), .int .i64 y_, .int .i64 k_, .int .i64 t_] 112)
  have H := hide (h.below bX)
  have R := hide (Rec.new u [.int .i64 4, .int .i64 (i : Int), .int .i64 y_, .int .i64 k_, .int .i64 t_] 112)
  have BX := hide (bX.mono h.lu)
  have hP : P < u.heap.size := h.p.lt
  clear bX
  clear h
  go_enter Tryz.func102, Tryz.ntmps102
  have w1 := R.out.cell 1 _ rfl
  have w4 := R.out.cell 4 _ rfl
  go_wp2_with fail
  refine (address_no _ _ _ _ _ _ _ _ _ _ _ H.out i x t_ hx hq).mono ?_
  rintro e u1 ⟨rfl, rfl⟩
  go_wp2
  exact bodyPost_ret (v := .tuple #[.int .i64 (0), .iface 81 (.agg #[.int .i64 t_])]) (by simp [results, Tryz.results102, go_sem]) rfl ⟨rfl, ⟨_, H.out⟩, BX.out⟩
set_option maxRecDepth 8000 in
set_option maxHeartbeats 8000000 in
theorem do_load (lo P Z cap : Nat) (b : Bk) (q : Option Addr) (wv : Value) (c : List Value) (m : M) (vs : List Int) (u : World) (h : Psg u lo P Z b q cap wv c m vs) (y_ k_ t_ : Int) (i a : Nat) (z : Int) (hx : vs[i]? = some (a : Int)) (hq : (a : Int) < 64) (hz : m.mem[a]? = some z) :
    Calls Tryz.prog 102 #[.agg #[.int .i64 4, .int .i64 (i : Int), .int .i64 y_, .int .i64 k_, .int .i64 t_], .pointer (some ⟨P, 0, none⟩)] u (DoR lo P Z b q cap wv vs m (z) (.nilIface) u) := by
  have bX := alloc_below u (.cells #[.int .i64 4, .int .i64 (i : Int), .int .i64 y_, .int .i64 k_, .int .i64 t_] 112)
  have H := hide (h.below bX)
  have R := hide (Rec.new u [.int .i64 4, .int .i64 (i : Int), .int .i64 y_, .int .i64 k_, .int .i64 t_] 112)
  have BX := hide (bX.mono h.lu)
  have hP : P < u.heap.size := h.p.lt
  clear bX
  obtain ⟨b1, o1, k1, b2, o2, k2, b3, o3, k3, b4, k4, rfl⟩ := forms h.mach
  obtain ⟨regs, pc, mem, save, lets, waits, halt, ins, outs, count⟩ := m
  simp only [mv] at *
  have la : a < mem.length := (List.getElem?_eq_some_iff.1 hz).1
  have la' : ((a : Nat) : Int) < (mem.length : Int) := by omega
  have cd := (row_at (CMach.parts (m := ⟨regs, pc, mem, save, lets, waits, halt, ins, outs, count⟩) H.out.mach).2.1 hz).1
  clear h hz
  go_enter Tryz.func102, Tryz.ntmps102
  have w1 := R.out.cell 1 _ rfl
  have w4 := R.out.cell 4 _ rfl
  have p7 := H.out.p.cell 7 _ rfl
  have z2 := H.out.z.cell 2 _ rfl
  go_wp2_with fail
  refine (address_yes _ _ _ _ _ _ _ _ _ _ _ H.out i (a : Int) t_ hx hq).mono ?_
  rintro e u1 ⟨rfl, rfl⟩
  go_wp2
  exact bodyPost_ret (v := .tuple #[.int .i64 (z), .nilIface]) (by simp [results, Tryz.results102, go_sem]) rfl ⟨rfl, ⟨_, H.out⟩, BX.out⟩
set_option maxRecDepth 8000 in
set_option maxHeartbeats 8000000 in
theorem do_set (lo P Z cap : Nat) (b : Bk) (q : Option Addr) (wv : Value) (c : List Value) (m : M) (vs : List Int) (u : World) (h : Psg u lo P Z b q cap wv c m vs) (y_ t_ : Int) (i d : Nat) (x : Int) (hx : vs[i]? = some x) (hd : d < m.regs.length) :
    Calls Tryz.prog 108 #[.agg #[.int .i64 8, .int .i64 (i : Int), .int .i64 y_, .int .i64 (d : Int), .int .i64 t_], .pointer (some ⟨P, 0, none⟩)] u (DoR lo P Z b q cap wv vs { m with regs := m.regs.set d x } (0) (.nilIface) u) := by
  have bX := alloc_below u (.cells #[.int .i64 8, .int .i64 (i : Int), .int .i64 y_, .int .i64 (d : Int), .int .i64 t_] 116)
  have H := hide (h.below bX)
  have R := hide (Rec.new u [.int .i64 8, .int .i64 (i : Int), .int .i64 y_, .int .i64 (d : Int), .int .i64 t_] 116)
  have BX := hide (bX.mono h.lu)
  have hP : P < u.heap.size := h.p.lt
  clear bX
  obtain ⟨b1, o1, k1, b2, o2, k2, b3, o3, k3, b4, k4, rfl⟩ := forms h.mach
  obtain ⟨regs, pc, mem, save, lets, waits, halt, ins, outs, count⟩ := m
  simp only [mv] at *
  obtain ⟨g, cp, rfl, cx⟩ := H.out.word hx
  have li : i < vs.length := (List.getElem?_eq_some_iff.1 hx).1
  have li' : ((i : Nat) : Int) < (vs.length : Int) := by omega
  have ld' : ((d : Nat) : Int) < (regs.length : Int) := by omega
  obtain ⟨z, ez⟩ : ∃ z, regs[d]? = some z := ⟨_, List.getElem?_eq_getElem hd⟩
  obtain ⟨cd, fd⟩ := row_at (CMach.parts (m := ⟨regs, pc, mem, save, lets, waits, halt, ins, outs, count⟩) H.out.mach).1 ez
  clear h ez hx
  go_enter Tryz.func108, Tryz.ntmps108
  go_wp2_with fail
  generalize (u.alloc (.cells #[.int .i64 8, .int .i64 (i : Int), .int .i64 y_, .int .i64 (d : Int), .int .i64 t_] 116)) = v at H R BX cd fd cx ⊢
  have p7 := H.out.p.cell 7 _ rfl
  have p8 := H.out.p.cell 8 _ rfl
  have z0 := H.out.z.cell 0 _ rfl
  have w1 := R.out.cell 1 _ rfl
  have w3 := R.out.cell 3 _ rfl
  have D : Below v.heap.size v v.drew := (Below.refl _ _).drew
  refine region_tail 17 (by kernel_rfl) (by kernel_rfl) ?_
  simp only [List.take_succ_cons, List.take_zero, List.drop_succ_cons, List.drop_zero]
  repeat still_step
  refine wpStill_nil ?_
  have HD := H.out.below D
  have tn : Turn b1 v.drew (v.drew.setCell ⟨b1, o1 + d, none⟩ (.int .i64 x)) := (Turn.refl b1 v.drew).setCell (p := ⟨b1, o1 + d, none⟩) rfl (.int .i64 x)
  have fm : b1 ∈ mb [.slice (some ⟨b1, o1, none⟩) regs.length k1, .int .i64 pc, .slice (some ⟨b2, o2, none⟩) mem.length k2, .int .i64 save, .bool lets, .bool waits, .int .i64 halt, .slice (some ⟨b3, o3, none⟩) ins.length k3, .slice (some ⟨b4, 0, none⟩) outs.length k4, .int .i64 count] := show b1 ∈ [b1, b2, b3, b4] by simp
  have HN := hide (HD.turn tn fm (CMach.setReg (m := ⟨regs, pc, mem, save, lets, waits, halt, ins, outs, count⟩) HD.mach d x hd))
  have BN := hide ((BX.out.trans (D.mono (Nat.le_trans HD.lu (by simp)))).trans (HD.turn_below tn fm))
  clear HD tn fm H BX D
  go_wp2
  exact bodyPost_ret (v := .tuple #[.int .i64 (0), .nilIface]) (by simp [results, Tryz.results108, go_sem]) rfl ⟨rfl, ⟨_, HN.out⟩, BN.out⟩
end Go.Proofs.YtaokopipgolmbaaGreatDoor.Ir
namespace Go.Proofs.YtaokopipgolmbaaGreatDoor.Ir
set_option linter.unusedVariables false
set_option linter.unusedSimpArgs false
open Go.ChangeShapes Go.WideShapes Go.ChangeAt Go.RowKit IntS Mch

set_option maxRecDepth 8000 in
set_option maxHeartbeats 8000000 in
theorem do_store_no (lo P Z cap : Nat) (b : Bk) (q : Option Addr) (wv : Value) (c : List Value) (m : M) (vs : List Int) (u : World) (h : Psg u lo P Z b q cap wv c m vs) (y_ k_ t_ : Int) (i : Nat) (x : Int) (hx : vs[i]? = some x) (hq : 64 ≤ x) :
    Calls Tryz.prog 104 #[.agg #[.int .i64 5, .int .i64 (i : Int), .int .i64 y_, .int .i64 k_, .int .i64 t_], .pointer (some ⟨P, 0, none⟩)] u (DoR lo P Z b q cap wv vs m (0) (.iface 81 (.agg #[.int .i64 t_])) u) := by
  have bX := alloc_below u (.cells #[.int .i64 5, .int .i64 (i : Int), .int .i64 y_, .int .i64 k_, .int .i64 t_] 113)
  have H := hide (h.below bX)
  have R := hide (Rec.new u [.int .i64 5, .int .i64 (i : Int), .int .i64 y_, .int .i64 k_, .int .i64 t_] 113)
  have BX := hide (bX.mono h.lu)
  have hP : P < u.heap.size := h.p.lt
  clear bX
  clear h
  go_enter Tryz.func104, Tryz.ntmps104
  have w1 := R.out.cell 1 _ rfl
  have w4 := R.out.cell 4 _ rfl
  go_wp2_with fail
  refine (address_no _ _ _ _ _ _ _ _ _ _ _ H.out i x t_ hx hq).mono ?_
  rintro e u1 ⟨rfl, rfl⟩
  go_wp2
  exact bodyPost_ret (v := .tuple #[.int .i64 (0), .iface 81 (.agg #[.int .i64 t_])]) (by simp [results, Tryz.results104, go_sem]) rfl ⟨rfl, ⟨_, H.out⟩, BX.out⟩
set_option maxRecDepth 8000 in
set_option maxHeartbeats 8000000 in
theorem do_store_far (lo P Z cap : Nat) (b : Bk) (q : Option Addr) (wv : Value) (c : List Value) (m : M) (vs : List Int) (u : World) (h : Psg u lo P Z b q cap wv c m vs) (k_ t_ : Int) (i j a : Nat) (y : Int) (hx : vs[i]? = some (a : Int)) (hy : vs[j]? = some y) (hq : (a : Int) < 64) (ha : a < m.mem.length) (t0 : 0 ≤ t_) (t7 : t_ ≤ 7) (p0 : 0 ≤ b.pc) (p1 : b.pc ≤ 64) (l0 : 0 ≤ b.ln) (l1 : b.ln ≤ 8) (hc : ¬ b.pc + t_ < (a : Int)) :
    Calls Tryz.prog 104 #[.agg #[.int .i64 5, .int .i64 (i : Int), .int .i64 (j : Int), .int .i64 k_, .int .i64 t_], .pointer (some ⟨P, 0, none⟩)] u (DoR lo P Z b q cap wv vs { m with mem := m.mem.set a y } (0) (.nilIface) u) := by
  have bX := alloc_below u (.cells #[.int .i64 5, .int .i64 (i : Int), .int .i64 (j : Int), .int .i64 k_, .int .i64 t_] 113)
  have H := hide (h.below bX)
  have R := hide (Rec.new u [.int .i64 5, .int .i64 (i : Int), .int .i64 (j : Int), .int .i64 k_, .int .i64 t_] 113)
  have BX := hide (bX.mono h.lu)
  have hP : P < u.heap.size := h.p.lt
  clear bX
  obtain ⟨b1, o1, k1, b2, o2, k2, b3, o3, k3, b4, k4, rfl⟩ := forms h.mach
  obtain ⟨regs, pc, mem, save, lets, waits, halt, ins, outs, count⟩ := m
  simp only [mv] at *
  obtain ⟨bp, ln, ops, en, bx, by_, bk⟩ := b
  simp only [] at p0 p1 l0 l1 hc  H
  obtain ⟨g, cp, rfl, cy⟩ := H.out.word hy
  have lj : j < vs.length := (List.getElem?_eq_some_iff.1 hy).1
  have lj' : ((j : Nat) : Int) < (vs.length : Int) := by omega
  have la' : ((a : Nat) : Int) < (mem.length : Int) := by omega
  obtain ⟨z, ez⟩ : ∃ z, mem[a]? = some z := ⟨_, List.getElem?_eq_getElem ha⟩
  obtain ⟨cd, fd⟩ := row_at (CMach.parts (m := ⟨regs, pc, mem, save, lets, waits, halt, ins, outs, count⟩) H.out.mach).2.1 ez
  have B2 : Hid (b2 < u.heap.size) := (CMach.parts (m := ⟨regs, pc, mem, save, lets, waits, halt, ins, outs, count⟩) h.mach).2.2.2.2.2.2.2.1.lt
  clear h ez hy
  go_enter Tryz.func104, Tryz.ntmps104
  have w1 := R.out.cell 1 _ rfl
  have w4 := R.out.cell 4 _ rfl
  go_wp2_with fail
  refine (address_yes _ _ _ _ _ _ _ _ _ _ _ H.out i (a : Int) t_ hx hq).mono ?_
  rintro e u1 ⟨rfl, rfl⟩
  clear w1 w4
  go_wp2_with fail
  generalize (u.alloc (.cells #[.int .i64 5, .int .i64 (i : Int), .int .i64 (j : Int), .int .i64 k_, .int .i64 t_] 113)) = v at H R BX cd fd cy ⊢
  have p7 := H.out.p.cell 7 _ rfl
  have p8 := H.out.p.cell 8 _ rfl
  have z2 := H.out.z.cell 2 _ rfl
  have w2 := R.out.cell 2 _ rfl
  have D : Below v.heap.size v v.drew := (Below.refl _ _).drew
  refine region_tail 16 (by kernel_rfl) (by kernel_rfl) ?_
  simp only [List.take_succ_cons, List.take_zero, List.drop_succ_cons, List.drop_zero]
  repeat still_step
  refine wpStill_nil ?_
  have HD := H.out.below D
  have RT := IsT
  clear RT
  have tn : Turn b2 v.drew (v.drew.setCell ⟨b2, o2 + a, none⟩ (.int .i64 y)) := (Turn.refl b2 v.drew).setCell (p := ⟨b2, o2 + a, none⟩) rfl (.int .i64 y)
  have fm : b2 ∈ mb [.slice (some ⟨b1, o1, none⟩) regs.length k1, .int .i64 pc, .slice (some ⟨b2, o2, none⟩) mem.length k2, .int .i64 save, .bool lets, .bool waits, .int .i64 halt, .slice (some ⟨b3, o3, none⟩) ins.length k3, .slice (some ⟨b4, 0, none⟩) outs.length k4, .int .i64 count] := show b2 ∈ [b1, b2, b3, b4] by simp
  have ub : u.heap.size ≠ b2 := Ne.symm (Nat.ne_of_lt B2.out)
  have HN := hide (HD.turn tn fm (CMach.setMem (m := ⟨regs, pc, mem, save, lets, waits, halt, ins, outs, count⟩) HD.mach a y ha))
  have BN := hide ((BX.out.trans (D.mono (Nat.le_trans HD.lu (by simp)))).trans (HD.turn_below tn fm))
  have RN := hide ((R.out.below D).turn tn ub)
  clear HD tn fm H BX D R ub
  go_wp2_with fail
  have e1 : v.drew.setCell ⟨b2, o2 + a, none⟩ (.int .i64 y) = (v.setCell ⟨b2, o2 + a, none⟩ (.int .i64 y)).drew := rfl
  rw [e1] at HN BN RN
  clear e1
  generalize (v.setCell ⟨b2, o2 + a, none⟩ (.int .i64 y)).drew = v1 at HN BN RN ⊢
  refine (wpIn_wide (n := 0)).1 ?_
  have D1 : Below v1.heap.size v1 v1.drew := (Below.refl _ _).drew
  replace BN := hide (BN.out.trans (D1.mono HN.out.lu))
  replace HN := hide (HN.out.below D1)
  replace RN := hide (RN.out.below D1)
  clear D1 cd fd cy p7 p8 z2 w2
  refine PhaseIn.region (S := fun D => Rec P [.int .i64 bp, .int .i64 ln, .slice q ops.length cap, .int .i64 en, .int .i64 bx, .int .i64 by_, .int .i64 bk, .pointer (some ⟨Z, 0, none⟩), .slice (some ⟨g, 0, none⟩) vs.length cp] D ∧ Rec u.heap.size [.int .i64 5, .int .i64 (i : Int), .int .i64 (j : Int), .int .i64 k_, .int .i64 t_] D ∧ True) 25 (by kernel_rfl) ?_
  generalize v1.drew = v2 at HN BN RN ⊢
  have hHeld : Rec P [.int .i64 bp, .int .i64 ln, .slice q ops.length cap, .int .i64 en, .int .i64 bx, .int .i64 by_, .int .i64 bk, .pointer (some ⟨Z, 0, none⟩), .slice (some ⟨g, 0, none⟩) vs.length cp] v2 ∧ Rec u.heap.size [.int .i64 5, .int .i64 (i : Int), .int .i64 (j : Int), .int .i64 k_, .int .i64 t_] v2 ∧ True := ⟨HN.out.p, RN.out, trivial⟩
  have wr1 : IntKind.i64.wrap (bp + t_) = bp + t_ := IntWalk.i64_in _ ⟨by omega, by omega⟩
  have wr2 : IntKind.i64.wrap (bp + ln) = bp + ln := IntWalk.i64_in _ ⟨by omega, by omega⟩
  refine PhaseIn.takeD (i := 0) (v := ?_) [0, 1, 2, 3, 4, 7, 9, 10, 11, 12, 13, 14, 15, 16, 17, 18, 19, 20, 21, 22, 23, 24] 37 rfl (by rfl) (by kernel_rfl) (by kernel_rfl) (by kernel_rfl) (by kernel_rfl) (by kernel_rfl) (fun _ _ _ h => h) (Or.inl ⟨by kernel_rfl, ?_⟩) hHeld ?_
  rotate_left
  · intro w' hSw
    (try dsimp only at hSw)
    go_simp
    first | done | with_reducible rfl | (simp only [wr1, wr2]; done) | simp [wr1, wr2]
  try simp only [Act.put, List.setIfInBounds_toArray, List.set]
  refine PhaseIn.takeD (i := 1) (v := ?_) [1, 2, 3, 4, 7, 9, 10, 11, 12, 13, 14, 15, 16, 17, 18, 19, 20, 21, 22, 23, 24] 38 rfl (by rfl) (by kernel_rfl) (by kernel_rfl) (by kernel_rfl) (by kernel_rfl) (by kernel_rfl) (fun _ _ _ h => h) (Or.inl ⟨by kernel_rfl, ?_⟩) hHeld ?_
  rotate_left
  · intro w' hSw
    (try dsimp only at hSw)
    go_simp
    first | done | with_reducible rfl | (simp only [wr1, wr2]; done) | simp [wr1, wr2]
  try simp only [Act.put, List.setIfInBounds_toArray, List.set]
  refine PhaseIn.takeD (i := 2) (v := ?_) [2, 3, 4, 7, 9, 10, 11, 12, 13, 14, 15, 16, 17, 18, 19, 20, 21, 22, 23, 24] 39 rfl (by rfl) (by kernel_rfl) (by kernel_rfl) (by kernel_rfl) (by kernel_rfl) (by kernel_rfl) (fun _ _ _ h => h) (Or.inl ⟨by kernel_rfl, ?_⟩) hHeld ?_
  rotate_left
  · intro w' hSw
    (try dsimp only at hSw)
    go_simp
    first | done | with_reducible rfl | (simp only [wr1, wr2]; done) | simp [wr1, wr2]
  try simp only [Act.put, List.setIfInBounds_toArray, List.set]
  refine PhaseIn.takeD (i := 3) (v := ?_) [3, 4, 7, 9, 10, 11, 12, 13, 14, 15, 16, 17, 18, 19, 20, 21, 22, 23, 24] 40 rfl (by rfl) (by kernel_rfl) (by kernel_rfl) (by kernel_rfl) (by kernel_rfl) (by kernel_rfl) (fun _ _ _ h => h) (Or.inl ⟨by kernel_rfl, ?_⟩) hHeld ?_
  rotate_left
  · intro w' hSw
    (try dsimp only at hSw)
    go_simp
    first | done | with_reducible rfl | (simp only [wr1, wr2]; done) | simp [wr1, wr2]
  try simp only [Act.put, List.setIfInBounds_toArray, List.set]
  refine PhaseIn.takeD (i := 4) (v := ?_) [4, 7, 9, 10, 11, 12, 13, 14, 15, 16, 17, 18, 19, 20, 21, 22, 23, 24] 41 rfl (by rfl) (by kernel_rfl) (by kernel_rfl) (by kernel_rfl) (by kernel_rfl) (by kernel_rfl) (fun _ _ _ h => h) (Or.inl ⟨by kernel_rfl, ?_⟩) hHeld ?_
  rotate_left
  · intro w' hSw
    (try dsimp only at hSw)
    have z0 := hSw.1.cell 0 _ rfl
    go_simp
    first | done | with_reducible rfl | (simp only [wr1, wr2]; done) | simp [wr1, wr2]
  try simp only [Act.put, List.setIfInBounds_toArray, List.set]
  refine PhaseIn.takeD (i := 5) (v := ?_) [5, 6, 7, 9, 10, 11, 12, 13, 14, 15, 16, 17, 18, 19, 20, 21, 22, 23, 24] 42 rfl (by rfl) (by kernel_rfl) (by kernel_rfl) (by kernel_rfl) (by kernel_rfl) (by kernel_rfl) (fun _ _ _ h => h) (Or.inl ⟨by kernel_rfl, ?_⟩) hHeld ?_
  rotate_left
  · intro w' hSw
    (try dsimp only at hSw)
    go_simp
    first | done | with_reducible rfl | (simp only [wr1, wr2]; done) | simp [wr1, wr2]
  try simp only [Act.put, List.setIfInBounds_toArray, List.set]
  refine PhaseIn.takeD (i := 6) (v := ?_) [6, 7, 9, 10, 11, 12, 13, 14, 15, 16, 17, 18, 19, 20, 21, 22, 23, 24] 43 rfl (by rfl) (by kernel_rfl) (by kernel_rfl) (by kernel_rfl) (by kernel_rfl) (by kernel_rfl) (fun _ _ _ h => h) (Or.inl ⟨by kernel_rfl, ?_⟩) hHeld ?_
  rotate_left
  · intro w' hSw
    (try dsimp only at hSw)
    have z4 := hSw.2.1.cell 4 _ rfl
    go_simp
    first | done | with_reducible rfl | (simp only [wr1, wr2]; done) | simp [wr1, wr2]
  try simp only [Act.put, List.setIfInBounds_toArray, List.set]
  refine PhaseIn.takeD (i := 7) (v := .int .i64 (bp + t_)) [7, 9, 10, 11, 12, 13, 14, 15, 16, 17, 18, 19, 20, 21, 22, 23, 24] 44 rfl (by rfl) (by kernel_rfl) (by kernel_rfl) (by kernel_rfl) (by kernel_rfl) (by kernel_rfl) (fun _ _ _ h => h) (Or.inl ⟨by kernel_rfl, ?_⟩) hHeld ?_
  · intro w' hSw
    (try dsimp only at hSw)
    go_simp
    first | done | with_reducible rfl | (simp only [wr1, wr2]; done) | simp [wr1, wr2]
  try simp only [Act.put, List.setIfInBounds_toArray, List.set]
  refine PhaseIn.takeD (i := 8) (v := ?_) [8, 9, 10, 11, 12, 13, 14, 15, 16, 17, 18, 19, 20, 21, 22, 23, 24] 45 rfl (by rfl) (by kernel_rfl) (by kernel_rfl) (by kernel_rfl) (by kernel_rfl) (by kernel_rfl) (fun _ _ _ h => h) (Or.inl ⟨by kernel_rfl, ?_⟩) hHeld ?_
  rotate_left
  · intro w' hSw
    (try dsimp only at hSw)
    go_simp
    first | done | with_reducible rfl | (simp only [wr1, wr2]; done) | simp [wr1, wr2]
  try simp only [Act.put, List.setIfInBounds_toArray, List.set]
  refine PhaseIn.takeD (i := 9) (v := .bool false) [9, 10, 11, 12, 13, 14, 15, 16, 17, 18, 19, 20, 21, 22, 23, 24] 46 rfl (by rfl) (by kernel_rfl) (by kernel_rfl) (by kernel_rfl) (by kernel_rfl) (by kernel_rfl) (fun _ _ _ h => h) (Or.inl ⟨by kernel_rfl, ?_⟩) hHeld ?_
  · intro w' hSw
    (try dsimp only at hSw)
    go_simp
    first | done | with_reducible rfl | (simp only [wr1, wr2]; done) | simp [wr1, wr2]
  try simp only [Act.put, List.setIfInBounds_toArray, List.set]
  refine PhaseIn.takeD (i := 10) (v := .bool false) [10, 11, 12, 13, 14, 15, 16, 17, 18, 19, 20, 21, 22, 23, 24] 47 rfl (by rfl) (by kernel_rfl) (by kernel_rfl) (by kernel_rfl) (by kernel_rfl) (by kernel_rfl) (fun _ _ _ h => h) (Or.inl ⟨by kernel_rfl, ?_⟩) hHeld ?_
  · intro w' hSw
    (try dsimp only at hSw)
    go_simp
    first | done | with_reducible rfl | (simp only [wr1, wr2]; done) | simp [wr1, wr2]
  try simp only [Act.put, List.setIfInBounds_toArray, List.set]
  refine PhaseIn.takeD (i := 11) (v := undef) [11, 23, 24] 48 rfl (by rfl) (by kernel_rfl) (by kernel_rfl) (by kernel_rfl) (by kernel_rfl) (by kernel_rfl) (fun _ _ _ h => h) (Or.inr ⟨by kernel_rfl, rfl⟩) hHeld ?_
  try simp only [Act.put, List.setIfInBounds_toArray, List.set]
  refine PhaseIn.takeD (i := 12) (v := undef) [12, 13, 14, 15, 16, 22, 23, 24] 49 rfl (by rfl) (by kernel_rfl) (by kernel_rfl) (by kernel_rfl) (by kernel_rfl) (by kernel_rfl) (fun _ _ _ h => h) (Or.inr ⟨by kernel_rfl, rfl⟩) hHeld ?_
  try simp only [Act.put, List.setIfInBounds_toArray, List.set]
  refine PhaseIn.takeD (i := 13) (v := undef) [13, 14, 15, 16, 22, 23, 24] 50 rfl (by rfl) (by kernel_rfl) (by kernel_rfl) (by kernel_rfl) (by kernel_rfl) (by kernel_rfl) (fun _ _ _ h => h) (Or.inr ⟨by kernel_rfl, rfl⟩) hHeld ?_
  try simp only [Act.put, List.setIfInBounds_toArray, List.set]
  refine PhaseIn.takeD (i := 14) (v := undef) [14, 15, 16, 22, 23, 24] 51 rfl (by rfl) (by kernel_rfl) (by kernel_rfl) (by kernel_rfl) (by kernel_rfl) (by kernel_rfl) (fun _ _ _ h => h) (Or.inr ⟨by kernel_rfl, rfl⟩) hHeld ?_
  try simp only [Act.put, List.setIfInBounds_toArray, List.set]
  refine PhaseIn.takeD (i := 15) (v := undef) [15, 16, 22, 23, 24] 52 rfl (by rfl) (by kernel_rfl) (by kernel_rfl) (by kernel_rfl) (by kernel_rfl) (by kernel_rfl) (fun _ _ _ h => h) (Or.inr ⟨by kernel_rfl, rfl⟩) hHeld ?_
  try simp only [Act.put, List.setIfInBounds_toArray, List.set]
  refine PhaseIn.takeD (i := 16) (v := undef) [16, 22, 23, 24] 53 rfl (by rfl) (by kernel_rfl) (by kernel_rfl) (by kernel_rfl) (by kernel_rfl) (by kernel_rfl) (fun _ _ _ h => h) (Or.inr ⟨by kernel_rfl, rfl⟩) hHeld ?_
  try simp only [Act.put, List.setIfInBounds_toArray, List.set]
  refine PhaseIn.takeD (i := 17) (v := undef) [17, 18, 19, 20, 21, 22, 23, 24] 54 rfl (by rfl) (by kernel_rfl) (by kernel_rfl) (by kernel_rfl) (by kernel_rfl) (by kernel_rfl) (fun _ _ _ h => h) (Or.inr ⟨by kernel_rfl, rfl⟩) hHeld ?_
  try simp only [Act.put, List.setIfInBounds_toArray, List.set]
  refine PhaseIn.takeD (i := 18) (v := undef) [18, 19, 20, 21, 22, 23, 24] 55 rfl (by rfl) (by kernel_rfl) (by kernel_rfl) (by kernel_rfl) (by kernel_rfl) (by kernel_rfl) (fun _ _ _ h => h) (Or.inr ⟨by kernel_rfl, rfl⟩) hHeld ?_
  try simp only [Act.put, List.setIfInBounds_toArray, List.set]
  refine PhaseIn.takeD (i := 19) (v := undef) [19, 20, 21, 22, 23, 24] 56 rfl (by rfl) (by kernel_rfl) (by kernel_rfl) (by kernel_rfl) (by kernel_rfl) (by kernel_rfl) (fun _ _ _ h => h) (Or.inr ⟨by kernel_rfl, rfl⟩) hHeld ?_
  try simp only [Act.put, List.setIfInBounds_toArray, List.set]
  refine PhaseIn.takeD (i := 20) (v := undef) [20, 21, 22, 23, 24] 57 rfl (by rfl) (by kernel_rfl) (by kernel_rfl) (by kernel_rfl) (by kernel_rfl) (by kernel_rfl) (fun _ _ _ h => h) (Or.inr ⟨by kernel_rfl, rfl⟩) hHeld ?_
  try simp only [Act.put, List.setIfInBounds_toArray, List.set]
  refine PhaseIn.takeD (i := 21) (v := undef) [21, 22, 23, 24] 58 rfl (by rfl) (by kernel_rfl) (by kernel_rfl) (by kernel_rfl) (by kernel_rfl) (by kernel_rfl) (fun _ _ _ h => h) (Or.inr ⟨by kernel_rfl, rfl⟩) hHeld ?_
  try simp only [Act.put, List.setIfInBounds_toArray, List.set]
  refine PhaseIn.takeD (i := 22) (v := undef) [22, 23, 24] 59 rfl (by rfl) (by kernel_rfl) (by kernel_rfl) (by kernel_rfl) (by kernel_rfl) (by kernel_rfl) (fun _ _ _ h => h) (Or.inr ⟨by kernel_rfl, rfl⟩) hHeld ?_
  try simp only [Act.put, List.setIfInBounds_toArray, List.set]
  refine PhaseIn.takeD (i := 23) (v := undef) [23, 24] 60 rfl (by rfl) (by kernel_rfl) (by kernel_rfl) (by kernel_rfl) (by kernel_rfl) (by kernel_rfl) (fun _ _ _ h => h) (Or.inr ⟨by kernel_rfl, rfl⟩) hHeld ?_
  try simp only [Act.put, List.setIfInBounds_toArray, List.set]
  refine PhaseIn.takeD (i := 24) (v := .bool false) [24] 61 rfl (by rfl) (by kernel_rfl) (by kernel_rfl) (by kernel_rfl) (by kernel_rfl) (by kernel_rfl) (fun _ _ _ h => h) (Or.inl ⟨by kernel_rfl, ?_⟩) hHeld ?_
  · intro w' hSw
    (try dsimp only at hSw)
    go_simp
    first | done | with_reducible rfl | (simp only [wr1, wr2]; done) | simp [wr1, wr2]
  try simp only [Act.put, List.setIfInBounds_toArray, List.set]
  refine PhaseIn.done (by kernel_rfl) ?_ _
  clear hHeld
  go_wp2
  exact bodyPost_ret (v := .tuple #[.int .i64 (0), .nilIface]) (by simp [results, Tryz.results104, go_sem]) rfl ⟨rfl, ⟨_, HN.out⟩, BN.out⟩
set_option maxRecDepth 8000 in
set_option maxHeartbeats 8000000 in
theorem do_store_over (lo P Z cap : Nat) (b : Bk) (q : Option Addr) (wv : Value) (c : List Value) (m : M) (vs : List Int) (u : World) (h : Psg u lo P Z b q cap wv c m vs) (k_ t_ : Int) (i j a : Nat) (y : Int) (hx : vs[i]? = some (a : Int)) (hy : vs[j]? = some y) (hq : (a : Int) < 64) (ha : a < m.mem.length) (t0 : 0 ≤ t_) (t7 : t_ ≤ 7) (p0 : 0 ≤ b.pc) (p1 : b.pc ≤ 64) (l0 : 0 ≤ b.ln) (l1 : b.ln ≤ 8) (hc : b.pc + t_ < (a : Int)) (hd : (a : Int) < b.pc + b.ln) :
    Calls Tryz.prog 104 #[.agg #[.int .i64 5, .int .i64 (i : Int), .int .i64 (j : Int), .int .i64 k_, .int .i64 t_], .pointer (some ⟨P, 0, none⟩)] u (DoR lo P Z b q cap wv vs { m with mem := m.mem.set a y } (0) (.iface 82 (.agg #[.int .i64 t_])) u) := by
  have bX := alloc_below u (.cells #[.int .i64 5, .int .i64 (i : Int), .int .i64 (j : Int), .int .i64 k_, .int .i64 t_] 113)
  have H := hide (h.below bX)
  have R := hide (Rec.new u [.int .i64 5, .int .i64 (i : Int), .int .i64 (j : Int), .int .i64 k_, .int .i64 t_] 113)
  have BX := hide (bX.mono h.lu)
  have hP : P < u.heap.size := h.p.lt
  clear bX
  obtain ⟨b1, o1, k1, b2, o2, k2, b3, o3, k3, b4, k4, rfl⟩ := forms h.mach
  obtain ⟨regs, pc, mem, save, lets, waits, halt, ins, outs, count⟩ := m
  simp only [mv] at *
  obtain ⟨bp, ln, ops, en, bx, by_, bk⟩ := b
  simp only [] at p0 p1 l0 l1 hc hd H
  obtain ⟨g, cp, rfl, cy⟩ := H.out.word hy
  have lj : j < vs.length := (List.getElem?_eq_some_iff.1 hy).1
  have lj' : ((j : Nat) : Int) < (vs.length : Int) := by omega
  have la' : ((a : Nat) : Int) < (mem.length : Int) := by omega
  obtain ⟨z, ez⟩ : ∃ z, mem[a]? = some z := ⟨_, List.getElem?_eq_getElem ha⟩
  obtain ⟨cd, fd⟩ := row_at (CMach.parts (m := ⟨regs, pc, mem, save, lets, waits, halt, ins, outs, count⟩) H.out.mach).2.1 ez
  have B2 : Hid (b2 < u.heap.size) := (CMach.parts (m := ⟨regs, pc, mem, save, lets, waits, halt, ins, outs, count⟩) h.mach).2.2.2.2.2.2.2.1.lt
  clear h ez hy
  go_enter Tryz.func104, Tryz.ntmps104
  have w1 := R.out.cell 1 _ rfl
  have w4 := R.out.cell 4 _ rfl
  go_wp2_with fail
  refine (address_yes _ _ _ _ _ _ _ _ _ _ _ H.out i (a : Int) t_ hx hq).mono ?_
  rintro e u1 ⟨rfl, rfl⟩
  clear w1 w4
  go_wp2_with fail
  generalize (u.alloc (.cells #[.int .i64 5, .int .i64 (i : Int), .int .i64 (j : Int), .int .i64 k_, .int .i64 t_] 113)) = v at H R BX cd fd cy ⊢
  have p7 := H.out.p.cell 7 _ rfl
  have p8 := H.out.p.cell 8 _ rfl
  have z2 := H.out.z.cell 2 _ rfl
  have w2 := R.out.cell 2 _ rfl
  have D : Below v.heap.size v v.drew := (Below.refl _ _).drew
  refine region_tail 16 (by kernel_rfl) (by kernel_rfl) ?_
  simp only [List.take_succ_cons, List.take_zero, List.drop_succ_cons, List.drop_zero]
  repeat still_step
  refine wpStill_nil ?_
  have HD := H.out.below D
  have RT := IsT
  clear RT
  have tn : Turn b2 v.drew (v.drew.setCell ⟨b2, o2 + a, none⟩ (.int .i64 y)) := (Turn.refl b2 v.drew).setCell (p := ⟨b2, o2 + a, none⟩) rfl (.int .i64 y)
  have fm : b2 ∈ mb [.slice (some ⟨b1, o1, none⟩) regs.length k1, .int .i64 pc, .slice (some ⟨b2, o2, none⟩) mem.length k2, .int .i64 save, .bool lets, .bool waits, .int .i64 halt, .slice (some ⟨b3, o3, none⟩) ins.length k3, .slice (some ⟨b4, 0, none⟩) outs.length k4, .int .i64 count] := show b2 ∈ [b1, b2, b3, b4] by simp
  have ub : u.heap.size ≠ b2 := Ne.symm (Nat.ne_of_lt B2.out)
  have HN := hide (HD.turn tn fm (CMach.setMem (m := ⟨regs, pc, mem, save, lets, waits, halt, ins, outs, count⟩) HD.mach a y ha))
  have BN := hide ((BX.out.trans (D.mono (Nat.le_trans HD.lu (by simp)))).trans (HD.turn_below tn fm))
  have RN := hide ((R.out.below D).turn tn ub)
  clear HD tn fm H BX D R ub
  go_wp2_with fail
  have e1 : v.drew.setCell ⟨b2, o2 + a, none⟩ (.int .i64 y) = (v.setCell ⟨b2, o2 + a, none⟩ (.int .i64 y)).drew := rfl
  rw [e1] at HN BN RN
  clear e1
  generalize (v.setCell ⟨b2, o2 + a, none⟩ (.int .i64 y)).drew = v1 at HN BN RN ⊢
  refine (wpIn_wide (n := 0)).1 ?_
  have D1 : Below v1.heap.size v1 v1.drew := (Below.refl _ _).drew
  replace BN := hide (BN.out.trans (D1.mono HN.out.lu))
  replace HN := hide (HN.out.below D1)
  replace RN := hide (RN.out.below D1)
  clear D1 cd fd cy p7 p8 z2 w2
  refine PhaseIn.region (S := fun D => Rec P [.int .i64 bp, .int .i64 ln, .slice q ops.length cap, .int .i64 en, .int .i64 bx, .int .i64 by_, .int .i64 bk, .pointer (some ⟨Z, 0, none⟩), .slice (some ⟨g, 0, none⟩) vs.length cp] D ∧ Rec u.heap.size [.int .i64 5, .int .i64 (i : Int), .int .i64 (j : Int), .int .i64 k_, .int .i64 t_] D ∧ True) 25 (by kernel_rfl) ?_
  generalize v1.drew = v2 at HN BN RN ⊢
  have hHeld : Rec P [.int .i64 bp, .int .i64 ln, .slice q ops.length cap, .int .i64 en, .int .i64 bx, .int .i64 by_, .int .i64 bk, .pointer (some ⟨Z, 0, none⟩), .slice (some ⟨g, 0, none⟩) vs.length cp] v2 ∧ Rec u.heap.size [.int .i64 5, .int .i64 (i : Int), .int .i64 (j : Int), .int .i64 k_, .int .i64 t_] v2 ∧ True := ⟨HN.out.p, RN.out, trivial⟩
  have wr1 : IntKind.i64.wrap (bp + t_) = bp + t_ := IntWalk.i64_in _ ⟨by omega, by omega⟩
  have wr2 : IntKind.i64.wrap (bp + ln) = bp + ln := IntWalk.i64_in _ ⟨by omega, by omega⟩
  refine PhaseIn.takeD (i := 0) (v := ?_) [0, 1, 2, 3, 4, 7, 9, 10, 11, 12, 13, 14, 15, 16, 17, 18, 19, 20, 21, 22, 23, 24] 37 rfl (by rfl) (by kernel_rfl) (by kernel_rfl) (by kernel_rfl) (by kernel_rfl) (by kernel_rfl) (fun _ _ _ h => h) (Or.inl ⟨by kernel_rfl, ?_⟩) hHeld ?_
  rotate_left
  · intro w' hSw
    (try dsimp only at hSw)
    go_simp
    first | done | with_reducible rfl | (simp only [wr1, wr2]; done) | simp [wr1, wr2]
  try simp only [Act.put, List.setIfInBounds_toArray, List.set]
  refine PhaseIn.takeD (i := 1) (v := ?_) [1, 2, 3, 4, 7, 9, 10, 11, 12, 13, 14, 15, 16, 17, 18, 19, 20, 21, 22, 23, 24] 38 rfl (by rfl) (by kernel_rfl) (by kernel_rfl) (by kernel_rfl) (by kernel_rfl) (by kernel_rfl) (fun _ _ _ h => h) (Or.inl ⟨by kernel_rfl, ?_⟩) hHeld ?_
  rotate_left
  · intro w' hSw
    (try dsimp only at hSw)
    go_simp
    first | done | with_reducible rfl | (simp only [wr1, wr2]; done) | simp [wr1, wr2]
  try simp only [Act.put, List.setIfInBounds_toArray, List.set]
  refine PhaseIn.takeD (i := 2) (v := ?_) [2, 3, 4, 7, 9, 10, 11, 12, 13, 14, 15, 16, 17, 18, 19, 20, 21, 22, 23, 24] 39 rfl (by rfl) (by kernel_rfl) (by kernel_rfl) (by kernel_rfl) (by kernel_rfl) (by kernel_rfl) (fun _ _ _ h => h) (Or.inl ⟨by kernel_rfl, ?_⟩) hHeld ?_
  rotate_left
  · intro w' hSw
    (try dsimp only at hSw)
    go_simp
    first | done | with_reducible rfl | (simp only [wr1, wr2]; done) | simp [wr1, wr2]
  try simp only [Act.put, List.setIfInBounds_toArray, List.set]
  refine PhaseIn.takeD (i := 3) (v := ?_) [3, 4, 7, 9, 10, 11, 12, 13, 14, 15, 16, 17, 18, 19, 20, 21, 22, 23, 24] 40 rfl (by rfl) (by kernel_rfl) (by kernel_rfl) (by kernel_rfl) (by kernel_rfl) (by kernel_rfl) (fun _ _ _ h => h) (Or.inl ⟨by kernel_rfl, ?_⟩) hHeld ?_
  rotate_left
  · intro w' hSw
    (try dsimp only at hSw)
    go_simp
    first | done | with_reducible rfl | (simp only [wr1, wr2]; done) | simp [wr1, wr2]
  try simp only [Act.put, List.setIfInBounds_toArray, List.set]
  refine PhaseIn.takeD (i := 4) (v := ?_) [4, 7, 9, 10, 11, 12, 13, 14, 15, 16, 17, 18, 19, 20, 21, 22, 23, 24] 41 rfl (by rfl) (by kernel_rfl) (by kernel_rfl) (by kernel_rfl) (by kernel_rfl) (by kernel_rfl) (fun _ _ _ h => h) (Or.inl ⟨by kernel_rfl, ?_⟩) hHeld ?_
  rotate_left
  · intro w' hSw
    (try dsimp only at hSw)
    have z0 := hSw.1.cell 0 _ rfl
    go_simp
    first | done | with_reducible rfl | (simp only [wr1, wr2]; done) | simp [wr1, wr2]
  try simp only [Act.put, List.setIfInBounds_toArray, List.set]
  refine PhaseIn.takeD (i := 5) (v := ?_) [5, 6, 7, 9, 10, 11, 12, 13, 14, 15, 16, 17, 18, 19, 20, 21, 22, 23, 24] 42 rfl (by rfl) (by kernel_rfl) (by kernel_rfl) (by kernel_rfl) (by kernel_rfl) (by kernel_rfl) (fun _ _ _ h => h) (Or.inl ⟨by kernel_rfl, ?_⟩) hHeld ?_
  rotate_left
  · intro w' hSw
    (try dsimp only at hSw)
    go_simp
    first | done | with_reducible rfl | (simp only [wr1, wr2]; done) | simp [wr1, wr2]
  try simp only [Act.put, List.setIfInBounds_toArray, List.set]
  refine PhaseIn.takeD (i := 6) (v := ?_) [6, 7, 9, 10, 11, 12, 13, 14, 15, 16, 17, 18, 19, 20, 21, 22, 23, 24] 43 rfl (by rfl) (by kernel_rfl) (by kernel_rfl) (by kernel_rfl) (by kernel_rfl) (by kernel_rfl) (fun _ _ _ h => h) (Or.inl ⟨by kernel_rfl, ?_⟩) hHeld ?_
  rotate_left
  · intro w' hSw
    (try dsimp only at hSw)
    have z4 := hSw.2.1.cell 4 _ rfl
    go_simp
    first | done | with_reducible rfl | (simp only [wr1, wr2]; done) | simp [wr1, wr2]
  try simp only [Act.put, List.setIfInBounds_toArray, List.set]
  refine PhaseIn.takeD (i := 7) (v := .int .i64 (bp + t_)) [7, 9, 10, 11, 12, 13, 14, 15, 16, 17, 18, 19, 20, 21, 22, 23, 24] 44 rfl (by rfl) (by kernel_rfl) (by kernel_rfl) (by kernel_rfl) (by kernel_rfl) (by kernel_rfl) (fun _ _ _ h => h) (Or.inl ⟨by kernel_rfl, ?_⟩) hHeld ?_
  · intro w' hSw
    (try dsimp only at hSw)
    go_simp
    first | done | with_reducible rfl | (simp only [wr1, wr2]; done) | simp [wr1, wr2]
  try simp only [Act.put, List.setIfInBounds_toArray, List.set]
  refine PhaseIn.takeD (i := 8) (v := ?_) [8, 9, 10, 11, 12, 13, 14, 15, 16, 17, 18, 19, 20, 21, 22, 23, 24] 45 rfl (by rfl) (by kernel_rfl) (by kernel_rfl) (by kernel_rfl) (by kernel_rfl) (by kernel_rfl) (fun _ _ _ h => h) (Or.inl ⟨by kernel_rfl, ?_⟩) hHeld ?_
  rotate_left
  · intro w' hSw
    (try dsimp only at hSw)
    go_simp
    first | done | with_reducible rfl | (simp only [wr1, wr2]; done) | simp [wr1, wr2]
  try simp only [Act.put, List.setIfInBounds_toArray, List.set]
  refine PhaseIn.takeD (i := 9) (v := .bool true) [9, 10, 11, 12, 13, 14, 15, 16, 17, 18, 19, 20, 21, 22, 23, 24] 46 rfl (by rfl) (by kernel_rfl) (by kernel_rfl) (by kernel_rfl) (by kernel_rfl) (by kernel_rfl) (fun _ _ _ h => h) (Or.inl ⟨by kernel_rfl, ?_⟩) hHeld ?_
  · intro w' hSw
    (try dsimp only at hSw)
    go_simp
    first | done | with_reducible rfl | (simp only [wr1, wr2]; done) | simp [wr1, wr2]
  try simp only [Act.put, List.setIfInBounds_toArray, List.set]
  refine PhaseIn.takeD (i := 10) (v := .bool true) [10, 11, 12, 13, 14, 15, 16, 17, 18, 19, 20, 21, 22, 23, 24] 47 rfl (by rfl) (by kernel_rfl) (by kernel_rfl) (by kernel_rfl) (by kernel_rfl) (by kernel_rfl) (fun _ _ _ h => h) (Or.inl ⟨by kernel_rfl, ?_⟩) hHeld ?_
  · intro w' hSw
    (try dsimp only at hSw)
    go_simp
    first | done | with_reducible rfl | (simp only [wr1, wr2]; done) | simp [wr1, wr2]
  try simp only [Act.put, List.setIfInBounds_toArray, List.set]
  refine PhaseIn.takeD (i := 11) (v := ?_) [11, 23, 24] 48 rfl (by rfl) (by kernel_rfl) (by kernel_rfl) (by kernel_rfl) (by kernel_rfl) (by kernel_rfl) (fun _ _ _ h => h) (Or.inl ⟨by kernel_rfl, ?_⟩) hHeld ?_
  rotate_left
  · intro w' hSw
    (try dsimp only at hSw)
    go_simp
    first | done | with_reducible rfl | (simp only [wr1, wr2]; done) | simp [wr1, wr2]
  try simp only [Act.put, List.setIfInBounds_toArray, List.set]
  refine PhaseIn.takeD (i := 12) (v := ?_) [12, 13, 14, 15, 16, 22, 23, 24] 49 rfl (by rfl) (by kernel_rfl) (by kernel_rfl) (by kernel_rfl) (by kernel_rfl) (by kernel_rfl) (fun _ _ _ h => h) (Or.inl ⟨by kernel_rfl, ?_⟩) hHeld ?_
  rotate_left
  · intro w' hSw
    (try dsimp only at hSw)
    go_simp
    first | done | with_reducible rfl | (simp only [wr1, wr2]; done) | simp [wr1, wr2]
  try simp only [Act.put, List.setIfInBounds_toArray, List.set]
  refine PhaseIn.takeD (i := 13) (v := ?_) [13, 14, 15, 16, 22, 23, 24] 50 rfl (by rfl) (by kernel_rfl) (by kernel_rfl) (by kernel_rfl) (by kernel_rfl) (by kernel_rfl) (fun _ _ _ h => h) (Or.inl ⟨by kernel_rfl, ?_⟩) hHeld ?_
  rotate_left
  · intro w' hSw
    (try dsimp only at hSw)
    go_simp
    first | done | with_reducible rfl | (simp only [wr1, wr2]; done) | simp [wr1, wr2]
  try simp only [Act.put, List.setIfInBounds_toArray, List.set]
  refine PhaseIn.takeD (i := 14) (v := ?_) [14, 15, 16, 22, 23, 24] 51 rfl (by rfl) (by kernel_rfl) (by kernel_rfl) (by kernel_rfl) (by kernel_rfl) (by kernel_rfl) (fun _ _ _ h => h) (Or.inl ⟨by kernel_rfl, ?_⟩) hHeld ?_
  rotate_left
  · intro w' hSw
    (try dsimp only at hSw)
    go_simp
    first | done | with_reducible rfl | (simp only [wr1, wr2]; done) | simp [wr1, wr2]
  try simp only [Act.put, List.setIfInBounds_toArray, List.set]
  refine PhaseIn.takeD (i := 15) (v := ?_) [15, 16, 22, 23, 24] 52 rfl (by rfl) (by kernel_rfl) (by kernel_rfl) (by kernel_rfl) (by kernel_rfl) (by kernel_rfl) (fun _ _ _ h => h) (Or.inl ⟨by kernel_rfl, ?_⟩) hHeld ?_
  rotate_left
  · intro w' hSw
    (try dsimp only at hSw)
    go_simp
    first | done | with_reducible rfl | (simp only [wr1, wr2]; done) | simp [wr1, wr2]
  try simp only [Act.put, List.setIfInBounds_toArray, List.set]
  refine PhaseIn.takeD (i := 16) (v := ?_) [16, 22, 23, 24] 53 rfl (by rfl) (by kernel_rfl) (by kernel_rfl) (by kernel_rfl) (by kernel_rfl) (by kernel_rfl) (fun _ _ _ h => h) (Or.inl ⟨by kernel_rfl, ?_⟩) hHeld ?_
  rotate_left
  · intro w' hSw
    (try dsimp only at hSw)
    have z0 := hSw.1.cell 0 _ rfl
    go_simp
    first | done | with_reducible rfl | (simp only [wr1, wr2]; done) | simp [wr1, wr2]
  try simp only [Act.put, List.setIfInBounds_toArray, List.set]
  refine PhaseIn.takeD (i := 17) (v := ?_) [17, 18, 19, 20, 21, 22, 23, 24] 54 rfl (by rfl) (by kernel_rfl) (by kernel_rfl) (by kernel_rfl) (by kernel_rfl) (by kernel_rfl) (fun _ _ _ h => h) (Or.inl ⟨by kernel_rfl, ?_⟩) hHeld ?_
  rotate_left
  · intro w' hSw
    (try dsimp only at hSw)
    go_simp
    first | done | with_reducible rfl | (simp only [wr1, wr2]; done) | simp [wr1, wr2]
  try simp only [Act.put, List.setIfInBounds_toArray, List.set]
  refine PhaseIn.takeD (i := 18) (v := ?_) [18, 19, 20, 21, 22, 23, 24] 55 rfl (by rfl) (by kernel_rfl) (by kernel_rfl) (by kernel_rfl) (by kernel_rfl) (by kernel_rfl) (fun _ _ _ h => h) (Or.inl ⟨by kernel_rfl, ?_⟩) hHeld ?_
  rotate_left
  · intro w' hSw
    (try dsimp only at hSw)
    go_simp
    first | done | with_reducible rfl | (simp only [wr1, wr2]; done) | simp [wr1, wr2]
  try simp only [Act.put, List.setIfInBounds_toArray, List.set]
  refine PhaseIn.takeD (i := 19) (v := ?_) [19, 20, 21, 22, 23, 24] 56 rfl (by rfl) (by kernel_rfl) (by kernel_rfl) (by kernel_rfl) (by kernel_rfl) (by kernel_rfl) (fun _ _ _ h => h) (Or.inl ⟨by kernel_rfl, ?_⟩) hHeld ?_
  rotate_left
  · intro w' hSw
    (try dsimp only at hSw)
    go_simp
    first | done | with_reducible rfl | (simp only [wr1, wr2]; done) | simp [wr1, wr2]
  try simp only [Act.put, List.setIfInBounds_toArray, List.set]
  refine PhaseIn.takeD (i := 20) (v := ?_) [20, 21, 22, 23, 24] 57 rfl (by rfl) (by kernel_rfl) (by kernel_rfl) (by kernel_rfl) (by kernel_rfl) (by kernel_rfl) (fun _ _ _ h => h) (Or.inl ⟨by kernel_rfl, ?_⟩) hHeld ?_
  rotate_left
  · intro w' hSw
    (try dsimp only at hSw)
    go_simp
    first | done | with_reducible rfl | (simp only [wr1, wr2]; done) | simp [wr1, wr2]
  try simp only [Act.put, List.setIfInBounds_toArray, List.set]
  refine PhaseIn.takeD (i := 21) (v := ?_) [21, 22, 23, 24] 58 rfl (by rfl) (by kernel_rfl) (by kernel_rfl) (by kernel_rfl) (by kernel_rfl) (by kernel_rfl) (fun _ _ _ h => h) (Or.inl ⟨by kernel_rfl, ?_⟩) hHeld ?_
  rotate_left
  · intro w' hSw
    (try dsimp only at hSw)
    have z1 := hSw.1.cell 1 _ rfl
    go_simp
    first | done | with_reducible rfl | (simp only [wr1, wr2]; done) | simp [wr1, wr2]
  try simp only [Act.put, List.setIfInBounds_toArray, List.set]
  refine PhaseIn.takeD (i := 22) (v := .int .i64 (bp + ln)) [22, 23, 24] 59 rfl (by rfl) (by kernel_rfl) (by kernel_rfl) (by kernel_rfl) (by kernel_rfl) (by kernel_rfl) (fun _ _ _ h => h) (Or.inl ⟨by kernel_rfl, ?_⟩) hHeld ?_
  · intro w' hSw
    (try dsimp only at hSw)
    go_simp
    first | done | with_reducible rfl | (simp only [wr1, wr2]; done) | simp [wr1, wr2]
  try simp only [Act.put, List.setIfInBounds_toArray, List.set]
  refine PhaseIn.takeD (i := 23) (v := .bool true) [23, 24] 60 rfl (by rfl) (by kernel_rfl) (by kernel_rfl) (by kernel_rfl) (by kernel_rfl) (by kernel_rfl) (fun _ _ _ h => h) (Or.inl ⟨by kernel_rfl, ?_⟩) hHeld ?_
  · intro w' hSw
    (try dsimp only at hSw)
    go_simp
    first | done | with_reducible rfl | (simp only [wr1, wr2]; done) | simp [wr1, wr2]
  try simp only [Act.put, List.setIfInBounds_toArray, List.set]
  refine PhaseIn.takeD (i := 24) (v := .bool true) [24] 61 rfl (by rfl) (by kernel_rfl) (by kernel_rfl) (by kernel_rfl) (by kernel_rfl) (by kernel_rfl) (fun _ _ _ h => h) (Or.inl ⟨by kernel_rfl, ?_⟩) hHeld ?_
  · intro w' hSw
    (try dsimp only at hSw)
    go_simp
    first | done | with_reducible rfl | (simp only [wr1, wr2]; done) | simp [wr1, wr2]
  try simp only [Act.put, List.setIfInBounds_toArray, List.set]
  refine PhaseIn.done (by kernel_rfl) ?_ _
  clear hHeld
  go_wp2_with fail
  refine (wpIn_wide (n := 0)).1 ?_
  have D1 : Below v2.heap.size v2 v2.drew := (Below.refl _ _).drew
  replace BN := hide (BN.out.trans (D1.mono HN.out.lu))
  replace HN := hide (HN.out.below D1)
  replace RN := hide (RN.out.below D1)
  clear D1
  refine PhaseIn.region (S := fun D => Rec u.heap.size [.int .i64 5, .int .i64 (i : Int), .int .i64 (j : Int), .int .i64 k_, .int .i64 t_] D) 6 (by kernel_rfl) ?_
  generalize v2.drew = v3 at HN BN RN ⊢
  have hHeld : Rec u.heap.size [.int .i64 5, .int .i64 (i : Int), .int .i64 (j : Int), .int .i64 k_, .int .i64 t_] v3 := RN.out
  refine PhaseIn.takeD (i := 0) (v := ?_) [0, 1, 2, 3, 5] 62 rfl (by rfl) (by kernel_rfl) (by kernel_rfl) (by kernel_rfl) (by kernel_rfl) (by kernel_rfl) (fun _ _ _ h => h) (Or.inl ⟨by kernel_rfl, ?_⟩) hHeld ?_
  rotate_left
  · intro w' hSw
    (try dsimp only at hSw)
    go_simp
    first | done | with_reducible rfl
  try simp only [Act.put, List.setIfInBounds_toArray, List.set]
  refine PhaseIn.takeD (i := 1) (v := ?_) [1, 2, 3, 5] 63 rfl (by rfl) (by kernel_rfl) (by kernel_rfl) (by kernel_rfl) (by kernel_rfl) (by kernel_rfl) (fun _ _ _ h => h) (Or.inl ⟨by kernel_rfl, ?_⟩) hHeld ?_
  rotate_left
  · intro w' hSw
    (try dsimp only at hSw)
    have z4 := hSw.cell 4 _ rfl
    go_simp
    first | done | with_reducible rfl
  try simp only [Act.put, List.setIfInBounds_toArray, List.set]
  refine PhaseIn.takeD (i := 2) (v := ?_) [2, 3, 5] 64 rfl (by rfl) (by kernel_rfl) (by kernel_rfl) (by kernel_rfl) (by kernel_rfl) (by kernel_rfl) (fun _ _ _ h => h) (Or.inl ⟨by kernel_rfl, ?_⟩) hHeld ?_
  rotate_left
  · intro w' hSw
    (try dsimp only at hSw)
    go_simp
    first | done | with_reducible rfl
  try simp only [Act.put, List.setIfInBounds_toArray, List.set]
  refine PhaseIn.takeD (i := 3) (v := ?_) [3, 5] 65 rfl (by rfl) (by kernel_rfl) (by kernel_rfl) (by kernel_rfl) (by kernel_rfl) (by kernel_rfl) (fun _ _ _ h => h) (Or.inl ⟨by kernel_rfl, ?_⟩) hHeld ?_
  rotate_left
  · intro w' hSw
    (try dsimp only at hSw)
    go_simp
    first | done | with_reducible rfl
  try simp only [Act.put, List.setIfInBounds_toArray, List.set]
  refine PhaseIn.takeD (i := 4) (v := ?_) [4, 5] 4 rfl (by rfl) (by kernel_rfl) (by kernel_rfl) (by kernel_rfl) (by kernel_rfl) (by kernel_rfl) (fun _ _ _ h => h) (Or.inl ⟨by kernel_rfl, ?_⟩) hHeld ?_
  rotate_left
  · intro w' hSw
    (try dsimp only at hSw)
    go_simp
    first | done | with_reducible rfl
  try simp only [Act.put, List.setIfInBounds_toArray, List.set]
  refine PhaseIn.takeD (i := 5) (v := ?_) [5] 5 rfl (by rfl) (by kernel_rfl) (by kernel_rfl) (by kernel_rfl) (by kernel_rfl) (by kernel_rfl) (fun _ _ _ h => h) (Or.inl ⟨by kernel_rfl, ?_⟩) hHeld ?_
  rotate_left
  · intro w' hSw
    (try dsimp only at hSw)
    go_simp
    first | done | with_reducible rfl
  try simp only [Act.put, List.setIfInBounds_toArray, List.set]
  refine PhaseIn.done (by kernel_rfl) ?_ _
  clear hHeld
  go_wp2
  exact bodyPost_ret (v := .tuple #[.int .i64 (0), .iface 82 (.agg #[.int .i64 t_])]) (by simp [results, Tryz.results104, go_sem]) rfl ⟨rfl, ⟨_, HN.out⟩, BN.out⟩
set_option maxRecDepth 8000 in
set_option maxHeartbeats 8000000 in
theorem do_store_in (lo P Z cap : Nat) (b : Bk) (q : Option Addr) (wv : Value) (c : List Value) (m : M) (vs : List Int) (u : World) (h : Psg u lo P Z b q cap wv c m vs) (k_ t_ : Int) (i j a : Nat) (y : Int) (hx : vs[i]? = some (a : Int)) (hy : vs[j]? = some y) (hq : (a : Int) < 64) (ha : a < m.mem.length) (t0 : 0 ≤ t_) (t7 : t_ ≤ 7) (p0 : 0 ≤ b.pc) (p1 : b.pc ≤ 64) (l0 : 0 ≤ b.ln) (l1 : b.ln ≤ 8) (hc : b.pc + t_ < (a : Int)) (hd : ¬ (a : Int) < b.pc + b.ln) :
    Calls Tryz.prog 104 #[.agg #[.int .i64 5, .int .i64 (i : Int), .int .i64 (j : Int), .int .i64 k_, .int .i64 t_], .pointer (some ⟨P, 0, none⟩)] u (DoR lo P Z b q cap wv vs { m with mem := m.mem.set a y } (0) (.nilIface) u) := by
  have bX := alloc_below u (.cells #[.int .i64 5, .int .i64 (i : Int), .int .i64 (j : Int), .int .i64 k_, .int .i64 t_] 113)
  have H := hide (h.below bX)
  have R := hide (Rec.new u [.int .i64 5, .int .i64 (i : Int), .int .i64 (j : Int), .int .i64 k_, .int .i64 t_] 113)
  have BX := hide (bX.mono h.lu)
  have hP : P < u.heap.size := h.p.lt
  clear bX
  obtain ⟨b1, o1, k1, b2, o2, k2, b3, o3, k3, b4, k4, rfl⟩ := forms h.mach
  obtain ⟨regs, pc, mem, save, lets, waits, halt, ins, outs, count⟩ := m
  simp only [mv] at *
  obtain ⟨bp, ln, ops, en, bx, by_, bk⟩ := b
  simp only [] at p0 p1 l0 l1 hc hd H
  obtain ⟨g, cp, rfl, cy⟩ := H.out.word hy
  have lj : j < vs.length := (List.getElem?_eq_some_iff.1 hy).1
  have lj' : ((j : Nat) : Int) < (vs.length : Int) := by omega
  have la' : ((a : Nat) : Int) < (mem.length : Int) := by omega
  obtain ⟨z, ez⟩ : ∃ z, mem[a]? = some z := ⟨_, List.getElem?_eq_getElem ha⟩
  obtain ⟨cd, fd⟩ := row_at (CMach.parts (m := ⟨regs, pc, mem, save, lets, waits, halt, ins, outs, count⟩) H.out.mach).2.1 ez
  have B2 : Hid (b2 < u.heap.size) := (CMach.parts (m := ⟨regs, pc, mem, save, lets, waits, halt, ins, outs, count⟩) h.mach).2.2.2.2.2.2.2.1.lt
  clear h ez hy
  go_enter Tryz.func104, Tryz.ntmps104
  have w1 := R.out.cell 1 _ rfl
  have w4 := R.out.cell 4 _ rfl
  go_wp2_with fail
  refine (address_yes _ _ _ _ _ _ _ _ _ _ _ H.out i (a : Int) t_ hx hq).mono ?_
  rintro e u1 ⟨rfl, rfl⟩
  clear w1 w4
  go_wp2_with fail
  generalize (u.alloc (.cells #[.int .i64 5, .int .i64 (i : Int), .int .i64 (j : Int), .int .i64 k_, .int .i64 t_] 113)) = v at H R BX cd fd cy ⊢
  have p7 := H.out.p.cell 7 _ rfl
  have p8 := H.out.p.cell 8 _ rfl
  have z2 := H.out.z.cell 2 _ rfl
  have w2 := R.out.cell 2 _ rfl
  have D : Below v.heap.size v v.drew := (Below.refl _ _).drew
  refine region_tail 16 (by kernel_rfl) (by kernel_rfl) ?_
  simp only [List.take_succ_cons, List.take_zero, List.drop_succ_cons, List.drop_zero]
  repeat still_step
  refine wpStill_nil ?_
  have HD := H.out.below D
  have RT := IsT
  clear RT
  have tn : Turn b2 v.drew (v.drew.setCell ⟨b2, o2 + a, none⟩ (.int .i64 y)) := (Turn.refl b2 v.drew).setCell (p := ⟨b2, o2 + a, none⟩) rfl (.int .i64 y)
  have fm : b2 ∈ mb [.slice (some ⟨b1, o1, none⟩) regs.length k1, .int .i64 pc, .slice (some ⟨b2, o2, none⟩) mem.length k2, .int .i64 save, .bool lets, .bool waits, .int .i64 halt, .slice (some ⟨b3, o3, none⟩) ins.length k3, .slice (some ⟨b4, 0, none⟩) outs.length k4, .int .i64 count] := show b2 ∈ [b1, b2, b3, b4] by simp
  have ub : u.heap.size ≠ b2 := Ne.symm (Nat.ne_of_lt B2.out)
  have HN := hide (HD.turn tn fm (CMach.setMem (m := ⟨regs, pc, mem, save, lets, waits, halt, ins, outs, count⟩) HD.mach a y ha))
  have BN := hide ((BX.out.trans (D.mono (Nat.le_trans HD.lu (by simp)))).trans (HD.turn_below tn fm))
  have RN := hide ((R.out.below D).turn tn ub)
  clear HD tn fm H BX D R ub
  go_wp2_with fail
  have e1 : v.drew.setCell ⟨b2, o2 + a, none⟩ (.int .i64 y) = (v.setCell ⟨b2, o2 + a, none⟩ (.int .i64 y)).drew := rfl
  rw [e1] at HN BN RN
  clear e1
  generalize (v.setCell ⟨b2, o2 + a, none⟩ (.int .i64 y)).drew = v1 at HN BN RN ⊢
  refine (wpIn_wide (n := 0)).1 ?_
  have D1 : Below v1.heap.size v1 v1.drew := (Below.refl _ _).drew
  replace BN := hide (BN.out.trans (D1.mono HN.out.lu))
  replace HN := hide (HN.out.below D1)
  replace RN := hide (RN.out.below D1)
  clear D1 cd fd cy p7 p8 z2 w2
  refine PhaseIn.region (S := fun D => Rec P [.int .i64 bp, .int .i64 ln, .slice q ops.length cap, .int .i64 en, .int .i64 bx, .int .i64 by_, .int .i64 bk, .pointer (some ⟨Z, 0, none⟩), .slice (some ⟨g, 0, none⟩) vs.length cp] D ∧ Rec u.heap.size [.int .i64 5, .int .i64 (i : Int), .int .i64 (j : Int), .int .i64 k_, .int .i64 t_] D ∧ True) 25 (by kernel_rfl) ?_
  generalize v1.drew = v2 at HN BN RN ⊢
  have hHeld : Rec P [.int .i64 bp, .int .i64 ln, .slice q ops.length cap, .int .i64 en, .int .i64 bx, .int .i64 by_, .int .i64 bk, .pointer (some ⟨Z, 0, none⟩), .slice (some ⟨g, 0, none⟩) vs.length cp] v2 ∧ Rec u.heap.size [.int .i64 5, .int .i64 (i : Int), .int .i64 (j : Int), .int .i64 k_, .int .i64 t_] v2 ∧ True := ⟨HN.out.p, RN.out, trivial⟩
  have wr1 : IntKind.i64.wrap (bp + t_) = bp + t_ := IntWalk.i64_in _ ⟨by omega, by omega⟩
  have wr2 : IntKind.i64.wrap (bp + ln) = bp + ln := IntWalk.i64_in _ ⟨by omega, by omega⟩
  refine PhaseIn.takeD (i := 0) (v := ?_) [0, 1, 2, 3, 4, 7, 9, 10, 11, 12, 13, 14, 15, 16, 17, 18, 19, 20, 21, 22, 23, 24] 37 rfl (by rfl) (by kernel_rfl) (by kernel_rfl) (by kernel_rfl) (by kernel_rfl) (by kernel_rfl) (fun _ _ _ h => h) (Or.inl ⟨by kernel_rfl, ?_⟩) hHeld ?_
  rotate_left
  · intro w' hSw
    (try dsimp only at hSw)
    go_simp
    first | done | with_reducible rfl | (simp only [wr1, wr2]; done) | simp [wr1, wr2]
  try simp only [Act.put, List.setIfInBounds_toArray, List.set]
  refine PhaseIn.takeD (i := 1) (v := ?_) [1, 2, 3, 4, 7, 9, 10, 11, 12, 13, 14, 15, 16, 17, 18, 19, 20, 21, 22, 23, 24] 38 rfl (by rfl) (by kernel_rfl) (by kernel_rfl) (by kernel_rfl) (by kernel_rfl) (by kernel_rfl) (fun _ _ _ h => h) (Or.inl ⟨by kernel_rfl, ?_⟩) hHeld ?_
  rotate_left
  · intro w' hSw
    (try dsimp only at hSw)
    go_simp
    first | done | with_reducible rfl | (simp only [wr1, wr2]; done) | simp [wr1, wr2]
  try simp only [Act.put, List.setIfInBounds_toArray, List.set]
  refine PhaseIn.takeD (i := 2) (v := ?_) [2, 3, 4, 7, 9, 10, 11, 12, 13, 14, 15, 16, 17, 18, 19, 20, 21, 22, 23, 24] 39 rfl (by rfl) (by kernel_rfl) (by kernel_rfl) (by kernel_rfl) (by kernel_rfl) (by kernel_rfl) (fun _ _ _ h => h) (Or.inl ⟨by kernel_rfl, ?_⟩) hHeld ?_
  rotate_left
  · intro w' hSw
    (try dsimp only at hSw)
    go_simp
    first | done | with_reducible rfl | (simp only [wr1, wr2]; done) | simp [wr1, wr2]
  try simp only [Act.put, List.setIfInBounds_toArray, List.set]
  refine PhaseIn.takeD (i := 3) (v := ?_) [3, 4, 7, 9, 10, 11, 12, 13, 14, 15, 16, 17, 18, 19, 20, 21, 22, 23, 24] 40 rfl (by rfl) (by kernel_rfl) (by kernel_rfl) (by kernel_rfl) (by kernel_rfl) (by kernel_rfl) (fun _ _ _ h => h) (Or.inl ⟨by kernel_rfl, ?_⟩) hHeld ?_
  rotate_left
  · intro w' hSw
    (try dsimp only at hSw)
    go_simp
    first | done | with_reducible rfl | (simp only [wr1, wr2]; done) | simp [wr1, wr2]
  try simp only [Act.put, List.setIfInBounds_toArray, List.set]
  refine PhaseIn.takeD (i := 4) (v := ?_) [4, 7, 9, 10, 11, 12, 13, 14, 15, 16, 17, 18, 19, 20, 21, 22, 23, 24] 41 rfl (by rfl) (by kernel_rfl) (by kernel_rfl) (by kernel_rfl) (by kernel_rfl) (by kernel_rfl) (fun _ _ _ h => h) (Or.inl ⟨by kernel_rfl, ?_⟩) hHeld ?_
  rotate_left
  · intro w' hSw
    (try dsimp only at hSw)
    have z0 := hSw.1.cell 0 _ rfl
    go_simp
    first | done | with_reducible rfl | (simp only [wr1, wr2]; done) | simp [wr1, wr2]
  try simp only [Act.put, List.setIfInBounds_toArray, List.set]
  refine PhaseIn.takeD (i := 5) (v := ?_) [5, 6, 7, 9, 10, 11, 12, 13, 14, 15, 16, 17, 18, 19, 20, 21, 22, 23, 24] 42 rfl (by rfl) (by kernel_rfl) (by kernel_rfl) (by kernel_rfl) (by kernel_rfl) (by kernel_rfl) (fun _ _ _ h => h) (Or.inl ⟨by kernel_rfl, ?_⟩) hHeld ?_
  rotate_left
  · intro w' hSw
    (try dsimp only at hSw)
    go_simp
    first | done | with_reducible rfl | (simp only [wr1, wr2]; done) | simp [wr1, wr2]
  try simp only [Act.put, List.setIfInBounds_toArray, List.set]
  refine PhaseIn.takeD (i := 6) (v := ?_) [6, 7, 9, 10, 11, 12, 13, 14, 15, 16, 17, 18, 19, 20, 21, 22, 23, 24] 43 rfl (by rfl) (by kernel_rfl) (by kernel_rfl) (by kernel_rfl) (by kernel_rfl) (by kernel_rfl) (fun _ _ _ h => h) (Or.inl ⟨by kernel_rfl, ?_⟩) hHeld ?_
  rotate_left
  · intro w' hSw
    (try dsimp only at hSw)
    have z4 := hSw.2.1.cell 4 _ rfl
    go_simp
    first | done | with_reducible rfl | (simp only [wr1, wr2]; done) | simp [wr1, wr2]
  try simp only [Act.put, List.setIfInBounds_toArray, List.set]
  refine PhaseIn.takeD (i := 7) (v := .int .i64 (bp + t_)) [7, 9, 10, 11, 12, 13, 14, 15, 16, 17, 18, 19, 20, 21, 22, 23, 24] 44 rfl (by rfl) (by kernel_rfl) (by kernel_rfl) (by kernel_rfl) (by kernel_rfl) (by kernel_rfl) (fun _ _ _ h => h) (Or.inl ⟨by kernel_rfl, ?_⟩) hHeld ?_
  · intro w' hSw
    (try dsimp only at hSw)
    go_simp
    first | done | with_reducible rfl | (simp only [wr1, wr2]; done) | simp [wr1, wr2]
  try simp only [Act.put, List.setIfInBounds_toArray, List.set]
  refine PhaseIn.takeD (i := 8) (v := ?_) [8, 9, 10, 11, 12, 13, 14, 15, 16, 17, 18, 19, 20, 21, 22, 23, 24] 45 rfl (by rfl) (by kernel_rfl) (by kernel_rfl) (by kernel_rfl) (by kernel_rfl) (by kernel_rfl) (fun _ _ _ h => h) (Or.inl ⟨by kernel_rfl, ?_⟩) hHeld ?_
  rotate_left
  · intro w' hSw
    (try dsimp only at hSw)
    go_simp
    first | done | with_reducible rfl | (simp only [wr1, wr2]; done) | simp [wr1, wr2]
  try simp only [Act.put, List.setIfInBounds_toArray, List.set]
  refine PhaseIn.takeD (i := 9) (v := .bool true) [9, 10, 11, 12, 13, 14, 15, 16, 17, 18, 19, 20, 21, 22, 23, 24] 46 rfl (by rfl) (by kernel_rfl) (by kernel_rfl) (by kernel_rfl) (by kernel_rfl) (by kernel_rfl) (fun _ _ _ h => h) (Or.inl ⟨by kernel_rfl, ?_⟩) hHeld ?_
  · intro w' hSw
    (try dsimp only at hSw)
    go_simp
    first | done | with_reducible rfl | (simp only [wr1, wr2]; done) | simp [wr1, wr2]
  try simp only [Act.put, List.setIfInBounds_toArray, List.set]
  refine PhaseIn.takeD (i := 10) (v := .bool true) [10, 11, 12, 13, 14, 15, 16, 17, 18, 19, 20, 21, 22, 23, 24] 47 rfl (by rfl) (by kernel_rfl) (by kernel_rfl) (by kernel_rfl) (by kernel_rfl) (by kernel_rfl) (fun _ _ _ h => h) (Or.inl ⟨by kernel_rfl, ?_⟩) hHeld ?_
  · intro w' hSw
    (try dsimp only at hSw)
    go_simp
    first | done | with_reducible rfl | (simp only [wr1, wr2]; done) | simp [wr1, wr2]
  try simp only [Act.put, List.setIfInBounds_toArray, List.set]
  refine PhaseIn.takeD (i := 11) (v := ?_) [11, 23, 24] 48 rfl (by rfl) (by kernel_rfl) (by kernel_rfl) (by kernel_rfl) (by kernel_rfl) (by kernel_rfl) (fun _ _ _ h => h) (Or.inl ⟨by kernel_rfl, ?_⟩) hHeld ?_
  rotate_left
  · intro w' hSw
    (try dsimp only at hSw)
    go_simp
    first | done | with_reducible rfl | (simp only [wr1, wr2]; done) | simp [wr1, wr2]
  try simp only [Act.put, List.setIfInBounds_toArray, List.set]
  refine PhaseIn.takeD (i := 12) (v := ?_) [12, 13, 14, 15, 16, 22, 23, 24] 49 rfl (by rfl) (by kernel_rfl) (by kernel_rfl) (by kernel_rfl) (by kernel_rfl) (by kernel_rfl) (fun _ _ _ h => h) (Or.inl ⟨by kernel_rfl, ?_⟩) hHeld ?_
  rotate_left
  · intro w' hSw
    (try dsimp only at hSw)
    go_simp
    first | done | with_reducible rfl | (simp only [wr1, wr2]; done) | simp [wr1, wr2]
  try simp only [Act.put, List.setIfInBounds_toArray, List.set]
  refine PhaseIn.takeD (i := 13) (v := ?_) [13, 14, 15, 16, 22, 23, 24] 50 rfl (by rfl) (by kernel_rfl) (by kernel_rfl) (by kernel_rfl) (by kernel_rfl) (by kernel_rfl) (fun _ _ _ h => h) (Or.inl ⟨by kernel_rfl, ?_⟩) hHeld ?_
  rotate_left
  · intro w' hSw
    (try dsimp only at hSw)
    go_simp
    first | done | with_reducible rfl | (simp only [wr1, wr2]; done) | simp [wr1, wr2]
  try simp only [Act.put, List.setIfInBounds_toArray, List.set]
  refine PhaseIn.takeD (i := 14) (v := ?_) [14, 15, 16, 22, 23, 24] 51 rfl (by rfl) (by kernel_rfl) (by kernel_rfl) (by kernel_rfl) (by kernel_rfl) (by kernel_rfl) (fun _ _ _ h => h) (Or.inl ⟨by kernel_rfl, ?_⟩) hHeld ?_
  rotate_left
  · intro w' hSw
    (try dsimp only at hSw)
    go_simp
    first | done | with_reducible rfl | (simp only [wr1, wr2]; done) | simp [wr1, wr2]
  try simp only [Act.put, List.setIfInBounds_toArray, List.set]
  refine PhaseIn.takeD (i := 15) (v := ?_) [15, 16, 22, 23, 24] 52 rfl (by rfl) (by kernel_rfl) (by kernel_rfl) (by kernel_rfl) (by kernel_rfl) (by kernel_rfl) (fun _ _ _ h => h) (Or.inl ⟨by kernel_rfl, ?_⟩) hHeld ?_
  rotate_left
  · intro w' hSw
    (try dsimp only at hSw)
    go_simp
    first | done | with_reducible rfl | (simp only [wr1, wr2]; done) | simp [wr1, wr2]
  try simp only [Act.put, List.setIfInBounds_toArray, List.set]
  refine PhaseIn.takeD (i := 16) (v := ?_) [16, 22, 23, 24] 53 rfl (by rfl) (by kernel_rfl) (by kernel_rfl) (by kernel_rfl) (by kernel_rfl) (by kernel_rfl) (fun _ _ _ h => h) (Or.inl ⟨by kernel_rfl, ?_⟩) hHeld ?_
  rotate_left
  · intro w' hSw
    (try dsimp only at hSw)
    have z0 := hSw.1.cell 0 _ rfl
    go_simp
    first | done | with_reducible rfl | (simp only [wr1, wr2]; done) | simp [wr1, wr2]
  try simp only [Act.put, List.setIfInBounds_toArray, List.set]
  refine PhaseIn.takeD (i := 17) (v := ?_) [17, 18, 19, 20, 21, 22, 23, 24] 54 rfl (by rfl) (by kernel_rfl) (by kernel_rfl) (by kernel_rfl) (by kernel_rfl) (by kernel_rfl) (fun _ _ _ h => h) (Or.inl ⟨by kernel_rfl, ?_⟩) hHeld ?_
  rotate_left
  · intro w' hSw
    (try dsimp only at hSw)
    go_simp
    first | done | with_reducible rfl | (simp only [wr1, wr2]; done) | simp [wr1, wr2]
  try simp only [Act.put, List.setIfInBounds_toArray, List.set]
  refine PhaseIn.takeD (i := 18) (v := ?_) [18, 19, 20, 21, 22, 23, 24] 55 rfl (by rfl) (by kernel_rfl) (by kernel_rfl) (by kernel_rfl) (by kernel_rfl) (by kernel_rfl) (fun _ _ _ h => h) (Or.inl ⟨by kernel_rfl, ?_⟩) hHeld ?_
  rotate_left
  · intro w' hSw
    (try dsimp only at hSw)
    go_simp
    first | done | with_reducible rfl | (simp only [wr1, wr2]; done) | simp [wr1, wr2]
  try simp only [Act.put, List.setIfInBounds_toArray, List.set]
  refine PhaseIn.takeD (i := 19) (v := ?_) [19, 20, 21, 22, 23, 24] 56 rfl (by rfl) (by kernel_rfl) (by kernel_rfl) (by kernel_rfl) (by kernel_rfl) (by kernel_rfl) (fun _ _ _ h => h) (Or.inl ⟨by kernel_rfl, ?_⟩) hHeld ?_
  rotate_left
  · intro w' hSw
    (try dsimp only at hSw)
    go_simp
    first | done | with_reducible rfl | (simp only [wr1, wr2]; done) | simp [wr1, wr2]
  try simp only [Act.put, List.setIfInBounds_toArray, List.set]
  refine PhaseIn.takeD (i := 20) (v := ?_) [20, 21, 22, 23, 24] 57 rfl (by rfl) (by kernel_rfl) (by kernel_rfl) (by kernel_rfl) (by kernel_rfl) (by kernel_rfl) (fun _ _ _ h => h) (Or.inl ⟨by kernel_rfl, ?_⟩) hHeld ?_
  rotate_left
  · intro w' hSw
    (try dsimp only at hSw)
    go_simp
    first | done | with_reducible rfl | (simp only [wr1, wr2]; done) | simp [wr1, wr2]
  try simp only [Act.put, List.setIfInBounds_toArray, List.set]
  refine PhaseIn.takeD (i := 21) (v := ?_) [21, 22, 23, 24] 58 rfl (by rfl) (by kernel_rfl) (by kernel_rfl) (by kernel_rfl) (by kernel_rfl) (by kernel_rfl) (fun _ _ _ h => h) (Or.inl ⟨by kernel_rfl, ?_⟩) hHeld ?_
  rotate_left
  · intro w' hSw
    (try dsimp only at hSw)
    have z1 := hSw.1.cell 1 _ rfl
    go_simp
    first | done | with_reducible rfl | (simp only [wr1, wr2]; done) | simp [wr1, wr2]
  try simp only [Act.put, List.setIfInBounds_toArray, List.set]
  refine PhaseIn.takeD (i := 22) (v := .int .i64 (bp + ln)) [22, 23, 24] 59 rfl (by rfl) (by kernel_rfl) (by kernel_rfl) (by kernel_rfl) (by kernel_rfl) (by kernel_rfl) (fun _ _ _ h => h) (Or.inl ⟨by kernel_rfl, ?_⟩) hHeld ?_
  · intro w' hSw
    (try dsimp only at hSw)
    go_simp
    first | done | with_reducible rfl | (simp only [wr1, wr2]; done) | simp [wr1, wr2]
  try simp only [Act.put, List.setIfInBounds_toArray, List.set]
  refine PhaseIn.takeD (i := 23) (v := .bool false) [23, 24] 60 rfl (by rfl) (by kernel_rfl) (by kernel_rfl) (by kernel_rfl) (by kernel_rfl) (by kernel_rfl) (fun _ _ _ h => h) (Or.inl ⟨by kernel_rfl, ?_⟩) hHeld ?_
  · intro w' hSw
    (try dsimp only at hSw)
    go_simp
    first | done | with_reducible rfl | (simp only [wr1, wr2]; done) | simp [wr1, wr2]
  try simp only [Act.put, List.setIfInBounds_toArray, List.set]
  refine PhaseIn.takeD (i := 24) (v := .bool false) [24] 61 rfl (by rfl) (by kernel_rfl) (by kernel_rfl) (by kernel_rfl) (by kernel_rfl) (by kernel_rfl) (fun _ _ _ h => h) (Or.inl ⟨by kernel_rfl, ?_⟩) hHeld ?_
  · intro w' hSw
    (try dsimp only at hSw)
    go_simp
    first | done | with_reducible rfl | (simp only [wr1, wr2]; done) | simp [wr1, wr2]
  try simp only [Act.put, List.setIfInBounds_toArray, List.set]
  refine PhaseIn.done (by kernel_rfl) ?_ _
  clear hHeld
  go_wp2
  exact bodyPost_ret (v := .tuple #[.int .i64 (0), .nilIface]) (by simp [results, Tryz.results104, go_sem]) rfl ⟨rfl, ⟨_, HN.out⟩, BN.out⟩
theorem in_none (Z k3 : Nat) (q : Option Addr) (w : World) (z7 : w.cell? ⟨Z, 7, none⟩ = some (.slice q 0 k3)) :
    Calls Tryz.prog 106 #[.pointer (some ⟨Z, 0, none⟩)] w fun e w' => e = .returned (.int .i64 0) ∧ w' = w := by
  go_enter Tryz.func106, Tryz.ntmps106
  go_wp2
  go_ret
  exact ⟨rfl, rfl⟩
theorem in_one (Z b3 o3 : Nat) (x : Int) (w : World) (z7 : w.cell? ⟨Z, 7, none⟩ = some (.slice (some ⟨b3, o3, none⟩) 1 1)) (y7 : w.frozen? ⟨Z, 7, none⟩ = false) (cx : w.cell? ⟨b3, o3, none⟩ = some (.int .i64 x)) :
    Calls Tryz.prog 106 #[.pointer (some ⟨Z, 0, none⟩)] w fun e w' => e = .returned (.int .i64 x) ∧ w' = w.setCell ⟨Z, 7, none⟩ (.slice (some ⟨b3, o3, none⟩) 0 0) := by
  go_enter Tryz.func106, Tryz.ntmps106
  go_wp2
  go_ret
  exact ⟨rfl, rfl⟩

theorem in_more (Z b3 o3 n k3 : Nat) (x : Int) (w : World) (z7 : w.cell? ⟨Z, 7, none⟩ = some (.slice (some ⟨b3, o3, none⟩) (n + 1) k3)) (y7 : w.frozen? ⟨Z, 7, none⟩ = false) (cx : w.cell? ⟨b3, o3, none⟩ = some (.int .i64 x)) (h1 : n + 1 ≤ k3) (h2 : k3 ≤ 9223372036854775807) (h3 : k3 ≠ 1) :
    Calls Tryz.prog 106 #[.pointer (some ⟨Z, 0, none⟩)] w fun e w' => e = .returned (.int .i64 x) ∧ w' = w.setCell ⟨Z, 7, none⟩ (.slice (some ⟨b3, o3 + 1, none⟩) n (k3 - 1)) := by
  go_enter Tryz.func106, Tryz.ntmps106
  go_wp2
  go_ret
  exact ⟨rfl, rfl⟩

set_option maxRecDepth 8000 in
set_option maxHeartbeats 8000000 in
theorem do_in_none (lo P Z cap : Nat) (b : Bk) (q : Option Addr) (wv : Value) (c : List Value) (m : M) (vs : List Int) (u : World) (h : Psg u lo P Z b q cap wv c m vs) (x_ y_ k_ t_ : Int) (he : m.ins = []) :
    Calls Tryz.prog 105 #[.agg #[.int .i64 6, .int .i64 x_, .int .i64 y_, .int .i64 k_, .int .i64 t_], .pointer (some ⟨P, 0, none⟩)] u (DoR lo P Z b q cap wv vs m (0) (.nilIface) u) := by
  have bX := alloc_below u (.cells #[.int .i64 6, .int .i64 x_, .int .i64 y_, .int .i64 k_, .int .i64 t_] 114)
  have H := hide (h.below bX)
  have R := hide (Rec.new u [.int .i64 6, .int .i64 x_, .int .i64 y_, .int .i64 k_, .int .i64 t_] 114)
  have BX := hide (bX.mono h.lu)
  have hP : P < u.heap.size := h.p.lt
  clear bX
  obtain ⟨b1, o1, k1, b2, o2, k2, b3, o3, k3, b4, k4, rfl⟩ := forms h.mach
  obtain ⟨regs, pc, mem, save, lets, waits, halt, ins, outs, count⟩ := m
  simp only [mv] at *
  try simp only [] at he
  subst he
  clear h R
  go_enter Tryz.func105, Tryz.ntmps105
  have p7 := H.out.p.cell 7 _ rfl
  go_wp2_with fail
  refine (in_none Z k3 _ _ (H.out.z.cell 7 _ rfl)).mono ?_
  rintro e u1 ⟨rfl, rfl⟩
  go_wp2
  exact bodyPost_ret (v := .tuple #[.int .i64 (0), .nilIface]) (by simp [results, Tryz.results105, go_sem]) rfl ⟨rfl, ⟨_, H.out⟩, BX.out⟩
set_option maxRecDepth 8000 in
set_option maxHeartbeats 8000000 in
theorem do_in_more (lo P Z cap : Nat) (b : Bk) (q : Option Addr) (wv : Value) (c : List Value) (m : M) (vs : List Int) (u : World) (h : Psg u lo P Z b q cap wv c m vs) (x_ y_ k_ t_ : Int) (x : Int) (r : List Int) (he : m.ins = x :: r) :
    Calls Tryz.prog 105 #[.agg #[.int .i64 6, .int .i64 x_, .int .i64 y_, .int .i64 k_, .int .i64 t_], .pointer (some ⟨P, 0, none⟩)] u (DoR lo P Z b q cap wv vs { m with ins := r } (x) (.nilIface) u) := by
  have bX := alloc_below u (.cells #[.int .i64 6, .int .i64 x_, .int .i64 y_, .int .i64 k_, .int .i64 t_] 114)
  have H := hide (h.below bX)
  have R := hide (Rec.new u [.int .i64 6, .int .i64 x_, .int .i64 y_, .int .i64 k_, .int .i64 t_] 114)
  have BX := hide (bX.mono h.lu)
  have hP : P < u.heap.size := h.p.lt
  clear bX
  obtain ⟨b1, o1, k1, b2, o2, k2, b3, o3, k3, b4, k4, rfl⟩ := forms h.mach
  obtain ⟨regs, pc, mem, save, lets, waits, halt, ins, outs, count⟩ := m
  simp only [mv] at *
  try simp only [] at he
  subst he
  obtain ⟨q31, q32⟩ := ins_capI (m := ⟨regs, pc, mem, save, lets, waits, halt, x :: r, outs, count⟩) h.mach
  simp only [List.length_cons] at q31
  unfold maxLen at q32
  have HZ := H.out
  obtain ⟨ci, _⟩ := row_at (CMach.parts (m := ⟨regs, pc, mem, save, lets, waits, halt, x :: r, outs, count⟩) HZ.mach).2.2.1 (show (x :: r)[0]? = some x from rfl)
  rw [Nat.add_zero o3] at ci
  have z7 := HZ.z.cell 7 _ rfl
  have s7 := HZ.z.soft 7
  clear h R
  by_cases hk : k3 = 1
  · subst hk
    have hr : r = [] := List.length_eq_zero_iff.1 (by omega)
    subst hr
    have CP := CMach.popI (o3' := o3) (k3' := 0) HZ.mach (Or.inl rfl) (by simp) (by unfold maxLen; omega)
    have hB := (Box.mk HZ.z HZ.zt).set 7 (.slice (some ⟨b3, o3, none⟩) 0 0) (by simp) rfl
    have F := HZ.far (Ints.self _ _) (Onl.self _ _) CP (fun j hj => Or.inl hj) ((Turn.refl Z _).setCell (p := ⟨Z, 7, none⟩) rfl (.slice (some ⟨b3, o3, none⟩) 0 0)) hB
    have HF := hide F.1
    have BF := hide (BX.out.trans F.2)
    clear CP hB F HZ
    go_enter Tryz.func105, Tryz.ntmps105
    have p7 := H.out.p.cell 7 _ rfl
    go_wp2_with fail
    refine (in_one Z b3 o3 x _ z7 s7 ci).mono ?_
    rintro e u1 ⟨rfl, rfl⟩
    go_wp2
    exact bodyPost_ret (v := .tuple #[.int .i64 (x), .nilIface]) (by simp [results, Tryz.results105, go_sem]) rfl ⟨rfl, ⟨_, HF.out⟩, BF.out⟩
  · have CP := CMach.popI (o3' := o3 + 1) (k3' := k3 - 1) HZ.mach (Or.inr rfl) (by omega) (by unfold maxLen; omega)
    have hB := (Box.mk HZ.z HZ.zt).set 7 (.slice (some ⟨b3, o3 + 1, none⟩) r.length (k3 - 1)) (by simp) rfl
    have F := HZ.far (Ints.self _ _) (Onl.self _ _) CP (fun j hj => Or.inl hj) ((Turn.refl Z _).setCell (p := ⟨Z, 7, none⟩) rfl (.slice (some ⟨b3, o3 + 1, none⟩) r.length (k3 - 1))) hB
    have HF := hide F.1
    have BF := hide (BX.out.trans F.2)
    clear CP hB F HZ
    go_enter Tryz.func105, Tryz.ntmps105
    have p7 := H.out.p.cell 7 _ rfl
    go_wp2_with fail
    refine (in_more Z b3 o3 r.length k3 x _ z7 s7 ci q31 (by omega) (by omega)).mono ?_
    rintro e u1 ⟨rfl, rfl⟩
    go_wp2
    exact bodyPost_ret (v := .tuple #[.int .i64 (x), .nilIface]) (by simp [results, Tryz.results105, go_sem]) rfl ⟨rfl, ⟨_, HF.out⟩, BF.out⟩
end Go.Proofs.YtaokopipgolmbaaGreatDoor.Ir
namespace Go.Proofs.YtaokopipgolmbaaGreatDoor.Ir
set_option linter.unusedVariables false
set_option linter.unusedSimpArgs false
open Go.ChangeShapes Go.WideShapes Go.ChangeAt Go.RowKit IntS Mch

theorem run_pushI {w : World} {ty : TypeId} {lo cap : Nat} {q : Option Addr} {xs : List Int} (hown : Own w lo (.slice q xs.length cap) xs) (hn : xs.length ≤ 1000000000000) (hlo : lo ≤ w.heap.size) (ad : Addr) (y : Int)
    (c0 : w.cell? (ad.add 0) = some (.int .i64 y)) :
    ∃ g' cap' w', (Builtin.append_ #[25, 25] ty #[.slice q xs.length cap, .slice (some ad) 1 1]).run Tryz.prog w = .ok (.slice (some ⟨g', 0, none⟩) (xs.length + 1) cap') w' ∧ Own w' lo (.slice (some ⟨g', 0, none⟩) (xs.length + 1) cap') (xs ++ [y]) ∧ ((Value.slice q xs.length cap).ownBlock = some g' ∨ w.heap.size ≤ g') ∧ g' < w'.heap.size ∧ w.grownBy w' (Value.slice q xs.length cap).ownBlock := by
  obtain ⟨j, hi, hz, hsz, hby⟩ := info_int
  obtain ⟨g', cap', w', h1, h2, h3⟩ := Flat.run_flat (P := Tryz.prog) 25 ty 3 j _ 1 8 Tryz.underlying25 hi hz hsz hby rfl (by decide) (by decide) hown hn hlo ad [y] rfl (fun j x hx => by
    match j, hx with
    | 0, hx => cases hx; exact c0
    | j + 1, hx => simp at hx)
  refine ⟨g', cap', w', h1, ?_, h3⟩
  unfold Own
  rw [List.length_append]
  exact h2

set_option maxRecDepth 8000 in
set_option maxHeartbeats 8000000 in
theorem do_out (lo P Z cap : Nat) (b : Bk) (q : Option Addr) (wv : Value) (c : List Value) (m : M) (vs : List Int) (u : World) (h : Psg u lo P Z b q cap wv c m vs) (y_ k_ t_ : Int) (i : Nat) (x : Int) (hx : vs[i]? = some x) (ho : m.outs.length ≤ 1000000000) :
    Calls Tryz.prog 107 #[.agg #[.int .i64 7, .int .i64 (i : Int), .int .i64 y_, .int .i64 k_, .int .i64 t_], .pointer (some ⟨P, 0, none⟩)] u (DoR lo P Z b q cap wv vs { m with outs := m.outs ++ [x] } (0) (.nilIface) u) := by
  have bX := alloc_below u (.cells #[.int .i64 7, .int .i64 (i : Int), .int .i64 y_, .int .i64 k_, .int .i64 t_] 115)
  have H := hide (h.below bX)
  have R := hide (Rec.new u [.int .i64 7, .int .i64 (i : Int), .int .i64 y_, .int .i64 k_, .int .i64 t_] 115)
  have BX := hide (bX.mono h.lu)
  have hP : P < u.heap.size := h.p.lt
  clear bX
  obtain ⟨b1, o1, k1, b2, o2, k2, b3, o3, k3, b4, k4, rfl⟩ := forms h.mach
  obtain ⟨regs, pc, mem, save, lets, waits, halt, ins, outs, count⟩ := m
  simp only [mv] at *
  obtain ⟨g, cp, rfl, cx⟩ := H.out.word hx
  have li : i < vs.length := (List.getElem?_eq_some_iff.1 hx).1
  have li' : ((i : Nat) : Int) < (vs.length : Int) := by omega
  have B4 : Hid (b4 < u.heap.size) := (CMach.parts (m := ⟨regs, pc, mem, save, lets, waits, halt, ins, outs, count⟩) h.mach).2.2.2.2.2.2.2.2.2.lt
  have OL := hide ho
  clear h hx ho
  go_enter Tryz.func107, Tryz.ntmps107
  go_wp2_with fail
  generalize (u.alloc (.cells #[.int .i64 7, .int .i64 (i : Int), .int .i64 y_, .int .i64 k_, .int .i64 t_] 115)) = v at H R BX cx ⊢
  have D : Below v.heap.size v v.drew := (Below.refl _ _).drew
  replace BX := hide (BX.out.trans (D.mono H.out.lu))
  replace H := hide (H.out.below D)
  replace R := hide (R.out.below D)
  replace cx : v.drew.cell? ⟨g, i, none⟩ = some (.int .i64 x) := cx
  clear D
  refine (wpIn_wide (n := 0)).1 ?_
  refine PhaseIn.region (S := fun D => Rec P [.int .i64 b.pc, .int .i64 b.ln, .slice q b.ops.length cap, .int .i64 b.en, .int .i64 b.x, .int .i64 b.y, .int .i64 b.k, .pointer (some ⟨Z, 0, none⟩), .slice (some ⟨g, 0, none⟩) vs.length cp] D ∧ Rec u.heap.size [.int .i64 7, .int .i64 (i : Int), .int .i64 y_, .int .i64 k_, .int .i64 t_] D ∧ Rec Z [.slice (some ⟨b1, o1, none⟩) regs.length k1, .int .i64 pc, .slice (some ⟨b2, o2, none⟩) mem.length k2, .int .i64 save, .bool lets, .bool waits, .int .i64 halt, .slice (some ⟨b3, o3, none⟩) ins.length k3, .slice (some ⟨b4, 0, none⟩) outs.length k4, .int .i64 count] D ∧ D.cell? ⟨g, i, none⟩ = some (.int .i64 x)) 21 (by kernel_rfl) ?_
  generalize v.drew = v1 at H R BX cx ⊢
  have hHeld : Rec P [.int .i64 b.pc, .int .i64 b.ln, .slice q b.ops.length cap, .int .i64 b.en, .int .i64 b.x, .int .i64 b.y, .int .i64 b.k, .pointer (some ⟨Z, 0, none⟩), .slice (some ⟨g, 0, none⟩) vs.length cp] v1 ∧ Rec u.heap.size [.int .i64 7, .int .i64 (i : Int), .int .i64 y_, .int .i64 k_, .int .i64 t_] v1 ∧ Rec Z [.slice (some ⟨b1, o1, none⟩) regs.length k1, .int .i64 pc, .slice (some ⟨b2, o2, none⟩) mem.length k2, .int .i64 save, .bool lets, .bool waits, .int .i64 halt, .slice (some ⟨b3, o3, none⟩) ins.length k3, .slice (some ⟨b4, 0, none⟩) outs.length k4, .int .i64 count] v1 ∧ v1.cell? ⟨g, i, none⟩ = some (.int .i64 x) := ⟨H.out.p, R.out, H.out.z, cx⟩
  refine PhaseIn.takeD (i := 0) (v := ?_) [0, 1, 2, 3, 21, 22, 23] 6 rfl (by rfl) (by kernel_rfl) (by kernel_rfl) (by kernel_rfl) (by kernel_rfl) (by kernel_rfl) (fun _ _ _ h => h) (Or.inl ⟨by kernel_rfl, ?_⟩) hHeld ?_
  rotate_left
  · intro w' hSw
    (try dsimp only at hSw)
    go_simp
    first | done | with_reducible rfl
  try simp only [Act.put, List.setIfInBounds_toArray, List.set]
  refine PhaseIn.takeD (i := 1) (v := ?_) [1, 2, 3, 21, 22, 23] 7 rfl (by rfl) (by kernel_rfl) (by kernel_rfl) (by kernel_rfl) (by kernel_rfl) (by kernel_rfl) (fun _ _ _ h => h) (Or.inl ⟨by kernel_rfl, ?_⟩) hHeld ?_
  rotate_left
  · intro w' hSw
    (try dsimp only at hSw)
    go_simp
    first | done | with_reducible rfl
  try simp only [Act.put, List.setIfInBounds_toArray, List.set]
  refine PhaseIn.takeD (i := 2) (v := ?_) [2, 3, 21, 22, 23] 8 rfl (by rfl) (by kernel_rfl) (by kernel_rfl) (by kernel_rfl) (by kernel_rfl) (by kernel_rfl) (fun _ _ _ h => h) (Or.inl ⟨by kernel_rfl, ?_⟩) hHeld ?_
  rotate_left
  · intro w' hSw
    (try dsimp only at hSw)
    go_simp
    first | done | with_reducible rfl
  try simp only [Act.put, List.setIfInBounds_toArray, List.set]
  refine PhaseIn.takeD (i := 3) (v := ?_) [3, 21, 22, 23] 9 rfl (by rfl) (by kernel_rfl) (by kernel_rfl) (by kernel_rfl) (by kernel_rfl) (by kernel_rfl) (fun _ _ _ h => h) (Or.inl ⟨by kernel_rfl, ?_⟩) hHeld ?_
  rotate_left
  · intro w' hSw
    (try dsimp only at hSw)
    have z7 := hSw.1.cell 7 _ rfl
    go_simp
    first | done | with_reducible rfl
  try simp only [Act.put, List.setIfInBounds_toArray, List.set]
  refine PhaseIn.takeD (i := 4) (v := ?_) [4, 5, 6, 7, 8, 9, 10, 20, 21, 22, 23] 10 rfl (by rfl) (by kernel_rfl) (by kernel_rfl) (by kernel_rfl) (by kernel_rfl) (by kernel_rfl) (fun _ _ _ h => h) (Or.inl ⟨by kernel_rfl, ?_⟩) hHeld ?_
  rotate_left
  · intro w' hSw
    (try dsimp only at hSw)
    go_simp
    first | done | with_reducible rfl
  try simp only [Act.put, List.setIfInBounds_toArray, List.set]
  refine PhaseIn.takeD (i := 5) (v := ?_) [5, 6, 7, 8, 9, 10, 20, 21, 22, 23] 11 rfl (by rfl) (by kernel_rfl) (by kernel_rfl) (by kernel_rfl) (by kernel_rfl) (by kernel_rfl) (fun _ _ _ h => h) (Or.inl ⟨by kernel_rfl, ?_⟩) hHeld ?_
  rotate_left
  · intro w' hSw
    (try dsimp only at hSw)
    go_simp
    first | done | with_reducible rfl
  try simp only [Act.put, List.setIfInBounds_toArray, List.set]
  refine PhaseIn.takeD (i := 6) (v := ?_) [6, 7, 8, 9, 10, 20, 21, 22, 23] 12 rfl (by rfl) (by kernel_rfl) (by kernel_rfl) (by kernel_rfl) (by kernel_rfl) (by kernel_rfl) (fun _ _ _ h => h) (Or.inl ⟨by kernel_rfl, ?_⟩) hHeld ?_
  rotate_left
  · intro w' hSw
    (try dsimp only at hSw)
    go_simp
    first | done | with_reducible rfl
  try simp only [Act.put, List.setIfInBounds_toArray, List.set]
  refine PhaseIn.takeD (i := 7) (v := ?_) [7, 8, 9, 10, 20, 21, 22, 23] 13 rfl (by rfl) (by kernel_rfl) (by kernel_rfl) (by kernel_rfl) (by kernel_rfl) (by kernel_rfl) (fun _ _ _ h => h) (Or.inl ⟨by kernel_rfl, ?_⟩) hHeld ?_
  rotate_left
  · intro w' hSw
    (try dsimp only at hSw)
    have z7 := hSw.1.cell 7 _ rfl
    go_simp
    first | done | with_reducible rfl
  try simp only [Act.put, List.setIfInBounds_toArray, List.set]
  refine PhaseIn.takeD (i := 8) (v := ?_) [8, 9, 10, 20, 21, 22, 23] 14 rfl (by rfl) (by kernel_rfl) (by kernel_rfl) (by kernel_rfl) (by kernel_rfl) (by kernel_rfl) (fun _ _ _ h => h) (Or.inl ⟨by kernel_rfl, ?_⟩) hHeld ?_
  rotate_left
  · intro w' hSw
    (try dsimp only at hSw)
    go_simp
    first | done | with_reducible rfl
  try simp only [Act.put, List.setIfInBounds_toArray, List.set]
  refine PhaseIn.takeD (i := 9) (v := ?_) [9, 10, 20, 21, 22, 23] 15 rfl (by rfl) (by kernel_rfl) (by kernel_rfl) (by kernel_rfl) (by kernel_rfl) (by kernel_rfl) (fun _ _ _ h => h) (Or.inl ⟨by kernel_rfl, ?_⟩) hHeld ?_
  rotate_left
  · intro w' hSw
    (try dsimp only at hSw)
    go_simp
    first | done | with_reducible rfl
  try simp only [Act.put, List.setIfInBounds_toArray, List.set]
  refine PhaseIn.takeD (i := 10) (v := ?_) [10, 20, 21, 22, 23] 16 rfl (by rfl) (by kernel_rfl) (by kernel_rfl) (by kernel_rfl) (by kernel_rfl) (by kernel_rfl) (fun _ _ _ h => h) (Or.inl ⟨by kernel_rfl, ?_⟩) hHeld ?_
  rotate_left
  · intro w' hSw
    (try dsimp only at hSw)
    have z8 := hSw.2.2.1.cell 8 _ rfl
    go_simp
    first | done | with_reducible rfl
  try simp only [Act.put, List.setIfInBounds_toArray, List.set]
  refine PhaseIn.takeD (i := 11) (v := ?_) [11, 12, 13, 14, 17, 18, 19, 20, 21, 22, 23] 17 rfl (by rfl) (by kernel_rfl) (by kernel_rfl) (by kernel_rfl) (by kernel_rfl) (by kernel_rfl) (fun _ _ _ h => h) (Or.inl ⟨by kernel_rfl, ?_⟩) hHeld ?_
  rotate_left
  · intro w' hSw
    (try dsimp only at hSw)
    go_simp
    first | done | with_reducible rfl
  try simp only [Act.put, List.setIfInBounds_toArray, List.set]
  refine PhaseIn.takeD (i := 12) (v := ?_) [12, 13, 14, 17, 18, 19, 20, 21, 22, 23] 18 rfl (by rfl) (by kernel_rfl) (by kernel_rfl) (by kernel_rfl) (by kernel_rfl) (by kernel_rfl) (fun _ _ _ h => h) (Or.inl ⟨by kernel_rfl, ?_⟩) hHeld ?_
  rotate_left
  · intro w' hSw
    (try dsimp only at hSw)
    go_simp
    first | done | with_reducible rfl
  try simp only [Act.put, List.setIfInBounds_toArray, List.set]
  refine PhaseIn.takeD (i := 13) (v := ?_) [13, 14, 17, 18, 19, 20, 21, 22, 23] 19 rfl (by rfl) (by kernel_rfl) (by kernel_rfl) (by kernel_rfl) (by kernel_rfl) (by kernel_rfl) (fun _ _ _ h => h) (Or.inl ⟨by kernel_rfl, ?_⟩) hHeld ?_
  rotate_left
  · intro w' hSw
    (try dsimp only at hSw)
    go_simp
    first | done | with_reducible rfl
  try simp only [Act.put, List.setIfInBounds_toArray, List.set]
  refine PhaseIn.takeD (i := 14) (v := ?_) [14, 17, 18, 19, 20, 21, 22, 23] 20 rfl (by rfl) (by kernel_rfl) (by kernel_rfl) (by kernel_rfl) (by kernel_rfl) (by kernel_rfl) (fun _ _ _ h => h) (Or.inl ⟨by kernel_rfl, ?_⟩) hHeld ?_
  rotate_left
  · intro w' hSw
    (try dsimp only at hSw)
    have z8 := hSw.1.cell 8 _ rfl
    go_simp
    first | done | with_reducible rfl
  try simp only [Act.put, List.setIfInBounds_toArray, List.set]
  refine PhaseIn.takeD (i := 15) (v := ?_) [15, 16, 17, 18, 19, 20, 21, 22, 23] 21 rfl (by rfl) (by kernel_rfl) (by kernel_rfl) (by kernel_rfl) (by kernel_rfl) (by kernel_rfl) (fun _ _ _ h => h) (Or.inl ⟨by kernel_rfl, ?_⟩) hHeld ?_
  rotate_left
  · intro w' hSw
    (try dsimp only at hSw)
    go_simp
    first | done | with_reducible rfl
  try simp only [Act.put, List.setIfInBounds_toArray, List.set]
  refine PhaseIn.takeD (i := 16) (v := ?_) [16, 17, 18, 19, 20, 21, 22, 23] 22 rfl (by rfl) (by kernel_rfl) (by kernel_rfl) (by kernel_rfl) (by kernel_rfl) (by kernel_rfl) (fun _ _ _ h => h) (Or.inl ⟨by kernel_rfl, ?_⟩) hHeld ?_
  rotate_left
  · intro w' hSw
    (try dsimp only at hSw)
    have z1 := hSw.2.1.cell 1 _ rfl
    go_simp
    first | done | with_reducible rfl
  try simp only [Act.put, List.setIfInBounds_toArray, List.set]
  refine PhaseIn.takeD (i := 17) (v := ?_) [17, 18, 19, 20, 21, 22, 23] 23 rfl (by rfl) (by kernel_rfl) (by kernel_rfl) (by kernel_rfl) (by kernel_rfl) (by kernel_rfl) (fun _ _ _ h => h) (Or.inl ⟨by kernel_rfl, ?_⟩) hHeld ?_
  rotate_left
  · intro w' hSw
    (try dsimp only at hSw)
    go_simp
    first | done | with_reducible rfl
  try simp only [Act.put, List.setIfInBounds_toArray, List.set]
  refine PhaseIn.takeD (i := 18) (v := ?_) [18, 19, 20, 21, 22, 23] 24 rfl (by rfl) (by kernel_rfl) (by kernel_rfl) (by kernel_rfl) (by kernel_rfl) (by kernel_rfl) (fun _ _ _ h => h) (Or.inl ⟨by kernel_rfl, ?_⟩) hHeld ?_
  rotate_left
  · intro w' hSw
    (try dsimp only at hSw)
    have z1 := hSw.2.2.2
    go_simp
    first | done | with_reducible rfl
  try simp only [Act.put, List.setIfInBounds_toArray, List.set]
  refine PhaseIn.one (i := 19) (by kernel_rfl) rfl (by kernel_rfl) (fun K hK => ?_)
  unfold Oper.wpIn
  refine ⟨fun _ _ => trivial, ?_⟩
  go_simp
  have bo := alloc_below v1 (.cells #[.int .i64 x] 3)
  have H2 := hide (H.out.below bo)
  have gl : g < v1.heap.size := (own_isT H.out.words rfl).lt
  have cx2 : (v1.alloc (.cells #[.int .i64 x] 3)).cell? ⟨g, i, none⟩ = some (.int .i64 x) := by rw [World.cell?_alloc_lt _ _ ⟨g, i, none⟩ gl]; exact cx
  have hHeld2 : Rec P [.int .i64 b.pc, .int .i64 b.ln, .slice q b.ops.length cap, .int .i64 b.en, .int .i64 b.x, .int .i64 b.y, .int .i64 b.k, .pointer (some ⟨Z, 0, none⟩), .slice (some ⟨g, 0, none⟩) vs.length cp] (v1.alloc (.cells #[.int .i64 x] 3)) ∧ Rec u.heap.size [.int .i64 7, .int .i64 (i : Int), .int .i64 y_, .int .i64 k_, .int .i64 t_] (v1.alloc (.cells #[.int .i64 x] 3)) ∧ Rec Z [.slice (some ⟨b1, o1, none⟩) regs.length k1, .int .i64 pc, .slice (some ⟨b2, o2, none⟩) mem.length k2, .int .i64 save, .bool lets, .bool waits, .int .i64 halt, .slice (some ⟨b3, o3, none⟩) ins.length k3, .slice (some ⟨b4, 0, none⟩) outs.length k4, .int .i64 count] (v1.alloc (.cells #[.int .i64 x] 3)) ∧ (v1.alloc (.cells #[.int .i64 x] 3)).cell? ⟨g, i, none⟩ = some (.int .i64 x) := ⟨H2.out.p, R.out.below bo, H2.out.z, cx2⟩
  refine hK _ _ (fun _ => hHeld2) ?_
  clear hK K hHeld
  try simp only [Act.put, List.setIfInBounds_toArray, List.set]
  have CN : (v1.alloc (.cells #[.int .i64 x] 3)).cell? ((⟨v1.heap.size, 0, none⟩ : Addr).add 0) = some (.int .i64 x) := by
    rw [Go.WideShapes.add_plain]
    exact World.cell?_alloc_new v1 #[.int .i64 x] 3 0
  have LO : lo ≤ (v1.alloc (.cells #[.int .i64 x] 3)).heap.size := Nat.le_trans H.out.lu bo.size
  have OW := (CMach.parts (m := ⟨regs, pc, mem, save, lets, waits, halt, ins, outs, count⟩) H2.out.mach).2.2.2.1
  refine PhaseIn.one (i := 20) (by kernel_rfl) rfl (by kernel_rfl) (fun K hK => ?_)
  obtain ⟨g4, c4, u4, hrun, ho4, hor4, hlt4, gr⟩ := run_pushI (ty := 25) OW (Nat.le_trans OL.out (by omega)) LO ⟨v1.heap.size, 0, none⟩ x CN
  have ht : Turn b4 (v1.alloc (.cells #[.int .i64 x] 3)) u4 := Turn.of_grown gr
  have hor : g4 = b4 ∨ (v1.alloc (.cells #[.int .i64 x] 3)).heap.size ≤ g4 := hor4.imp (fun e => by simpa [Value.ownBlock] using e.symm) id
  have FM : b4 ∈ mb [.slice (some ⟨b1, o1, none⟩) regs.length k1, .int .i64 pc, .slice (some ⟨b2, o2, none⟩) mem.length k2, .int .i64 save, .bool lets, .bool waits, .int .i64 halt, .slice (some ⟨b3, o3, none⟩) ins.length k3, .slice (some ⟨b4, 0, none⟩) outs.length k4, .int .i64 count] := show b4 ∈ [b1, b2, b3, b4] by simp
  have t4 := (CMach.parts (m := ⟨regs, pc, mem, save, lets, waits, halt, ins, outs, count⟩) H2.out.mach).2.2.2.2.2.2.2.2.2
  have PN : P ≠ b4 := H2.out.pt.ne t4 pass_int
  have ZN : Z ≠ b4 := H2.out.zt.ne t4 mach_int
  have GN : g ≠ b4 := fun e => H2.out.gn g _ _ rfl (by rw [e]; exact FM)
  have RN : u.heap.size ≠ b4 := Ne.symm (Nat.ne_of_lt B4.out)
  have hHeld3 : Rec P [.int .i64 b.pc, .int .i64 b.ln, .slice q b.ops.length cap, .int .i64 b.en, .int .i64 b.x, .int .i64 b.y, .int .i64 b.k, .pointer (some ⟨Z, 0, none⟩), .slice (some ⟨g, 0, none⟩) vs.length cp] u4 ∧ Rec u.heap.size [.int .i64 7, .int .i64 (i : Int), .int .i64 y_, .int .i64 k_, .int .i64 t_] u4 ∧ Rec Z [.slice (some ⟨b1, o1, none⟩) regs.length k1, .int .i64 pc, .slice (some ⟨b2, o2, none⟩) mem.length k2, .int .i64 save, .bool lets, .bool waits, .int .i64 halt, .slice (some ⟨b3, o3, none⟩) ins.length k3, .slice (some ⟨b4, 0, none⟩) outs.length k4, .int .i64 count] u4 ∧ u4.cell? ⟨g, i, none⟩ = some (.int .i64 x) := ⟨H2.out.p.turn ht PN, hHeld2.2.1.turn ht RN, H2.out.z.turn ht ZN, by rw [ht.cell (p := ⟨g, i, none⟩) (Nat.lt_of_lt_of_le gl bo.size) GN]; exact cx2⟩
  obtain ⟨CP, IP⟩ := CMach.push (m := ⟨regs, pc, mem, save, lets, waits, halt, ins, outs, count⟩) H.out.mach bo (by rw [List.length_append]; exact ho4) hor ht LO
  rw [show (outs ++ [x]).length = outs.length + 1 from by simp] at CP
  have ON := (Onl.of_below (bs := mb [.slice (some ⟨b1, o1, none⟩) regs.length k1, .int .i64 pc, .slice (some ⟨b2, o2, none⟩) mem.length k2, .int .i64 save, .bool lets, .bool waits, .int .i64 halt, .slice (some ⟨b3, o3, none⟩) ins.length k3, .slice (some ⟨b4, 0, none⟩) outs.length k4, .int .i64 count]) bo).trans (Onl.of_turn ht FM)
  have HG : ∀ j, j ∈ [b1, b2, b3, g4] → j ∈ [b1, b2, b3, b4] ∨ v1.heap.size ≤ j := by
    intro j hj
    have := bo.size
    simp only [List.mem_cons, List.not_mem_nil, or_false] at hj ⊢
    rcases hor with e | e <;> rcases hj with rfl | rfl | rfl | rfl <;> first | (left; simp [e]; done) | (left; simp; done) | (right; omega)
  have BX4 := Box.mk hHeld3.2.2.1 (H2.out.zt.turn ht ZN)
  have F := H.out.far IP ON CP HG ((Turn.refl Z u4).setCell (p := ⟨Z, 8, none⟩) rfl (.slice (some ⟨g4, 0, none⟩) (outs.length + 1) c4)) (BX4.set 8 (.slice (some ⟨g4, 0, none⟩) (outs.length + 1) c4) (by simp) rfl)
  have HF := hide F.1
  have BF := hide (BX.out.trans F.2)
  have z8 := hHeld3.2.2.1.cell 8 _ rfl
  have s8 := hHeld3.2.2.1.soft 8
  refine Push.push_in _ _ rfl rfl rfl hrun (hK _ _ (fun _ => hHeld3) ?_)
  clear hK K F BX4 HG ON CP IP PN ZN GN RN FM t4 hor ht gr hlt4 hor4 ho4 hrun OW LO CN H2 hHeld2 cx2 bo
  try simp only [Act.put, List.setIfInBounds_toArray, List.set]
  refine PhaseIn.late (i := 21) (v := ?_) (by kernel_rfl) rfl 27 (by rfl) (by omega) (Or.inl ⟨by kernel_rfl, ?_⟩) ?_
  rotate_left
  · intro w' hSw
    go_simp
    first | done | with_reducible rfl
  try simp only [Act.put, List.setIfInBounds_toArray, List.set]
  refine PhaseIn.late (i := 22) (v := ?_) (by kernel_rfl) rfl 28 (by rfl) (by omega) (Or.inl ⟨by kernel_rfl, ?_⟩) ?_
  rotate_left
  · intro w' hSw
    go_simp
    first | done | with_reducible rfl
  try simp only [Act.put, List.setIfInBounds_toArray, List.set]
  refine PhaseIn.one (i := 23) (by kernel_rfl) rfl (by kernel_rfl) (fun K hK => ?_)
  unfold Oper.wpIn
  refine ⟨fun _ _ => trivial, ?_⟩
  go_simp
  refine hK _ _ (fun h => absurd h (by omega)) ?_
  clear hK K
  try simp only [Act.put, List.setIfInBounds_toArray, List.set]
  refine PhaseIn.done (by kernel_rfl) ?_ _
  clear hHeld3 z8 s8
  go_wp2
  exact bodyPost_ret (v := .tuple #[.int .i64 (0), .nilIface]) (by simp [results, Tryz.results107, go_sem]) rfl ⟨rfl, ⟨_, HF.out⟩, BF.out⟩
end Go.Proofs.YtaokopipgolmbaaGreatDoor.Ir
namespace Go.Proofs.YtaokopipgolmbaaGreatDoor.Ir
set_option linter.unusedVariables false
set_option linter.unusedSimpArgs false
open Go.ChangeShapes Go.WideShapes Go.ChangeAt Go.RowKit IntS Mch
/-- What an operation does: it goes on, or the code is left by one of two errors. -/
def Rd (lo P Z : Nat) (b : Bk) (q : Option Addr) (cap : Nat) (wv : Value) (vs : List Int) (m : M) (o : Opn) (u : World) (e : Ending) (w' : World) : Prop :=
  (∃ m' n, stepM b m vs o = (m', n, false) ∧ DoR lo P Z b q cap wv vs m' n .nilIface u e w') ∨
  (∃ t : Int, stepM b m vs o = (leaveM m b.pc t 3, 0, true) ∧ (0 ≤ t ∧ t ≤ 7) ∧ DoR lo P Z b q cap wv vs m 0 (.iface 81 (.agg #[.int .i64 t])) u e w') ∨
  (∃ (t : Int) (m' : M), stepM b m vs o = (leaveM m' b.pc (t + 1) 0, 0, true) ∧ (0 ≤ t ∧ t ≤ 7) ∧ (m'.count = m.count ∧ m'.halt = m.halt) ∧ DoR lo P Z b q cap wv vs m' 0 (.iface 82 (.agg #[.int .i64 t])) u e w')
theorem step_halt {b : Bk} {m m' : M} {vs : List Int} {o : Opn} {n : Int} (h : stepM b m vs o = (m', n, false)) : m'.halt = m.halt := by
  unfold stepM at h
  split at h
  · cases h; rfl
  split at h
  · unfold evM at h
    split at h
    · cases h; rfl
    split at h
    · cases e : m.ins with
      | nil => rw [e] at h; cases h; rfl
      | cons x r => rw [e] at h; cases h; rfl
    split at h
    · cases h
    split at h
    · cases h; rfl
    split at h
    · cases h
    · cases h; rfl
  · cases h; rfl
/-- What must be known of the operation, the machine and the code. -/
structure Fit6 (b : Bk) (m : M) (vs : List Int) (o : Opn) : Prop where
  op : OpF vs.length o
  inv : Inv m vs
  outs : m.outs.length ≤ 1000000000
  p0 : 0 ≤ b.pc
  p1 : b.pc ≤ 64
  l0 : 0 ≤ b.ln
  l1 : b.ln ≤ 8
theorem at_of {vs : List Int} {k : Int} (h0 : 0 ≤ k) (h1 : k < (vs.length : Int)) : ∃ (i : Nat) (x : Int), k = (i : Int) ∧ vs[i]? = some x ∧ atI vs k = x := by
  obtain ⟨i, rfl⟩ := Int.eq_ofNat_of_zero_le h0
  have hi : i < vs.length := by omega
  exact ⟨i, vs[i], rfl, List.getElem?_eq_getElem hi, at_yes (List.getElem?_eq_getElem hi)⟩

theorem step_const (lo P Z cap : Nat) (b : Bk) (q : Option Addr) (wv : Value) (c : List Value) (m : M) (vs : List Int) (u : World) (h : Psg u lo P Z b q cap wv c m vs) (x_ y_ k_ t_ : Int) (hf : Fit6 b m vs ⟨1, x_, y_, k_, t_⟩) :
    Calls Tryz.prog 92 #[.agg #[.int .i64 1, .int .i64 x_, .int .i64 y_, .int .i64 k_, .int .i64 t_], .pointer (some ⟨P, 0, none⟩)] u (Rd lo P Z b q cap wv vs m ⟨1, x_, y_, k_, t_⟩ u) := by
  exact (do_const lo P Z cap b q wv c m vs u h x_ y_ k_ t_).mono fun e w' r => Or.inl ⟨m, k_, rfl, r⟩

theorem step_get (lo P Z cap : Nat) (b : Bk) (q : Option Addr) (wv : Value) (c : List Value) (m : M) (vs : List Int) (u : World) (h : Psg u lo P Z b q cap wv c m vs) (x_ y_ k_ t_ : Int) (hf : Fit6 b m vs ⟨2, x_, y_, k_, t_⟩) :
    Calls Tryz.prog 93 #[.agg #[.int .i64 2, .int .i64 x_, .int .i64 y_, .int .i64 k_, .int .i64 t_], .pointer (some ⟨P, 0, none⟩)] u (Rd lo P Z b q cap wv vs m ⟨2, x_, y_, k_, t_⟩ u) := by
  obtain ⟨k0, k1⟩ := hf.op.k2 (Or.inl rfl)
  simp only [] at k0 k1
  obtain ⟨d, rfl⟩ := Int.eq_ofNat_of_zero_le k0
  have hd : d < m.regs.length := by rw [hf.inv.regs]; omega
  refine (do_get lo P Z cap b q wv c m vs u h x_ y_ t_ d m.regs[d] (List.getElem?_eq_getElem hd)).mono fun e w' r => Or.inl ⟨m, m.regs[d], ?_, r⟩
  show (m, m.regs.getD (d : Int).toNat 0, false) = _
  rw [Int.toNat_natCast, List.getD_eq_getElem?_getD, List.getElem?_eq_getElem hd]
  rfl

theorem step_do (lo P Z cap : Nat) (b : Bk) (q : Option Addr) (wv : Value) (c : List Value) (m : M) (vs : List Int) (u : World) (h : Psg u lo P Z b q cap wv c m vs) (x_ y_ k_ t_ : Int) (hf : Fit6 b m vs ⟨3, x_, y_, k_, t_⟩) :
    Calls Tryz.prog 94 #[.agg #[.int .i64 3, .int .i64 x_, .int .i64 y_, .int .i64 k_, .int .i64 t_], .pointer (some ⟨P, 0, none⟩)] u (Rd lo P Z b q cap wv vs m ⟨3, x_, y_, k_, t_⟩ u) := by
  obtain ⟨i, x, hi, hx, ex⟩ := at_of (vs := vs) hf.op.x.1 (hf.op.xv (by simp))
  simp only [] at hi
  obtain ⟨j, y, hj, hy, ey⟩ := at_of (vs := vs) hf.op.y.1 (hf.op.yv (by simp))
  simp only [] at hj
  subst hi
  subst hj
  refine (do_do lo P Z cap b q wv c m vs u h k_ t_ i j x y hx hy).mono fun e w' r => Or.inl ⟨m, Wrd.wdo k_ x y, ?_, r⟩
  show (m, Wrd.wdo k_ (atI vs (i : Int)) (atI vs (j : Int)), false) = _
  rw [ex, ey]

theorem step_load (lo P Z cap : Nat) (b : Bk) (q : Option Addr) (wv : Value) (c : List Value) (m : M) (vs : List Int) (u : World) (h : Psg u lo P Z b q cap wv c m vs) (x_ y_ k_ t_ : Int) (hf : Fit6 b m vs ⟨4, x_, y_, k_, t_⟩) :
    Calls Tryz.prog 102 #[.agg #[.int .i64 4, .int .i64 x_, .int .i64 y_, .int .i64 k_, .int .i64 t_], .pointer (some ⟨P, 0, none⟩)] u (Rd lo P Z b q cap wv vs m ⟨4, x_, y_, k_, t_⟩ u) := by
  obtain ⟨i, x, hi, hx, ex⟩ := at_of (vs := vs) hf.op.x.1 (hf.op.xv (by simp))
  simp only [] at hi
  subst hi
  have T := hf.op.t
  simp only [] at T
  have hs : stepM b m vs ⟨4, (i : Int), y_, k_, t_⟩ = evM b m ⟨4, (i : Int), y_, k_, t_⟩ x (atI vs y_) := by
    rw [← ex]
    rfl
  by_cases hq : 64 ≤ x
  · refine (do_load_no lo P Z cap b q wv c m vs u h y_ k_ t_ i x hx hq).mono fun e w' r => Or.inr (Or.inl ⟨t_, ?_, T, r⟩)
    rw [hs]
    unfold evM
    simp only []
    rw [if_neg (by decide), if_neg (by decide), if_pos hq]
  · have x0 : 0 ≤ x := by rw [← ex]; exact (at_w hf.inv.vw _).1
    obtain ⟨a, rfl⟩ := Int.eq_ofNat_of_zero_le x0
    have ha : a < m.mem.length := by rw [hf.inv.mem]; omega
    refine (do_load lo P Z cap b q wv c m vs u h y_ k_ t_ i a m.mem[a] hx (by omega) (List.getElem?_eq_getElem ha)).mono fun e w' r => Or.inl ⟨m, m.mem[a], ?_, r⟩
    rw [hs]
    unfold evM
    simp only []
    rw [if_neg (by decide), if_neg (by decide), if_neg hq, if_pos trivial, Int.toNat_natCast, List.getD_eq_getElem?_getD, List.getElem?_eq_getElem ha]
    rfl

theorem step_store (lo P Z cap : Nat) (b : Bk) (q : Option Addr) (wv : Value) (c : List Value) (m : M) (vs : List Int) (u : World) (h : Psg u lo P Z b q cap wv c m vs) (x_ y_ k_ t_ : Int) (hf : Fit6 b m vs ⟨5, x_, y_, k_, t_⟩) :
    Calls Tryz.prog 104 #[.agg #[.int .i64 5, .int .i64 x_, .int .i64 y_, .int .i64 k_, .int .i64 t_], .pointer (some ⟨P, 0, none⟩)] u (Rd lo P Z b q cap wv vs m ⟨5, x_, y_, k_, t_⟩ u) := by
  obtain ⟨i, x, hi, hx, ex⟩ := at_of (vs := vs) hf.op.x.1 (hf.op.xv (by simp))
  simp only [] at hi
  obtain ⟨j, y, hj, hy, ey⟩ := at_of (vs := vs) hf.op.y.1 (hf.op.yv (by simp))
  simp only [] at hj
  subst hi
  subst hj
  have T := hf.op.t
  simp only [] at T
  have hs : stepM b m vs ⟨5, (i : Int), (j : Int), k_, t_⟩ = evM b m ⟨5, (i : Int), (j : Int), k_, t_⟩ x y := by
    rw [← ex, ← ey]
    rfl
  by_cases hq : 64 ≤ x
  · refine (do_store_no lo P Z cap b q wv c m vs u h (j : Int) k_ t_ i x hx hq).mono fun e w' r => Or.inr (Or.inl ⟨t_, ?_, T, r⟩)
    rw [hs]
    unfold evM
    simp only []
    rw [if_neg (by decide), if_neg (by decide), if_pos hq]
  · have x0 : 0 ≤ x := by rw [← ex]; exact (at_w hf.inv.vw _).1
    obtain ⟨a, rfl⟩ := Int.eq_ofNat_of_zero_le x0
    have ha : a < m.mem.length := by rw [hf.inv.mem]; omega
    have he : evM b m ⟨5, (i : Int), (j : Int), k_, t_⟩ (a : Int) y = if overB b.pc b.ln (a : Int) t_ then (leaveM { m with mem := m.mem.set a y } b.pc (t_ + 1) 0, 0, true) else ({ m with mem := m.mem.set a y }, 0, false) := by
      unfold evM
      simp only []
      rw [if_neg (by decide), if_neg (by decide), if_neg hq, if_neg (by decide), Int.toNat_natCast]
    by_cases hc : b.pc + t_ < (a : Int)
    · by_cases hd : (a : Int) < b.pc + b.ln
      · refine (do_store_over lo P Z cap b q wv c m vs u h k_ t_ i j a y hx hy (by omega) ha T.1 T.2 hf.p0 hf.p1 hf.l0 hf.l1 hc hd).mono fun e w' r => Or.inr (Or.inr ⟨t_, { m with mem := m.mem.set a y }, ?_, T, ⟨rfl, rfl⟩, r⟩)
        rw [hs, he, if_pos (by unfold overB; rw [decide_eq_true hc, decide_eq_true hd]; rfl)]
      · refine (do_store_in lo P Z cap b q wv c m vs u h k_ t_ i j a y hx hy (by omega) ha T.1 T.2 hf.p0 hf.p1 hf.l0 hf.l1 hc hd).mono fun e w' r => Or.inl ⟨{ m with mem := m.mem.set a y }, 0, ?_, r⟩
        rw [hs, he, if_neg (by unfold overB; rw [decide_eq_false hd, Bool.and_false]; decide)]
    · refine (do_store_far lo P Z cap b q wv c m vs u h k_ t_ i j a y hx hy (by omega) ha T.1 T.2 hf.p0 hf.p1 hf.l0 hf.l1 hc).mono fun e w' r => Or.inl ⟨{ m with mem := m.mem.set a y }, 0, ?_, r⟩
      rw [hs, he, if_neg (by unfold overB; rw [decide_eq_false hc, Bool.false_and]; decide)]

theorem step_in (lo P Z cap : Nat) (b : Bk) (q : Option Addr) (wv : Value) (c : List Value) (m : M) (vs : List Int) (u : World) (h : Psg u lo P Z b q cap wv c m vs) (x_ y_ k_ t_ : Int) (hf : Fit6 b m vs ⟨6, x_, y_, k_, t_⟩) :
    Calls Tryz.prog 105 #[.agg #[.int .i64 6, .int .i64 x_, .int .i64 y_, .int .i64 k_, .int .i64 t_], .pointer (some ⟨P, 0, none⟩)] u (Rd lo P Z b q cap wv vs m ⟨6, x_, y_, k_, t_⟩ u) := by
  cases he : m.ins with
  | nil =>
    refine (do_in_none lo P Z cap b q wv c m vs u h x_ y_ k_ t_ he).mono fun e w' r => Or.inl ⟨m, 0, ?_, r⟩
    show evM b m ⟨6, x_, y_, k_, t_⟩ (atI vs x_) (atI vs y_) = _
    unfold evM
    simp only []
    rw [if_neg (by decide), if_pos trivial, he]
  | cons n r' =>
    refine (do_in_more lo P Z cap b q wv c m vs u h x_ y_ k_ t_ n r' he).mono fun e w' r => Or.inl ⟨{ m with ins := r' }, n, ?_, r⟩
    show evM b m ⟨6, x_, y_, k_, t_⟩ (atI vs x_) (atI vs y_) = _
    unfold evM
    simp only []
    rw [if_neg (by decide), if_pos trivial, he]

theorem step_out (lo P Z cap : Nat) (b : Bk) (q : Option Addr) (wv : Value) (c : List Value) (m : M) (vs : List Int) (u : World) (h : Psg u lo P Z b q cap wv c m vs) (x_ y_ k_ t_ : Int) (hf : Fit6 b m vs ⟨7, x_, y_, k_, t_⟩) :
    Calls Tryz.prog 107 #[.agg #[.int .i64 7, .int .i64 x_, .int .i64 y_, .int .i64 k_, .int .i64 t_], .pointer (some ⟨P, 0, none⟩)] u (Rd lo P Z b q cap wv vs m ⟨7, x_, y_, k_, t_⟩ u) := by
  obtain ⟨i, x, hi, hx, ex⟩ := at_of (vs := vs) hf.op.x.1 (hf.op.xv (by simp))
  simp only [] at hi
  subst hi
  refine (do_out lo P Z cap b q wv c m vs u h y_ k_ t_ i x hx hf.outs).mono fun e w' r => Or.inl ⟨{ m with outs := m.outs ++ [x] }, 0, ?_, r⟩
  show evM b m ⟨7, (i : Int), y_, k_, t_⟩ (atI vs (i : Int)) (atI vs y_) = _
  rw [ex]
  rfl

theorem step_set (lo P Z cap : Nat) (b : Bk) (q : Option Addr) (wv : Value) (c : List Value) (m : M) (vs : List Int) (u : World) (h : Psg u lo P Z b q cap wv c m vs) (x_ y_ k_ t_ : Int) (hf : Fit6 b m vs ⟨8, x_, y_, k_, t_⟩) :
    Calls Tryz.prog 108 #[.agg #[.int .i64 8, .int .i64 x_, .int .i64 y_, .int .i64 k_, .int .i64 t_], .pointer (some ⟨P, 0, none⟩)] u (Rd lo P Z b q cap wv vs m ⟨8, x_, y_, k_, t_⟩ u) := by
  obtain ⟨i, x, hi, hx, ex⟩ := at_of (vs := vs) hf.op.x.1 (hf.op.x8 rfl)
  simp only [] at hi
  subst hi
  obtain ⟨k0, k1⟩ := hf.op.k2 (Or.inr rfl)
  simp only [] at k0 k1
  obtain ⟨d, rfl⟩ := Int.eq_ofNat_of_zero_le k0
  have hd : d < m.regs.length := by rw [hf.inv.regs]; omega
  refine (do_set lo P Z cap b q wv c m vs u h y_ t_ i d x hx hd).mono fun e w' r => Or.inl ⟨{ m with regs := m.regs.set d x }, 0, ?_, r⟩
  unfold stepM
  rw [if_pos rfl]
  simp only []
  rw [Int.toNat_natCast, ex]

/-- One more word. -/
theorem Psg.push {u u2 : World} {lo P Z cap cp g9 c9 : Nat} {b : Bk} {q qw : Option Addr} {c : List Value} {m : M} {vs : List Int} {n : Int} {o : Obj} (h : Psg u lo P Z b q cap (.slice qw vs.length cp) c m vs)
    (ho : Own u2 lo (.slice (some ⟨g9, 0, none⟩) (vs.length + 1) c9) (vs ++ [n])) (hor : (Value.slice qw vs.length cp).ownBlock = some g9 ∨ (u.alloc o).heap.size ≤ g9) (gr : (u.alloc o).grownBy u2 (Value.slice qw vs.length cp).ownBlock) :
    Psg (u2.setCell ⟨P, 8, none⟩ (.slice (some ⟨g9, 0, none⟩) (vs.length + 1) c9)) lo P Z b q cap (.slice (some ⟨g9, 0, none⟩) (vs.length + 1) c9) c m (vs ++ [n]) ∧ Below lo u (u2.setCell ⟨P, 8, none⟩ (.slice (some ⟨g9, 0, none⟩) (vs.length + 1) c9)) ∧ Rec P [.int .i64 b.pc, .int .i64 b.ln, .slice q b.ops.length cap, .int .i64 b.en, .int .i64 b.x, .int .i64 b.y, .int .i64 b.k, .pointer (some ⟨Z, 0, none⟩), .slice qw vs.length cp] u2 := by
  have bo := alloc_below u o
  have h1 := h.below bo
  have hq : qw = none ∨ ∃ G, qw = some ⟨G, 0, none⟩ := by
    obtain ⟨hl, h0 | ⟨g', cap', cur, hv, _⟩⟩ := h.words
    · simp only [Value.slice.injEq] at h0
      exact Or.inl h0.1.1
    · right; cases hv; exact ⟨g', rfl⟩
  obtain ⟨T, ht, hT⟩ := Flat.grown_turn gr hq
  have hsz : u.heap.size ≤ (u.alloc o).heap.size := bo.size
  have TT : ∀ x, x < (u.alloc o).heap.size → (∀ k2, qw = some ⟨x, 0, none⟩ → False) → x ≠ T := fun x hx hno e => by
    rcases hT with e2 | e2
    · exact hno 0 (by rw [e]; exact e2)
    · omega
  have own (x : Nat) (e : qw = some ⟨x, 0, none⟩) : IsT (u.alloc o) x 3 := own_isT h1.words (by rw [e])
  have PT : P ≠ T := TT P h1.p.lt (fun _ e => (h1.pt.ne (own P e) pass_int) rfl)
  have ZT : Z ≠ T := TT Z h1.z.lt (fun _ e => (h1.zt.ne (own Z e) mach_int) rfl)
  have MT : T ∉ mb c := fun e => by
    have tl := (h1.mach.mb_int T e).lt
    rcases hT with e2 | e2
    · exact h1.gn T _ _ (by rw [e2]) e
    · omega
  have lT : lo ≤ T := by
    rcases hT with e2 | e2
    · obtain ⟨hl, h0 | ⟨g', cap', cur, hv, hb, _⟩⟩ := h.words
      · have := h0.1
        rw [e2] at this
        simp at this
      · rw [e2] at hv; cases hv; exact hb
    · rw [e2]; exact h1.lu
  have P9 : P ≠ g9 := fun e => by
    have tp := (h1.pt.turn ht PT)
    exact (tp.ne ho.isT pass_int) e
  have Z9 : Z ≠ g9 := fun e => ((h1.zt.turn ht ZT).ne ho.isT mach_int) e
  have PZ : P ≠ Z := h1.pt.ne h1.zt pass_mach
  have tP : Turn P u2 (u2.setCell ⟨P, 8, none⟩ (.slice (some ⟨g9, 0, none⟩) (vs.length + 1) c9)) := (Turn.refl P u2).setCell (p := ⟨P, 8, none⟩) rfl _
  have M2 := h1.mach.turnI ht MT
  have PM : P ∉ mb c := fun e => ((h1.pt.turn ht PT).ne (M2.mb_int P e) pass_int) rfl
  refine ⟨⟨(h1.p.turn ht PT).set 8 _ (by simp) rfl, (h1.pt.turn ht PT).set _ _, (h1.z.turn ht ZT).turn tP (fun e => PZ e.symm), (h1.zt.turn ht ZT).set _ _, M2.turnI tP PM, own_blk ho (tP.block g9 ho.isT.lt (fun e => P9 e.symm)), ?_, h.pl, h.zl, Nat.le_trans h1.lu (Nat.le_trans ht.size tP.size)⟩, ?_⟩
  · intro g n2 k2 e hg
    cases e
    rcases hor with e2 | e2
    · obtain ⟨G, rfl⟩ : ∃ G, qw = some ⟨G, 0, none⟩ := by
        rcases hq with e3 | e3
        · rw [e3] at e2; simp [Value.ownBlock] at e2
        · exact e3
      have : G = g9 := by simpa [Value.ownBlock] using e2
      subst this
      exact h1.gn G _ _ rfl hg
    · have := (h1.mach.mb_int g9 hg).lt
      omega
  · exact ⟨((bo.mono h.lu).trans (ht.below lT h1.lu)).trans (tP.below h.pl (Nat.le_trans h1.lu ht.size)), h1.p.turn ht PT⟩
end Go.Proofs.YtaokopipgolmbaaGreatDoor.Ir
