/-
  The specification's l3Port where a word comes in, and l3Do: contracts.
-/
import Derived.Test.YtnhpmbhphbphaaaGreatJnK
import Derived.Deep.RegionHeld3
namespace Go.Proofs.YtnhpmbhphbphaaaGreat.Mch
open Go.ChangeShapes Go.WideShapes Go.ChangeAt Go.RowKit IntS
def stopM (m : M) (k : Int) : M := if k = 1 then nextM { m with lets := true } m.save else if k = 2 then nextM { m with lets := true } (m.pc + 1) else if k = 3 then nextM { m with lets := false } (m.pc + 1) else nextM (haltM m 1) (m.pc + 1)
/-- What an instruction does to a machine. -/
def doM (m : M) (op : Int) (d a : Nat) (k : Int) : M :=
  if op = 0 then stopM m k
  else if op = 1 then setM m d k
  else if op = 2 then setM m d (m.regs.getD a 0)
  else if op = 8 then setM m d (shiftN (m.regs.getD a 0) k.toNat)
  else if op = 9 ∨ op = 10 then reachM m op d a k
  else if op = 11 then nextM m (if m.regs.getD d 0 = m.regs.getD a 0 then k else m.pc + 1)
  else if op = 12 then nextM m (if m.regs.getD d 0 < m.regs.getD a 0 then k else m.pc + 1)
  else if op = 13 then nextM m (m.regs.getD a 0)
  else if op = 14 then outM m d
  else if op = 15 then inM m d
  else setM m d (Wrd.wdo (op - 2) (m.regs.getD a 0) (m.regs.getD k.toNat 0))
theorem Rec.cells {Z : Nat} {cs : List Value} {w : World} (h : Rec Z cs w) (i : Nat) {v : Value} (hv : cs[i]? = some v) : w.cell? ⟨Z, i, none⟩ = some v := h.cell i v hv
set_option maxRecDepth 8000 in
set_option maxHeartbeats 4000000 in
theorem l3Do_1 (m : M) (d a : Nat) (k : Int) (lo : Nat) (c : List Value) (w : World) (h : CMach w lo c m) (hf : Fit m) (hd : d < 4) (ha : a < 4) :
    Calls Tryz.prog 39 #[.agg c.toArray, .agg #[.int .i64 1, .int .i64 d, .int .i64 a, .int .i64 k]] w fun e w' => ∃ c', e = .returned (.agg c'.toArray) ∧ CMach w' lo c' (doM m 1 d a k) ∧ Ints lo w w' := by
  obtain ⟨b1, o1, k1, b2, o2, k2, b3, o3, k3, b4, k4, rfl⟩ := forms h
  obtain ⟨regs, pc, mem, save, lets, waits, halt, ins, outs, count⟩ := m
  obtain ⟨r4, m64, rw_, mw_, p0, p1, c0, c1⟩ := hf
  have la : a < regs.length := by rw [show regs.length = 4 from r4]; exact ha
  have ld : d < regs.length := by rw [show regs.length = 4 from r4]; exact hd
  have lr : regs.length ≤ 1000 := by rw [show regs.length = 4 from r4]; omega
  have la' : ((a : Nat) : Int) < (regs.length : Int) := by omega
  have ld' : ((d : Nat) : Int) < (regs.length : Int) := by omega
  have R4 := hide r4
  clear r4 m64 mw_
  have bX : Below w.heap.size w (((w.alloc (.cells #[.slice (some ⟨b1, o1, none⟩) regs.length k1, .int .i64 pc, .slice (some ⟨b2, o2, none⟩) mem.length k2, .int .i64 save, .bool lets, .bool waits, .int .i64 halt, .slice (some ⟨b3, o3, none⟩) ins.length k3, .slice (some ⟨b4, 0, none⟩) outs.length k4, .int .i64 count] 25)).alloc (.cells #[.int .i64 1, .int .i64 d, .int .i64 a, .int .i64 k] 38)).alloc (.cells #[.slice none 0 0, .int .i64 0, .slice none 0 0, .int .i64 0, .bool false, .bool false, .int .i64 0, .slice none 0 0, .slice none 0 0, .int .i64 0] 25)) := (((Below.refl _ _).alloc (Nat.le_refl _) _).alloc (by simp) _).alloc (by simp; omega) _
  have HX := h.below bX
  obtain ⟨x, ex⟩ : ∃ x, regs[a]? = some x := ⟨_, List.getElem?_eq_getElem la⟩
  obtain ⟨y, ey⟩ : ∃ y, regs[d]? = some y := ⟨_, List.getElem?_eq_getElem ld⟩
  have bx := rw_ a x ex
  have by_ := rw_ d y ey
  obtain ⟨cx, fx⟩ := row_at HX.parts.1 ex
  obtain ⟨cy, fy⟩ := row_at HX.parts.1 ey
  have GX := hide (getD_of ex)
  have GY := hide (getD_of ey)
  have T := hide (Three.new w [.slice (some ⟨b1, o1, none⟩) regs.length k1, .int .i64 pc, .slice (some ⟨b2, o2, none⟩) mem.length k2, .int .i64 save, .bool lets, .bool waits, .int .i64 halt, .slice (some ⟨b3, o3, none⟩) ins.length k3, .slice (some ⟨b4, 0, none⟩) outs.length k4, .int .i64 count] [.int .i64 1, .int .i64 d, .int .i64 a, .int .i64 k] [.slice none 0 0, .int .i64 0, .slice none 0 0, .int .i64 0, .bool false, .bool false, .int .i64 0, .slice none 0 0, .slice none 0 0, .int .i64 0] 25 38 25)
  have ZT0 := IsT.new ((w.alloc (.cells #[.slice (some ⟨b1, o1, none⟩) regs.length k1, .int .i64 pc, .slice (some ⟨b2, o2, none⟩) mem.length k2, .int .i64 save, .bool lets, .bool waits, .int .i64 halt, .slice (some ⟨b3, o3, none⟩) ins.length k3, .slice (some ⟨b4, 0, none⟩) outs.length k4, .int .i64 count] 25)).alloc (.cells #[.int .i64 1, .int .i64 d, .int .i64 a, .int .i64 k] 38)) #[.slice none 0 0, .int .i64 0, .slice none 0 0, .int .i64 0, .bool false, .bool false, .int .i64 0, .slice none 0 0, .slice none 0 0, .int .i64 0] 25
  have e1 : ((w.alloc (.cells #[.slice (some ⟨b1, o1, none⟩) regs.length k1, .int .i64 pc, .slice (some ⟨b2, o2, none⟩) mem.length k2, .int .i64 save, .bool lets, .bool waits, .int .i64 halt, .slice (some ⟨b3, o3, none⟩) ins.length k3, .slice (some ⟨b4, 0, none⟩) outs.length k4, .int .i64 count] 25)).alloc (.cells #[.int .i64 1, .int .i64 d, .int .i64 a, .int .i64 k] 38)).heap.size = w.heap.size + 1 + 1 := by simp
  rw [e1] at ZT0
  have ZT := hide ZT0
  have kk : w.heap.size ≤ w.heap.size + 1 + 1 := by omega
  have HM : Hid (doM ⟨regs, pc, mem, save, lets, waits, halt, ins, outs, count⟩ 1 d a k = setM ⟨regs, pc, mem, save, lets, waits, halt, ins, outs, count⟩ d k) := show _ = _ by unfold doM; simp
  have H := hide HX
  clear h HX ex ey ZT0 e1 bX rw_ fx fy
  simp only [mv] at *
  go_enter Tryz.func39, Tryz.ntmps39
  go_wp2_with fail
  refine (l3Set _ d k lo _ _ H.out ld lr c0 c1 p0 p1).mono ?_
  rintro e u ⟨c', rfl, Cu, hi⟩
  obtain ⟨f1, g1, h1, f2, g2, h2, f3, g3, h3, f4, h4, rfl⟩ := forms Cu
  have Zu := Rec.ints T.out.o ZT.out mach_int hi
  have ZTu := hide (ZT.out.ints mach_int hi)
  have Bu := hide ((Ints.of_below (lo := lo) T.out.bw).trans hi)
  have CU := hide Cu
  have z0 := Zu.cell 0 _ rfl
  have y0 := Zu.soft 0
  have z1 := Zu.cell 1 _ rfl
  have y1 := Zu.soft 1
  have z2 := Zu.cell 2 _ rfl
  have y2 := Zu.soft 2
  have z3 := Zu.cell 3 _ rfl
  have y3 := Zu.soft 3
  have z4 := Zu.cell 4 _ rfl
  have y4 := Zu.soft 4
  have z5 := Zu.cell 5 _ rfl
  have y5 := Zu.soft 5
  have z6 := Zu.cell 6 _ rfl
  have y6 := Zu.soft 6
  have z7 := Zu.cell 7 _ rfl
  have y7 := Zu.soft 7
  have z8 := Zu.cell 8 _ rfl
  have y8 := Zu.soft 8
  have z9 := Zu.cell 9 _ rfl
  have y9 := Zu.soft 9
  clear T H ZT hi Zu Cu cx cy
  simp only [mv, setM, nextM] at *
  go_wp2
  exact bodyPost_ret (v := .agg #[.slice (some ⟨f1, g1, none⟩) (regs.set d k).length h1, .int .i64 ((pc + 1) % 65536), .slice (some ⟨f2, g2, none⟩) mem.length h2, .int .i64 save, .bool lets, .bool waits, .int .i64 halt, .slice (some ⟨f3, g3, none⟩) ins.length h3, .slice (some ⟨f4, 0, none⟩) outs.length h4, .int .i64 (count + 1)]) (by simp [results, Tryz.results39, go_sem, z0, z1, z2, z3, z4, z5, z6, z7, z8, z9]) rfl ⟨_, rfl, by rw [HM.out]; exact CU.out.ten ZTu.out mach_int _ _ _ _ _ _ _ _ _ _, ints_ten Bu.out kk _ _ _ _ _ _ _ _ _ _⟩
set_option maxRecDepth 8000 in
set_option maxHeartbeats 4000000 in
theorem l3Do_2 (m : M) (d a : Nat) (k : Int) (lo : Nat) (c : List Value) (w : World) (h : CMach w lo c m) (hf : Fit m) (hd : d < 4) (ha : a < 4) :
    Calls Tryz.prog 39 #[.agg c.toArray, .agg #[.int .i64 2, .int .i64 d, .int .i64 a, .int .i64 k]] w fun e w' => ∃ c', e = .returned (.agg c'.toArray) ∧ CMach w' lo c' (doM m 2 d a k) ∧ Ints lo w w' := by
  obtain ⟨b1, o1, k1, b2, o2, k2, b3, o3, k3, b4, k4, rfl⟩ := forms h
  obtain ⟨regs, pc, mem, save, lets, waits, halt, ins, outs, count⟩ := m
  obtain ⟨r4, m64, rw_, mw_, p0, p1, c0, c1⟩ := hf
  have la : a < regs.length := by rw [show regs.length = 4 from r4]; exact ha
  have ld : d < regs.length := by rw [show regs.length = 4 from r4]; exact hd
  have lr : regs.length ≤ 1000 := by rw [show regs.length = 4 from r4]; omega
  have la' : ((a : Nat) : Int) < (regs.length : Int) := by omega
  have ld' : ((d : Nat) : Int) < (regs.length : Int) := by omega
  have R4 := hide r4
  clear r4 m64 mw_
  have bX : Below w.heap.size w (((w.alloc (.cells #[.slice (some ⟨b1, o1, none⟩) regs.length k1, .int .i64 pc, .slice (some ⟨b2, o2, none⟩) mem.length k2, .int .i64 save, .bool lets, .bool waits, .int .i64 halt, .slice (some ⟨b3, o3, none⟩) ins.length k3, .slice (some ⟨b4, 0, none⟩) outs.length k4, .int .i64 count] 25)).alloc (.cells #[.int .i64 2, .int .i64 d, .int .i64 a, .int .i64 k] 38)).alloc (.cells #[.slice none 0 0, .int .i64 0, .slice none 0 0, .int .i64 0, .bool false, .bool false, .int .i64 0, .slice none 0 0, .slice none 0 0, .int .i64 0] 25)) := (((Below.refl _ _).alloc (Nat.le_refl _) _).alloc (by simp) _).alloc (by simp; omega) _
  have HX := h.below bX
  obtain ⟨x, ex⟩ : ∃ x, regs[a]? = some x := ⟨_, List.getElem?_eq_getElem la⟩
  obtain ⟨y, ey⟩ : ∃ y, regs[d]? = some y := ⟨_, List.getElem?_eq_getElem ld⟩
  have bx := rw_ a x ex
  have by_ := rw_ d y ey
  obtain ⟨cx, fx⟩ := row_at HX.parts.1 ex
  obtain ⟨cy, fy⟩ := row_at HX.parts.1 ey
  have GX := hide (getD_of ex)
  have GY := hide (getD_of ey)
  have T := hide (Three.new w [.slice (some ⟨b1, o1, none⟩) regs.length k1, .int .i64 pc, .slice (some ⟨b2, o2, none⟩) mem.length k2, .int .i64 save, .bool lets, .bool waits, .int .i64 halt, .slice (some ⟨b3, o3, none⟩) ins.length k3, .slice (some ⟨b4, 0, none⟩) outs.length k4, .int .i64 count] [.int .i64 2, .int .i64 d, .int .i64 a, .int .i64 k] [.slice none 0 0, .int .i64 0, .slice none 0 0, .int .i64 0, .bool false, .bool false, .int .i64 0, .slice none 0 0, .slice none 0 0, .int .i64 0] 25 38 25)
  have ZT0 := IsT.new ((w.alloc (.cells #[.slice (some ⟨b1, o1, none⟩) regs.length k1, .int .i64 pc, .slice (some ⟨b2, o2, none⟩) mem.length k2, .int .i64 save, .bool lets, .bool waits, .int .i64 halt, .slice (some ⟨b3, o3, none⟩) ins.length k3, .slice (some ⟨b4, 0, none⟩) outs.length k4, .int .i64 count] 25)).alloc (.cells #[.int .i64 2, .int .i64 d, .int .i64 a, .int .i64 k] 38)) #[.slice none 0 0, .int .i64 0, .slice none 0 0, .int .i64 0, .bool false, .bool false, .int .i64 0, .slice none 0 0, .slice none 0 0, .int .i64 0] 25
  have e1 : ((w.alloc (.cells #[.slice (some ⟨b1, o1, none⟩) regs.length k1, .int .i64 pc, .slice (some ⟨b2, o2, none⟩) mem.length k2, .int .i64 save, .bool lets, .bool waits, .int .i64 halt, .slice (some ⟨b3, o3, none⟩) ins.length k3, .slice (some ⟨b4, 0, none⟩) outs.length k4, .int .i64 count] 25)).alloc (.cells #[.int .i64 2, .int .i64 d, .int .i64 a, .int .i64 k] 38)).heap.size = w.heap.size + 1 + 1 := by simp
  rw [e1] at ZT0
  have ZT := hide ZT0
  have kk : w.heap.size ≤ w.heap.size + 1 + 1 := by omega
  have HM : Hid (doM ⟨regs, pc, mem, save, lets, waits, halt, ins, outs, count⟩ 2 d a k = setM ⟨regs, pc, mem, save, lets, waits, halt, ins, outs, count⟩ d x) := show _ = _ by unfold doM; simp; rw [← List.getD_eq_getElem?_getD, GX.out]
  have H := hide HX
  clear h HX ex ey ZT0 e1 bX rw_ fx fy
  simp only [mv] at *
  go_enter Tryz.func39, Tryz.ntmps39
  go_wp2_with fail
  refine (l3Set _ d x lo _ _ H.out ld lr c0 c1 p0 p1).mono ?_
  rintro e u ⟨c', rfl, Cu, hi⟩
  obtain ⟨f1, g1, h1, f2, g2, h2, f3, g3, h3, f4, h4, rfl⟩ := forms Cu
  have Zu := Rec.ints T.out.o ZT.out mach_int hi
  have ZTu := hide (ZT.out.ints mach_int hi)
  have Bu := hide ((Ints.of_below (lo := lo) T.out.bw).trans hi)
  have CU := hide Cu
  have z0 := Zu.cell 0 _ rfl
  have y0 := Zu.soft 0
  have z1 := Zu.cell 1 _ rfl
  have y1 := Zu.soft 1
  have z2 := Zu.cell 2 _ rfl
  have y2 := Zu.soft 2
  have z3 := Zu.cell 3 _ rfl
  have y3 := Zu.soft 3
  have z4 := Zu.cell 4 _ rfl
  have y4 := Zu.soft 4
  have z5 := Zu.cell 5 _ rfl
  have y5 := Zu.soft 5
  have z6 := Zu.cell 6 _ rfl
  have y6 := Zu.soft 6
  have z7 := Zu.cell 7 _ rfl
  have y7 := Zu.soft 7
  have z8 := Zu.cell 8 _ rfl
  have y8 := Zu.soft 8
  have z9 := Zu.cell 9 _ rfl
  have y9 := Zu.soft 9
  clear T H ZT hi Zu Cu cx cy
  simp only [mv, setM, nextM] at *
  go_wp2
  exact bodyPost_ret (v := .agg #[.slice (some ⟨f1, g1, none⟩) (regs.set d x).length h1, .int .i64 ((pc + 1) % 65536), .slice (some ⟨f2, g2, none⟩) mem.length h2, .int .i64 save, .bool lets, .bool waits, .int .i64 halt, .slice (some ⟨f3, g3, none⟩) ins.length h3, .slice (some ⟨f4, 0, none⟩) outs.length h4, .int .i64 (count + 1)]) (by simp [results, Tryz.results39, go_sem, z0, z1, z2, z3, z4, z5, z6, z7, z8, z9]) rfl ⟨_, rfl, by rw [HM.out]; exact CU.out.ten ZTu.out mach_int _ _ _ _ _ _ _ _ _ _, ints_ten Bu.out kk _ _ _ _ _ _ _ _ _ _⟩
set_option maxRecDepth 8000 in
set_option maxHeartbeats 4000000 in
theorem l3Do_13 (m : M) (d a : Nat) (k : Int) (lo : Nat) (c : List Value) (w : World) (h : CMach w lo c m) (hf : Fit m) (hd : d < 4) (ha : a < 4) :
    Calls Tryz.prog 39 #[.agg c.toArray, .agg #[.int .i64 13, .int .i64 d, .int .i64 a, .int .i64 k]] w fun e w' => ∃ c', e = .returned (.agg c'.toArray) ∧ CMach w' lo c' (doM m 13 d a k) ∧ Ints lo w w' := by
  obtain ⟨b1, o1, k1, b2, o2, k2, b3, o3, k3, b4, k4, rfl⟩ := forms h
  obtain ⟨regs, pc, mem, save, lets, waits, halt, ins, outs, count⟩ := m
  obtain ⟨r4, m64, rw_, mw_, p0, p1, c0, c1⟩ := hf
  have la : a < regs.length := by rw [show regs.length = 4 from r4]; exact ha
  have ld : d < regs.length := by rw [show regs.length = 4 from r4]; exact hd
  have lr : regs.length ≤ 1000 := by rw [show regs.length = 4 from r4]; omega
  have la' : ((a : Nat) : Int) < (regs.length : Int) := by omega
  have ld' : ((d : Nat) : Int) < (regs.length : Int) := by omega
  have R4 := hide r4
  clear r4 m64 mw_
  have bX : Below w.heap.size w (((w.alloc (.cells #[.slice (some ⟨b1, o1, none⟩) regs.length k1, .int .i64 pc, .slice (some ⟨b2, o2, none⟩) mem.length k2, .int .i64 save, .bool lets, .bool waits, .int .i64 halt, .slice (some ⟨b3, o3, none⟩) ins.length k3, .slice (some ⟨b4, 0, none⟩) outs.length k4, .int .i64 count] 25)).alloc (.cells #[.int .i64 13, .int .i64 d, .int .i64 a, .int .i64 k] 38)).alloc (.cells #[.slice none 0 0, .int .i64 0, .slice none 0 0, .int .i64 0, .bool false, .bool false, .int .i64 0, .slice none 0 0, .slice none 0 0, .int .i64 0] 25)) := (((Below.refl _ _).alloc (Nat.le_refl _) _).alloc (by simp) _).alloc (by simp; omega) _
  have HX := h.below bX
  obtain ⟨x, ex⟩ : ∃ x, regs[a]? = some x := ⟨_, List.getElem?_eq_getElem la⟩
  obtain ⟨y, ey⟩ : ∃ y, regs[d]? = some y := ⟨_, List.getElem?_eq_getElem ld⟩
  have bx := rw_ a x ex
  have by_ := rw_ d y ey
  obtain ⟨cx, fx⟩ := row_at HX.parts.1 ex
  obtain ⟨cy, fy⟩ := row_at HX.parts.1 ey
  have GX := hide (getD_of ex)
  have GY := hide (getD_of ey)
  have T := hide (Three.new w [.slice (some ⟨b1, o1, none⟩) regs.length k1, .int .i64 pc, .slice (some ⟨b2, o2, none⟩) mem.length k2, .int .i64 save, .bool lets, .bool waits, .int .i64 halt, .slice (some ⟨b3, o3, none⟩) ins.length k3, .slice (some ⟨b4, 0, none⟩) outs.length k4, .int .i64 count] [.int .i64 13, .int .i64 d, .int .i64 a, .int .i64 k] [.slice none 0 0, .int .i64 0, .slice none 0 0, .int .i64 0, .bool false, .bool false, .int .i64 0, .slice none 0 0, .slice none 0 0, .int .i64 0] 25 38 25)
  have ZT0 := IsT.new ((w.alloc (.cells #[.slice (some ⟨b1, o1, none⟩) regs.length k1, .int .i64 pc, .slice (some ⟨b2, o2, none⟩) mem.length k2, .int .i64 save, .bool lets, .bool waits, .int .i64 halt, .slice (some ⟨b3, o3, none⟩) ins.length k3, .slice (some ⟨b4, 0, none⟩) outs.length k4, .int .i64 count] 25)).alloc (.cells #[.int .i64 13, .int .i64 d, .int .i64 a, .int .i64 k] 38)) #[.slice none 0 0, .int .i64 0, .slice none 0 0, .int .i64 0, .bool false, .bool false, .int .i64 0, .slice none 0 0, .slice none 0 0, .int .i64 0] 25
  have e1 : ((w.alloc (.cells #[.slice (some ⟨b1, o1, none⟩) regs.length k1, .int .i64 pc, .slice (some ⟨b2, o2, none⟩) mem.length k2, .int .i64 save, .bool lets, .bool waits, .int .i64 halt, .slice (some ⟨b3, o3, none⟩) ins.length k3, .slice (some ⟨b4, 0, none⟩) outs.length k4, .int .i64 count] 25)).alloc (.cells #[.int .i64 13, .int .i64 d, .int .i64 a, .int .i64 k] 38)).heap.size = w.heap.size + 1 + 1 := by simp
  rw [e1] at ZT0
  have ZT := hide ZT0
  have kk : w.heap.size ≤ w.heap.size + 1 + 1 := by omega
  have HM : Hid (doM ⟨regs, pc, mem, save, lets, waits, halt, ins, outs, count⟩ 13 d a k = ⟨regs, x % 65536, mem, save, lets, waits, halt, ins, outs, count + 1⟩) := show _ = _ by unfold doM nextM; simp; rw [← List.getD_eq_getElem?_getD, GX.out]
  have H := hide HX
  clear h HX ex ey ZT0 e1 bX rw_ fx fy
  simp only [mv] at *
  go_enter Tryz.func39, Tryz.ntmps39
  go_wp2_with fail
  refine (l3Next _ _ _ _ _ _ _ _ _ _ _ _ _ _ _ _ _ _ x _ c0 c1).mono ?_
  rintro e u ⟨rfl, hb⟩
  have hi := Ints.of_below (lo := lo) hb
  have Cu := CMach.plain (pc' := x % 65536) (save' := save) (halt' := halt) (count' := count + 1) (lets' := lets) (waits' := waits) (H.out.below hb)
  clear hb
  have Zu := Rec.ints T.out.o ZT.out mach_int hi
  have ZTu := hide (ZT.out.ints mach_int hi)
  have Bu := hide ((Ints.of_below (lo := lo) T.out.bw).trans hi)
  have CU := hide Cu
  have z0 := Zu.cell 0 _ rfl
  have y0 := Zu.soft 0
  have z1 := Zu.cell 1 _ rfl
  have y1 := Zu.soft 1
  have z2 := Zu.cell 2 _ rfl
  have y2 := Zu.soft 2
  have z3 := Zu.cell 3 _ rfl
  have y3 := Zu.soft 3
  have z4 := Zu.cell 4 _ rfl
  have y4 := Zu.soft 4
  have z5 := Zu.cell 5 _ rfl
  have y5 := Zu.soft 5
  have z6 := Zu.cell 6 _ rfl
  have y6 := Zu.soft 6
  have z7 := Zu.cell 7 _ rfl
  have y7 := Zu.soft 7
  have z8 := Zu.cell 8 _ rfl
  have y8 := Zu.soft 8
  have z9 := Zu.cell 9 _ rfl
  have y9 := Zu.soft 9
  clear T H ZT hi Zu Cu cx cy
  simp only [mv] at *
  go_wp2
  exact bodyPost_ret (v := .agg #[.slice (some ⟨b1, o1, none⟩) regs.length k1, .int .i64 (x % 65536), .slice (some ⟨b2, o2, none⟩) mem.length k2, .int .i64 save, .bool lets, .bool waits, .int .i64 halt, .slice (some ⟨b3, o3, none⟩) ins.length k3, .slice (some ⟨b4, 0, none⟩) outs.length k4, .int .i64 (count + 1)]) (by simp [results, Tryz.results39, go_sem, z0, z1, z2, z3, z4, z5, z6, z7, z8, z9]) rfl ⟨_, rfl, by rw [HM.out]; exact CU.out.ten ZTu.out mach_int _ _ _ _ _ _ _ _ _ _, ints_ten Bu.out kk _ _ _ _ _ _ _ _ _ _⟩
set_option maxRecDepth 8000 in
set_option maxHeartbeats 4000000 in
theorem l3Do_11t (m : M) (d a : Nat) (k : Int) (lo : Nat) (c : List Value) (w : World) (h : CMach w lo c m) (hf : Fit m) (hd : d < 4) (ha : a < 4) (hq : m.regs.getD d 0 = m.regs.getD a 0) :
    Calls Tryz.prog 39 #[.agg c.toArray, .agg #[.int .i64 11, .int .i64 d, .int .i64 a, .int .i64 k]] w fun e w' => ∃ c', e = .returned (.agg c'.toArray) ∧ CMach w' lo c' (doM m 11 d a k) ∧ Ints lo w w' := by
  obtain ⟨b1, o1, k1, b2, o2, k2, b3, o3, k3, b4, k4, rfl⟩ := forms h
  obtain ⟨regs, pc, mem, save, lets, waits, halt, ins, outs, count⟩ := m
  obtain ⟨r4, m64, rw_, mw_, p0, p1, c0, c1⟩ := hf
  have la : a < regs.length := by rw [show regs.length = 4 from r4]; exact ha
  have ld : d < regs.length := by rw [show regs.length = 4 from r4]; exact hd
  have lr : regs.length ≤ 1000 := by rw [show regs.length = 4 from r4]; omega
  have la' : ((a : Nat) : Int) < (regs.length : Int) := by omega
  have ld' : ((d : Nat) : Int) < (regs.length : Int) := by omega
  have R4 := hide r4
  clear r4 m64 mw_
  have bX : Below w.heap.size w (((w.alloc (.cells #[.slice (some ⟨b1, o1, none⟩) regs.length k1, .int .i64 pc, .slice (some ⟨b2, o2, none⟩) mem.length k2, .int .i64 save, .bool lets, .bool waits, .int .i64 halt, .slice (some ⟨b3, o3, none⟩) ins.length k3, .slice (some ⟨b4, 0, none⟩) outs.length k4, .int .i64 count] 25)).alloc (.cells #[.int .i64 11, .int .i64 d, .int .i64 a, .int .i64 k] 38)).alloc (.cells #[.slice none 0 0, .int .i64 0, .slice none 0 0, .int .i64 0, .bool false, .bool false, .int .i64 0, .slice none 0 0, .slice none 0 0, .int .i64 0] 25)) := (((Below.refl _ _).alloc (Nat.le_refl _) _).alloc (by simp) _).alloc (by simp; omega) _
  have HX := h.below bX
  obtain ⟨x, ex⟩ : ∃ x, regs[a]? = some x := ⟨_, List.getElem?_eq_getElem la⟩
  obtain ⟨y, ey⟩ : ∃ y, regs[d]? = some y := ⟨_, List.getElem?_eq_getElem ld⟩
  have bx := rw_ a x ex
  have by_ := rw_ d y ey
  obtain ⟨cx, fx⟩ := row_at HX.parts.1 ex
  obtain ⟨cy, fy⟩ := row_at HX.parts.1 ey
  have GX := hide (getD_of ex)
  have GY := hide (getD_of ey)
  have T := hide (Three.new w [.slice (some ⟨b1, o1, none⟩) regs.length k1, .int .i64 pc, .slice (some ⟨b2, o2, none⟩) mem.length k2, .int .i64 save, .bool lets, .bool waits, .int .i64 halt, .slice (some ⟨b3, o3, none⟩) ins.length k3, .slice (some ⟨b4, 0, none⟩) outs.length k4, .int .i64 count] [.int .i64 11, .int .i64 d, .int .i64 a, .int .i64 k] [.slice none 0 0, .int .i64 0, .slice none 0 0, .int .i64 0, .bool false, .bool false, .int .i64 0, .slice none 0 0, .slice none 0 0, .int .i64 0] 25 38 25)
  have ZT0 := IsT.new ((w.alloc (.cells #[.slice (some ⟨b1, o1, none⟩) regs.length k1, .int .i64 pc, .slice (some ⟨b2, o2, none⟩) mem.length k2, .int .i64 save, .bool lets, .bool waits, .int .i64 halt, .slice (some ⟨b3, o3, none⟩) ins.length k3, .slice (some ⟨b4, 0, none⟩) outs.length k4, .int .i64 count] 25)).alloc (.cells #[.int .i64 11, .int .i64 d, .int .i64 a, .int .i64 k] 38)) #[.slice none 0 0, .int .i64 0, .slice none 0 0, .int .i64 0, .bool false, .bool false, .int .i64 0, .slice none 0 0, .slice none 0 0, .int .i64 0] 25
  have e1 : ((w.alloc (.cells #[.slice (some ⟨b1, o1, none⟩) regs.length k1, .int .i64 pc, .slice (some ⟨b2, o2, none⟩) mem.length k2, .int .i64 save, .bool lets, .bool waits, .int .i64 halt, .slice (some ⟨b3, o3, none⟩) ins.length k3, .slice (some ⟨b4, 0, none⟩) outs.length k4, .int .i64 count] 25)).alloc (.cells #[.int .i64 11, .int .i64 d, .int .i64 a, .int .i64 k] 38)).heap.size = w.heap.size + 1 + 1 := by simp
  rw [e1] at ZT0
  have ZT := hide ZT0
  have kk : w.heap.size ≤ w.heap.size + 1 + 1 := by omega
  have HM : Hid (doM ⟨regs, pc, mem, save, lets, waits, halt, ins, outs, count⟩ 11 d a k = ⟨regs, k % 65536, mem, save, lets, waits, halt, ins, outs, count + 1⟩) := show _ = _ by unfold doM nextM; simp only []; rw [if_neg (by decide), if_neg (by decide), if_neg (by decide), if_neg (by decide), if_neg (by decide), if_pos trivial, if_pos hq]
  simp only [] at hq
  rw [GX.out, GY.out] at hq
  have tq : (y == x) = true := by simpa using hq
  have H := hide HX
  clear h HX ex ey ZT0 e1 bX rw_ fx fy
  simp only [mv] at *
  go_enter Tryz.func39, Tryz.ntmps39
  go_wp2_with fail
  refine (l3Next _ _ _ _ _ _ _ _ _ _ _ _ _ _ _ _ _ _ k _ c0 c1).mono ?_
  rintro e u ⟨rfl, hb⟩
  have hi := Ints.of_below (lo := lo) hb
  have Cu := CMach.plain (pc' := k % 65536) (save' := save) (halt' := halt) (count' := count + 1) (lets' := lets) (waits' := waits) (H.out.below hb)
  clear hb
  have Zu := Rec.ints T.out.o ZT.out mach_int hi
  have ZTu := hide (ZT.out.ints mach_int hi)
  have Bu := hide ((Ints.of_below (lo := lo) T.out.bw).trans hi)
  have CU := hide Cu
  have z0 := Zu.cell 0 _ rfl
  have y0 := Zu.soft 0
  have z1 := Zu.cell 1 _ rfl
  have y1 := Zu.soft 1
  have z2 := Zu.cell 2 _ rfl
  have y2 := Zu.soft 2
  have z3 := Zu.cell 3 _ rfl
  have y3 := Zu.soft 3
  have z4 := Zu.cell 4 _ rfl
  have y4 := Zu.soft 4
  have z5 := Zu.cell 5 _ rfl
  have y5 := Zu.soft 5
  have z6 := Zu.cell 6 _ rfl
  have y6 := Zu.soft 6
  have z7 := Zu.cell 7 _ rfl
  have y7 := Zu.soft 7
  have z8 := Zu.cell 8 _ rfl
  have y8 := Zu.soft 8
  have z9 := Zu.cell 9 _ rfl
  have y9 := Zu.soft 9
  clear T H ZT hi Zu Cu cx cy
  simp only [mv] at *
  go_wp2
  exact bodyPost_ret (v := .agg #[.slice (some ⟨b1, o1, none⟩) regs.length k1, .int .i64 (k % 65536), .slice (some ⟨b2, o2, none⟩) mem.length k2, .int .i64 save, .bool lets, .bool waits, .int .i64 halt, .slice (some ⟨b3, o3, none⟩) ins.length k3, .slice (some ⟨b4, 0, none⟩) outs.length k4, .int .i64 (count + 1)]) (by simp [results, Tryz.results39, go_sem, z0, z1, z2, z3, z4, z5, z6, z7, z8, z9]) rfl ⟨_, rfl, by rw [HM.out]; exact CU.out.ten ZTu.out mach_int _ _ _ _ _ _ _ _ _ _, ints_ten Bu.out kk _ _ _ _ _ _ _ _ _ _⟩
set_option maxRecDepth 8000 in
set_option maxHeartbeats 4000000 in
theorem l3Do_11f (m : M) (d a : Nat) (k : Int) (lo : Nat) (c : List Value) (w : World) (h : CMach w lo c m) (hf : Fit m) (hd : d < 4) (ha : a < 4) (hq : ¬ m.regs.getD d 0 = m.regs.getD a 0) :
    Calls Tryz.prog 39 #[.agg c.toArray, .agg #[.int .i64 11, .int .i64 d, .int .i64 a, .int .i64 k]] w fun e w' => ∃ c', e = .returned (.agg c'.toArray) ∧ CMach w' lo c' (doM m 11 d a k) ∧ Ints lo w w' := by
  obtain ⟨b1, o1, k1, b2, o2, k2, b3, o3, k3, b4, k4, rfl⟩ := forms h
  obtain ⟨regs, pc, mem, save, lets, waits, halt, ins, outs, count⟩ := m
  obtain ⟨r4, m64, rw_, mw_, p0, p1, c0, c1⟩ := hf
  have la : a < regs.length := by rw [show regs.length = 4 from r4]; exact ha
  have ld : d < regs.length := by rw [show regs.length = 4 from r4]; exact hd
  have lr : regs.length ≤ 1000 := by rw [show regs.length = 4 from r4]; omega
  have la' : ((a : Nat) : Int) < (regs.length : Int) := by omega
  have ld' : ((d : Nat) : Int) < (regs.length : Int) := by omega
  have R4 := hide r4
  clear r4 m64 mw_
  have bX : Below w.heap.size w (((w.alloc (.cells #[.slice (some ⟨b1, o1, none⟩) regs.length k1, .int .i64 pc, .slice (some ⟨b2, o2, none⟩) mem.length k2, .int .i64 save, .bool lets, .bool waits, .int .i64 halt, .slice (some ⟨b3, o3, none⟩) ins.length k3, .slice (some ⟨b4, 0, none⟩) outs.length k4, .int .i64 count] 25)).alloc (.cells #[.int .i64 11, .int .i64 d, .int .i64 a, .int .i64 k] 38)).alloc (.cells #[.slice none 0 0, .int .i64 0, .slice none 0 0, .int .i64 0, .bool false, .bool false, .int .i64 0, .slice none 0 0, .slice none 0 0, .int .i64 0] 25)) := (((Below.refl _ _).alloc (Nat.le_refl _) _).alloc (by simp) _).alloc (by simp; omega) _
  have HX := h.below bX
  obtain ⟨x, ex⟩ : ∃ x, regs[a]? = some x := ⟨_, List.getElem?_eq_getElem la⟩
  obtain ⟨y, ey⟩ : ∃ y, regs[d]? = some y := ⟨_, List.getElem?_eq_getElem ld⟩
  have bx := rw_ a x ex
  have by_ := rw_ d y ey
  obtain ⟨cx, fx⟩ := row_at HX.parts.1 ex
  obtain ⟨cy, fy⟩ := row_at HX.parts.1 ey
  have GX := hide (getD_of ex)
  have GY := hide (getD_of ey)
  have T := hide (Three.new w [.slice (some ⟨b1, o1, none⟩) regs.length k1, .int .i64 pc, .slice (some ⟨b2, o2, none⟩) mem.length k2, .int .i64 save, .bool lets, .bool waits, .int .i64 halt, .slice (some ⟨b3, o3, none⟩) ins.length k3, .slice (some ⟨b4, 0, none⟩) outs.length k4, .int .i64 count] [.int .i64 11, .int .i64 d, .int .i64 a, .int .i64 k] [.slice none 0 0, .int .i64 0, .slice none 0 0, .int .i64 0, .bool false, .bool false, .int .i64 0, .slice none 0 0, .slice none 0 0, .int .i64 0] 25 38 25)
  have ZT0 := IsT.new ((w.alloc (.cells #[.slice (some ⟨b1, o1, none⟩) regs.length k1, .int .i64 pc, .slice (some ⟨b2, o2, none⟩) mem.length k2, .int .i64 save, .bool lets, .bool waits, .int .i64 halt, .slice (some ⟨b3, o3, none⟩) ins.length k3, .slice (some ⟨b4, 0, none⟩) outs.length k4, .int .i64 count] 25)).alloc (.cells #[.int .i64 11, .int .i64 d, .int .i64 a, .int .i64 k] 38)) #[.slice none 0 0, .int .i64 0, .slice none 0 0, .int .i64 0, .bool false, .bool false, .int .i64 0, .slice none 0 0, .slice none 0 0, .int .i64 0] 25
  have e1 : ((w.alloc (.cells #[.slice (some ⟨b1, o1, none⟩) regs.length k1, .int .i64 pc, .slice (some ⟨b2, o2, none⟩) mem.length k2, .int .i64 save, .bool lets, .bool waits, .int .i64 halt, .slice (some ⟨b3, o3, none⟩) ins.length k3, .slice (some ⟨b4, 0, none⟩) outs.length k4, .int .i64 count] 25)).alloc (.cells #[.int .i64 11, .int .i64 d, .int .i64 a, .int .i64 k] 38)).heap.size = w.heap.size + 1 + 1 := by simp
  rw [e1] at ZT0
  have ZT := hide ZT0
  have kk : w.heap.size ≤ w.heap.size + 1 + 1 := by omega
  have HM : Hid (doM ⟨regs, pc, mem, save, lets, waits, halt, ins, outs, count⟩ 11 d a k = ⟨regs, (pc + 1) % 65536, mem, save, lets, waits, halt, ins, outs, count + 1⟩) := show _ = _ by unfold doM nextM; simp only []; rw [if_neg (by decide), if_neg (by decide), if_neg (by decide), if_neg (by decide), if_neg (by decide), if_pos trivial, if_neg hq]
  simp only [] at hq
  rw [GX.out, GY.out] at hq
  have tq : (y == x) = false := by simpa using hq
  have H := hide HX
  clear h HX ex ey ZT0 e1 bX rw_ fx fy
  simp only [mv] at *
  go_enter Tryz.func39, Tryz.ntmps39
  go_wp2_with fail
  refine (l3Next _ _ _ _ _ _ _ _ _ _ _ _ _ _ _ _ _ _ (pc + 1) _ c0 c1).mono ?_
  rintro e u ⟨rfl, hb⟩
  have hi := Ints.of_below (lo := lo) hb
  have Cu := CMach.plain (pc' := (pc + 1) % 65536) (save' := save) (halt' := halt) (count' := count + 1) (lets' := lets) (waits' := waits) (H.out.below hb)
  clear hb
  have Zu := Rec.ints T.out.o ZT.out mach_int hi
  have ZTu := hide (ZT.out.ints mach_int hi)
  have Bu := hide ((Ints.of_below (lo := lo) T.out.bw).trans hi)
  have CU := hide Cu
  have z0 := Zu.cell 0 _ rfl
  have y0 := Zu.soft 0
  have z1 := Zu.cell 1 _ rfl
  have y1 := Zu.soft 1
  have z2 := Zu.cell 2 _ rfl
  have y2 := Zu.soft 2
  have z3 := Zu.cell 3 _ rfl
  have y3 := Zu.soft 3
  have z4 := Zu.cell 4 _ rfl
  have y4 := Zu.soft 4
  have z5 := Zu.cell 5 _ rfl
  have y5 := Zu.soft 5
  have z6 := Zu.cell 6 _ rfl
  have y6 := Zu.soft 6
  have z7 := Zu.cell 7 _ rfl
  have y7 := Zu.soft 7
  have z8 := Zu.cell 8 _ rfl
  have y8 := Zu.soft 8
  have z9 := Zu.cell 9 _ rfl
  have y9 := Zu.soft 9
  clear T H ZT hi Zu Cu cx cy
  simp only [mv] at *
  go_wp2
  exact bodyPost_ret (v := .agg #[.slice (some ⟨b1, o1, none⟩) regs.length k1, .int .i64 ((pc + 1) % 65536), .slice (some ⟨b2, o2, none⟩) mem.length k2, .int .i64 save, .bool lets, .bool waits, .int .i64 halt, .slice (some ⟨b3, o3, none⟩) ins.length k3, .slice (some ⟨b4, 0, none⟩) outs.length k4, .int .i64 (count + 1)]) (by simp [results, Tryz.results39, go_sem, z0, z1, z2, z3, z4, z5, z6, z7, z8, z9]) rfl ⟨_, rfl, by rw [HM.out]; exact CU.out.ten ZTu.out mach_int _ _ _ _ _ _ _ _ _ _, ints_ten Bu.out kk _ _ _ _ _ _ _ _ _ _⟩
set_option maxRecDepth 8000 in
set_option maxHeartbeats 4000000 in
theorem l3Do_12t (m : M) (d a : Nat) (k : Int) (lo : Nat) (c : List Value) (w : World) (h : CMach w lo c m) (hf : Fit m) (hd : d < 4) (ha : a < 4) (hq : m.regs.getD d 0 < m.regs.getD a 0) :
    Calls Tryz.prog 39 #[.agg c.toArray, .agg #[.int .i64 12, .int .i64 d, .int .i64 a, .int .i64 k]] w fun e w' => ∃ c', e = .returned (.agg c'.toArray) ∧ CMach w' lo c' (doM m 12 d a k) ∧ Ints lo w w' := by
  obtain ⟨b1, o1, k1, b2, o2, k2, b3, o3, k3, b4, k4, rfl⟩ := forms h
  obtain ⟨regs, pc, mem, save, lets, waits, halt, ins, outs, count⟩ := m
  obtain ⟨r4, m64, rw_, mw_, p0, p1, c0, c1⟩ := hf
  have la : a < regs.length := by rw [show regs.length = 4 from r4]; exact ha
  have ld : d < regs.length := by rw [show regs.length = 4 from r4]; exact hd
  have lr : regs.length ≤ 1000 := by rw [show regs.length = 4 from r4]; omega
  have la' : ((a : Nat) : Int) < (regs.length : Int) := by omega
  have ld' : ((d : Nat) : Int) < (regs.length : Int) := by omega
  have R4 := hide r4
  clear r4 m64 mw_
  have bX : Below w.heap.size w (((w.alloc (.cells #[.slice (some ⟨b1, o1, none⟩) regs.length k1, .int .i64 pc, .slice (some ⟨b2, o2, none⟩) mem.length k2, .int .i64 save, .bool lets, .bool waits, .int .i64 halt, .slice (some ⟨b3, o3, none⟩) ins.length k3, .slice (some ⟨b4, 0, none⟩) outs.length k4, .int .i64 count] 25)).alloc (.cells #[.int .i64 12, .int .i64 d, .int .i64 a, .int .i64 k] 38)).alloc (.cells #[.slice none 0 0, .int .i64 0, .slice none 0 0, .int .i64 0, .bool false, .bool false, .int .i64 0, .slice none 0 0, .slice none 0 0, .int .i64 0] 25)) := (((Below.refl _ _).alloc (Nat.le_refl _) _).alloc (by simp) _).alloc (by simp; omega) _
  have HX := h.below bX
  obtain ⟨x, ex⟩ : ∃ x, regs[a]? = some x := ⟨_, List.getElem?_eq_getElem la⟩
  obtain ⟨y, ey⟩ : ∃ y, regs[d]? = some y := ⟨_, List.getElem?_eq_getElem ld⟩
  have bx := rw_ a x ex
  have by_ := rw_ d y ey
  obtain ⟨cx, fx⟩ := row_at HX.parts.1 ex
  obtain ⟨cy, fy⟩ := row_at HX.parts.1 ey
  have GX := hide (getD_of ex)
  have GY := hide (getD_of ey)
  have T := hide (Three.new w [.slice (some ⟨b1, o1, none⟩) regs.length k1, .int .i64 pc, .slice (some ⟨b2, o2, none⟩) mem.length k2, .int .i64 save, .bool lets, .bool waits, .int .i64 halt, .slice (some ⟨b3, o3, none⟩) ins.length k3, .slice (some ⟨b4, 0, none⟩) outs.length k4, .int .i64 count] [.int .i64 12, .int .i64 d, .int .i64 a, .int .i64 k] [.slice none 0 0, .int .i64 0, .slice none 0 0, .int .i64 0, .bool false, .bool false, .int .i64 0, .slice none 0 0, .slice none 0 0, .int .i64 0] 25 38 25)
  have ZT0 := IsT.new ((w.alloc (.cells #[.slice (some ⟨b1, o1, none⟩) regs.length k1, .int .i64 pc, .slice (some ⟨b2, o2, none⟩) mem.length k2, .int .i64 save, .bool lets, .bool waits, .int .i64 halt, .slice (some ⟨b3, o3, none⟩) ins.length k3, .slice (some ⟨b4, 0, none⟩) outs.length k4, .int .i64 count] 25)).alloc (.cells #[.int .i64 12, .int .i64 d, .int .i64 a, .int .i64 k] 38)) #[.slice none 0 0, .int .i64 0, .slice none 0 0, .int .i64 0, .bool false, .bool false, .int .i64 0, .slice none 0 0, .slice none 0 0, .int .i64 0] 25
  have e1 : ((w.alloc (.cells #[.slice (some ⟨b1, o1, none⟩) regs.length k1, .int .i64 pc, .slice (some ⟨b2, o2, none⟩) mem.length k2, .int .i64 save, .bool lets, .bool waits, .int .i64 halt, .slice (some ⟨b3, o3, none⟩) ins.length k3, .slice (some ⟨b4, 0, none⟩) outs.length k4, .int .i64 count] 25)).alloc (.cells #[.int .i64 12, .int .i64 d, .int .i64 a, .int .i64 k] 38)).heap.size = w.heap.size + 1 + 1 := by simp
  rw [e1] at ZT0
  have ZT := hide ZT0
  have kk : w.heap.size ≤ w.heap.size + 1 + 1 := by omega
  have HM : Hid (doM ⟨regs, pc, mem, save, lets, waits, halt, ins, outs, count⟩ 12 d a k = ⟨regs, k % 65536, mem, save, lets, waits, halt, ins, outs, count + 1⟩) := show _ = _ by unfold doM nextM; simp only []; rw [if_neg (by decide), if_neg (by decide), if_neg (by decide), if_neg (by decide), if_neg (by decide), if_neg (by decide), if_pos trivial, if_pos hq]
  simp only [] at hq
  rw [GX.out, GY.out] at hq
  have H := hide HX
  clear h HX ex ey ZT0 e1 bX rw_ fx fy
  simp only [mv] at *
  go_enter Tryz.func39, Tryz.ntmps39
  go_wp2_with fail
  refine (l3Next _ _ _ _ _ _ _ _ _ _ _ _ _ _ _ _ _ _ k _ c0 c1).mono ?_
  rintro e u ⟨rfl, hb⟩
  have hi := Ints.of_below (lo := lo) hb
  have Cu := CMach.plain (pc' := k % 65536) (save' := save) (halt' := halt) (count' := count + 1) (lets' := lets) (waits' := waits) (H.out.below hb)
  clear hb
  have Zu := Rec.ints T.out.o ZT.out mach_int hi
  have ZTu := hide (ZT.out.ints mach_int hi)
  have Bu := hide ((Ints.of_below (lo := lo) T.out.bw).trans hi)
  have CU := hide Cu
  have z0 := Zu.cell 0 _ rfl
  have y0 := Zu.soft 0
  have z1 := Zu.cell 1 _ rfl
  have y1 := Zu.soft 1
  have z2 := Zu.cell 2 _ rfl
  have y2 := Zu.soft 2
  have z3 := Zu.cell 3 _ rfl
  have y3 := Zu.soft 3
  have z4 := Zu.cell 4 _ rfl
  have y4 := Zu.soft 4
  have z5 := Zu.cell 5 _ rfl
  have y5 := Zu.soft 5
  have z6 := Zu.cell 6 _ rfl
  have y6 := Zu.soft 6
  have z7 := Zu.cell 7 _ rfl
  have y7 := Zu.soft 7
  have z8 := Zu.cell 8 _ rfl
  have y8 := Zu.soft 8
  have z9 := Zu.cell 9 _ rfl
  have y9 := Zu.soft 9
  clear T H ZT hi Zu Cu cx cy
  simp only [mv] at *
  go_wp2
  exact bodyPost_ret (v := .agg #[.slice (some ⟨b1, o1, none⟩) regs.length k1, .int .i64 (k % 65536), .slice (some ⟨b2, o2, none⟩) mem.length k2, .int .i64 save, .bool lets, .bool waits, .int .i64 halt, .slice (some ⟨b3, o3, none⟩) ins.length k3, .slice (some ⟨b4, 0, none⟩) outs.length k4, .int .i64 (count + 1)]) (by simp [results, Tryz.results39, go_sem, z0, z1, z2, z3, z4, z5, z6, z7, z8, z9]) rfl ⟨_, rfl, by rw [HM.out]; exact CU.out.ten ZTu.out mach_int _ _ _ _ _ _ _ _ _ _, ints_ten Bu.out kk _ _ _ _ _ _ _ _ _ _⟩
set_option maxRecDepth 8000 in
set_option maxHeartbeats 4000000 in
theorem l3Do_12f (m : M) (d a : Nat) (k : Int) (lo : Nat) (c : List Value) (w : World) (h : CMach w lo c m) (hf : Fit m) (hd : d < 4) (ha : a < 4) (hq : ¬ m.regs.getD d 0 < m.regs.getD a 0) :
    Calls Tryz.prog 39 #[.agg c.toArray, .agg #[.int .i64 12, .int .i64 d, .int .i64 a, .int .i64 k]] w fun e w' => ∃ c', e = .returned (.agg c'.toArray) ∧ CMach w' lo c' (doM m 12 d a k) ∧ Ints lo w w' := by
  obtain ⟨b1, o1, k1, b2, o2, k2, b3, o3, k3, b4, k4, rfl⟩ := forms h
  obtain ⟨regs, pc, mem, save, lets, waits, halt, ins, outs, count⟩ := m
  obtain ⟨r4, m64, rw_, mw_, p0, p1, c0, c1⟩ := hf
  have la : a < regs.length := by rw [show regs.length = 4 from r4]; exact ha
  have ld : d < regs.length := by rw [show regs.length = 4 from r4]; exact hd
  have lr : regs.length ≤ 1000 := by rw [show regs.length = 4 from r4]; omega
  have la' : ((a : Nat) : Int) < (regs.length : Int) := by omega
  have ld' : ((d : Nat) : Int) < (regs.length : Int) := by omega
  have R4 := hide r4
  clear r4 m64 mw_
  have bX : Below w.heap.size w (((w.alloc (.cells #[.slice (some ⟨b1, o1, none⟩) regs.length k1, .int .i64 pc, .slice (some ⟨b2, o2, none⟩) mem.length k2, .int .i64 save, .bool lets, .bool waits, .int .i64 halt, .slice (some ⟨b3, o3, none⟩) ins.length k3, .slice (some ⟨b4, 0, none⟩) outs.length k4, .int .i64 count] 25)).alloc (.cells #[.int .i64 12, .int .i64 d, .int .i64 a, .int .i64 k] 38)).alloc (.cells #[.slice none 0 0, .int .i64 0, .slice none 0 0, .int .i64 0, .bool false, .bool false, .int .i64 0, .slice none 0 0, .slice none 0 0, .int .i64 0] 25)) := (((Below.refl _ _).alloc (Nat.le_refl _) _).alloc (by simp) _).alloc (by simp; omega) _
  have HX := h.below bX
  obtain ⟨x, ex⟩ : ∃ x, regs[a]? = some x := ⟨_, List.getElem?_eq_getElem la⟩
  obtain ⟨y, ey⟩ : ∃ y, regs[d]? = some y := ⟨_, List.getElem?_eq_getElem ld⟩
  have bx := rw_ a x ex
  have by_ := rw_ d y ey
  obtain ⟨cx, fx⟩ := row_at HX.parts.1 ex
  obtain ⟨cy, fy⟩ := row_at HX.parts.1 ey
  have GX := hide (getD_of ex)
  have GY := hide (getD_of ey)
  have T := hide (Three.new w [.slice (some ⟨b1, o1, none⟩) regs.length k1, .int .i64 pc, .slice (some ⟨b2, o2, none⟩) mem.length k2, .int .i64 save, .bool lets, .bool waits, .int .i64 halt, .slice (some ⟨b3, o3, none⟩) ins.length k3, .slice (some ⟨b4, 0, none⟩) outs.length k4, .int .i64 count] [.int .i64 12, .int .i64 d, .int .i64 a, .int .i64 k] [.slice none 0 0, .int .i64 0, .slice none 0 0, .int .i64 0, .bool false, .bool false, .int .i64 0, .slice none 0 0, .slice none 0 0, .int .i64 0] 25 38 25)
  have ZT0 := IsT.new ((w.alloc (.cells #[.slice (some ⟨b1, o1, none⟩) regs.length k1, .int .i64 pc, .slice (some ⟨b2, o2, none⟩) mem.length k2, .int .i64 save, .bool lets, .bool waits, .int .i64 halt, .slice (some ⟨b3, o3, none⟩) ins.length k3, .slice (some ⟨b4, 0, none⟩) outs.length k4, .int .i64 count] 25)).alloc (.cells #[.int .i64 12, .int .i64 d, .int .i64 a, .int .i64 k] 38)) #[.slice none 0 0, .int .i64 0, .slice none 0 0, .int .i64 0, .bool false, .bool false, .int .i64 0, .slice none 0 0, .slice none 0 0, .int .i64 0] 25
  have e1 : ((w.alloc (.cells #[.slice (some ⟨b1, o1, none⟩) regs.length k1, .int .i64 pc, .slice (some ⟨b2, o2, none⟩) mem.length k2, .int .i64 save, .bool lets, .bool waits, .int .i64 halt, .slice (some ⟨b3, o3, none⟩) ins.length k3, .slice (some ⟨b4, 0, none⟩) outs.length k4, .int .i64 count] 25)).alloc (.cells #[.int .i64 12, .int .i64 d, .int .i64 a, .int .i64 k] 38)).heap.size = w.heap.size + 1 + 1 := by simp
  rw [e1] at ZT0
  have ZT := hide ZT0
  have kk : w.heap.size ≤ w.heap.size + 1 + 1 := by omega
  have HM : Hid (doM ⟨regs, pc, mem, save, lets, waits, halt, ins, outs, count⟩ 12 d a k = ⟨regs, (pc + 1) % 65536, mem, save, lets, waits, halt, ins, outs, count + 1⟩) := show _ = _ by unfold doM nextM; simp only []; rw [if_neg (by decide), if_neg (by decide), if_neg (by decide), if_neg (by decide), if_neg (by decide), if_neg (by decide), if_pos trivial, if_neg hq]
  simp only [] at hq
  rw [GX.out, GY.out] at hq
  have H := hide HX
  clear h HX ex ey ZT0 e1 bX rw_ fx fy
  simp only [mv] at *
  go_enter Tryz.func39, Tryz.ntmps39
  go_wp2_with fail
  refine (l3Next _ _ _ _ _ _ _ _ _ _ _ _ _ _ _ _ _ _ (pc + 1) _ c0 c1).mono ?_
  rintro e u ⟨rfl, hb⟩
  have hi := Ints.of_below (lo := lo) hb
  have Cu := CMach.plain (pc' := (pc + 1) % 65536) (save' := save) (halt' := halt) (count' := count + 1) (lets' := lets) (waits' := waits) (H.out.below hb)
  clear hb
  have Zu := Rec.ints T.out.o ZT.out mach_int hi
  have ZTu := hide (ZT.out.ints mach_int hi)
  have Bu := hide ((Ints.of_below (lo := lo) T.out.bw).trans hi)
  have CU := hide Cu
  have z0 := Zu.cell 0 _ rfl
  have y0 := Zu.soft 0
  have z1 := Zu.cell 1 _ rfl
  have y1 := Zu.soft 1
  have z2 := Zu.cell 2 _ rfl
  have y2 := Zu.soft 2
  have z3 := Zu.cell 3 _ rfl
  have y3 := Zu.soft 3
  have z4 := Zu.cell 4 _ rfl
  have y4 := Zu.soft 4
  have z5 := Zu.cell 5 _ rfl
  have y5 := Zu.soft 5
  have z6 := Zu.cell 6 _ rfl
  have y6 := Zu.soft 6
  have z7 := Zu.cell 7 _ rfl
  have y7 := Zu.soft 7
  have z8 := Zu.cell 8 _ rfl
  have y8 := Zu.soft 8
  have z9 := Zu.cell 9 _ rfl
  have y9 := Zu.soft 9
  clear T H ZT hi Zu Cu cx cy
  simp only [mv] at *
  go_wp2
  exact bodyPost_ret (v := .agg #[.slice (some ⟨b1, o1, none⟩) regs.length k1, .int .i64 ((pc + 1) % 65536), .slice (some ⟨b2, o2, none⟩) mem.length k2, .int .i64 save, .bool lets, .bool waits, .int .i64 halt, .slice (some ⟨b3, o3, none⟩) ins.length k3, .slice (some ⟨b4, 0, none⟩) outs.length k4, .int .i64 (count + 1)]) (by simp [results, Tryz.results39, go_sem, z0, z1, z2, z3, z4, z5, z6, z7, z8, z9]) rfl ⟨_, rfl, by rw [HM.out]; exact CU.out.ten ZTu.out mach_int _ _ _ _ _ _ _ _ _ _, ints_ten Bu.out kk _ _ _ _ _ _ _ _ _ _⟩
set_option maxRecDepth 8000 in
set_option maxHeartbeats 4000000 in
theorem l3Do_00 (m : M) (d a : Nat) (lo : Nat) (c : List Value) (w : World) (h : CMach w lo c m) (hf : Fit m) (hd : d < 4) (ha : a < 4) :
    Calls Tryz.prog 39 #[.agg c.toArray, .agg #[.int .i64 0, .int .i64 d, .int .i64 a, .int .i64 0]] w fun e w' => ∃ c', e = .returned (.agg c'.toArray) ∧ CMach w' lo c' (doM m 0 d a 0) ∧ Ints lo w w' := by
  obtain ⟨b1, o1, k1, b2, o2, k2, b3, o3, k3, b4, k4, rfl⟩ := forms h
  obtain ⟨regs, pc, mem, save, lets, waits, halt, ins, outs, count⟩ := m
  obtain ⟨r4, m64, rw_, mw_, p0, p1, c0, c1⟩ := hf
  have la : a < regs.length := by rw [show regs.length = 4 from r4]; exact ha
  have ld : d < regs.length := by rw [show regs.length = 4 from r4]; exact hd
  have lr : regs.length ≤ 1000 := by rw [show regs.length = 4 from r4]; omega
  have la' : ((a : Nat) : Int) < (regs.length : Int) := by omega
  have ld' : ((d : Nat) : Int) < (regs.length : Int) := by omega
  have R4 := hide r4
  clear r4 m64 mw_
  have bX : Below w.heap.size w (((w.alloc (.cells #[.slice (some ⟨b1, o1, none⟩) regs.length k1, .int .i64 pc, .slice (some ⟨b2, o2, none⟩) mem.length k2, .int .i64 save, .bool lets, .bool waits, .int .i64 halt, .slice (some ⟨b3, o3, none⟩) ins.length k3, .slice (some ⟨b4, 0, none⟩) outs.length k4, .int .i64 count] 25)).alloc (.cells #[.int .i64 0, .int .i64 d, .int .i64 a, .int .i64 0] 38)).alloc (.cells #[.slice none 0 0, .int .i64 0, .slice none 0 0, .int .i64 0, .bool false, .bool false, .int .i64 0, .slice none 0 0, .slice none 0 0, .int .i64 0] 25)) := (((Below.refl _ _).alloc (Nat.le_refl _) _).alloc (by simp) _).alloc (by simp; omega) _
  have HX := h.below bX
  obtain ⟨x, ex⟩ : ∃ x, regs[a]? = some x := ⟨_, List.getElem?_eq_getElem la⟩
  obtain ⟨y, ey⟩ : ∃ y, regs[d]? = some y := ⟨_, List.getElem?_eq_getElem ld⟩
  have bx := rw_ a x ex
  have by_ := rw_ d y ey
  obtain ⟨cx, fx⟩ := row_at HX.parts.1 ex
  obtain ⟨cy, fy⟩ := row_at HX.parts.1 ey
  have GX := hide (getD_of ex)
  have GY := hide (getD_of ey)
  have T := hide (Three.new w [.slice (some ⟨b1, o1, none⟩) regs.length k1, .int .i64 pc, .slice (some ⟨b2, o2, none⟩) mem.length k2, .int .i64 save, .bool lets, .bool waits, .int .i64 halt, .slice (some ⟨b3, o3, none⟩) ins.length k3, .slice (some ⟨b4, 0, none⟩) outs.length k4, .int .i64 count] [.int .i64 0, .int .i64 d, .int .i64 a, .int .i64 0] [.slice none 0 0, .int .i64 0, .slice none 0 0, .int .i64 0, .bool false, .bool false, .int .i64 0, .slice none 0 0, .slice none 0 0, .int .i64 0] 25 38 25)
  have ZT0 := IsT.new ((w.alloc (.cells #[.slice (some ⟨b1, o1, none⟩) regs.length k1, .int .i64 pc, .slice (some ⟨b2, o2, none⟩) mem.length k2, .int .i64 save, .bool lets, .bool waits, .int .i64 halt, .slice (some ⟨b3, o3, none⟩) ins.length k3, .slice (some ⟨b4, 0, none⟩) outs.length k4, .int .i64 count] 25)).alloc (.cells #[.int .i64 0, .int .i64 d, .int .i64 a, .int .i64 0] 38)) #[.slice none 0 0, .int .i64 0, .slice none 0 0, .int .i64 0, .bool false, .bool false, .int .i64 0, .slice none 0 0, .slice none 0 0, .int .i64 0] 25
  have e1 : ((w.alloc (.cells #[.slice (some ⟨b1, o1, none⟩) regs.length k1, .int .i64 pc, .slice (some ⟨b2, o2, none⟩) mem.length k2, .int .i64 save, .bool lets, .bool waits, .int .i64 halt, .slice (some ⟨b3, o3, none⟩) ins.length k3, .slice (some ⟨b4, 0, none⟩) outs.length k4, .int .i64 count] 25)).alloc (.cells #[.int .i64 0, .int .i64 d, .int .i64 a, .int .i64 0] 38)).heap.size = w.heap.size + 1 + 1 := by simp
  rw [e1] at ZT0
  have ZT := hide ZT0
  have kk : w.heap.size ≤ w.heap.size + 1 + 1 := by omega
  have HM : Hid (doM ⟨regs, pc, mem, save, lets, waits, halt, ins, outs, count⟩ 0 d a 0 = ⟨regs, (pc + 1) % 65536, mem, save, lets, waits, 1, ins, outs, count + 1⟩) := show _ = _ by unfold doM stopM nextM haltM; simp
  have H := hide HX
  clear h HX ex ey ZT0 e1 bX rw_ fx fy
  simp only [mv] at *
  go_enter Tryz.func39, Tryz.ntmps39
  go_wp2_with fail
  refine (l3Stop_0 _ _ _ _ _ _ _ _ _ _ _ _ _ _ _ _ _ _ _ c0 c1 p0 p1).mono ?_
  rintro e u ⟨rfl, hb⟩
  have hi := Ints.of_below (lo := lo) hb
  have Cu := CMach.plain (pc' := (pc + 1) % 65536) (save' := save) (halt' := 1) (count' := count + 1) (lets' := lets) (waits' := waits) (H.out.below hb)
  clear hb
  have Zu := Rec.ints T.out.o ZT.out mach_int hi
  have ZTu := hide (ZT.out.ints mach_int hi)
  have Bu := hide ((Ints.of_below (lo := lo) T.out.bw).trans hi)
  have CU := hide Cu
  have z0 := Zu.cell 0 _ rfl
  have y0 := Zu.soft 0
  have z1 := Zu.cell 1 _ rfl
  have y1 := Zu.soft 1
  have z2 := Zu.cell 2 _ rfl
  have y2 := Zu.soft 2
  have z3 := Zu.cell 3 _ rfl
  have y3 := Zu.soft 3
  have z4 := Zu.cell 4 _ rfl
  have y4 := Zu.soft 4
  have z5 := Zu.cell 5 _ rfl
  have y5 := Zu.soft 5
  have z6 := Zu.cell 6 _ rfl
  have y6 := Zu.soft 6
  have z7 := Zu.cell 7 _ rfl
  have y7 := Zu.soft 7
  have z8 := Zu.cell 8 _ rfl
  have y8 := Zu.soft 8
  have z9 := Zu.cell 9 _ rfl
  have y9 := Zu.soft 9
  clear T H ZT hi Zu Cu cx cy
  simp only [mv] at *
  go_wp2
  exact bodyPost_ret (v := .agg #[.slice (some ⟨b1, o1, none⟩) regs.length k1, .int .i64 ((pc + 1) % 65536), .slice (some ⟨b2, o2, none⟩) mem.length k2, .int .i64 save, .bool lets, .bool waits, .int .i64 1, .slice (some ⟨b3, o3, none⟩) ins.length k3, .slice (some ⟨b4, 0, none⟩) outs.length k4, .int .i64 (count + 1)]) (by simp [results, Tryz.results39, go_sem, z0, z1, z2, z3, z4, z5, z6, z7, z8, z9]) rfl ⟨_, rfl, by rw [HM.out]; exact CU.out.ten ZTu.out mach_int _ _ _ _ _ _ _ _ _ _, ints_ten Bu.out kk _ _ _ _ _ _ _ _ _ _⟩
set_option maxRecDepth 8000 in
set_option maxHeartbeats 4000000 in
theorem l3Do_01 (m : M) (d a : Nat) (lo : Nat) (c : List Value) (w : World) (h : CMach w lo c m) (hf : Fit m) (hd : d < 4) (ha : a < 4) :
    Calls Tryz.prog 39 #[.agg c.toArray, .agg #[.int .i64 0, .int .i64 d, .int .i64 a, .int .i64 1]] w fun e w' => ∃ c', e = .returned (.agg c'.toArray) ∧ CMach w' lo c' (doM m 0 d a 1) ∧ Ints lo w w' := by
  obtain ⟨b1, o1, k1, b2, o2, k2, b3, o3, k3, b4, k4, rfl⟩ := forms h
  obtain ⟨regs, pc, mem, save, lets, waits, halt, ins, outs, count⟩ := m
  obtain ⟨r4, m64, rw_, mw_, p0, p1, c0, c1⟩ := hf
  have la : a < regs.length := by rw [show regs.length = 4 from r4]; exact ha
  have ld : d < regs.length := by rw [show regs.length = 4 from r4]; exact hd
  have lr : regs.length ≤ 1000 := by rw [show regs.length = 4 from r4]; omega
  have la' : ((a : Nat) : Int) < (regs.length : Int) := by omega
  have ld' : ((d : Nat) : Int) < (regs.length : Int) := by omega
  have R4 := hide r4
  clear r4 m64 mw_
  have bX : Below w.heap.size w (((w.alloc (.cells #[.slice (some ⟨b1, o1, none⟩) regs.length k1, .int .i64 pc, .slice (some ⟨b2, o2, none⟩) mem.length k2, .int .i64 save, .bool lets, .bool waits, .int .i64 halt, .slice (some ⟨b3, o3, none⟩) ins.length k3, .slice (some ⟨b4, 0, none⟩) outs.length k4, .int .i64 count] 25)).alloc (.cells #[.int .i64 0, .int .i64 d, .int .i64 a, .int .i64 1] 38)).alloc (.cells #[.slice none 0 0, .int .i64 0, .slice none 0 0, .int .i64 0, .bool false, .bool false, .int .i64 0, .slice none 0 0, .slice none 0 0, .int .i64 0] 25)) := (((Below.refl _ _).alloc (Nat.le_refl _) _).alloc (by simp) _).alloc (by simp; omega) _
  have HX := h.below bX
  obtain ⟨x, ex⟩ : ∃ x, regs[a]? = some x := ⟨_, List.getElem?_eq_getElem la⟩
  obtain ⟨y, ey⟩ : ∃ y, regs[d]? = some y := ⟨_, List.getElem?_eq_getElem ld⟩
  have bx := rw_ a x ex
  have by_ := rw_ d y ey
  obtain ⟨cx, fx⟩ := row_at HX.parts.1 ex
  obtain ⟨cy, fy⟩ := row_at HX.parts.1 ey
  have GX := hide (getD_of ex)
  have GY := hide (getD_of ey)
  have T := hide (Three.new w [.slice (some ⟨b1, o1, none⟩) regs.length k1, .int .i64 pc, .slice (some ⟨b2, o2, none⟩) mem.length k2, .int .i64 save, .bool lets, .bool waits, .int .i64 halt, .slice (some ⟨b3, o3, none⟩) ins.length k3, .slice (some ⟨b4, 0, none⟩) outs.length k4, .int .i64 count] [.int .i64 0, .int .i64 d, .int .i64 a, .int .i64 1] [.slice none 0 0, .int .i64 0, .slice none 0 0, .int .i64 0, .bool false, .bool false, .int .i64 0, .slice none 0 0, .slice none 0 0, .int .i64 0] 25 38 25)
  have ZT0 := IsT.new ((w.alloc (.cells #[.slice (some ⟨b1, o1, none⟩) regs.length k1, .int .i64 pc, .slice (some ⟨b2, o2, none⟩) mem.length k2, .int .i64 save, .bool lets, .bool waits, .int .i64 halt, .slice (some ⟨b3, o3, none⟩) ins.length k3, .slice (some ⟨b4, 0, none⟩) outs.length k4, .int .i64 count] 25)).alloc (.cells #[.int .i64 0, .int .i64 d, .int .i64 a, .int .i64 1] 38)) #[.slice none 0 0, .int .i64 0, .slice none 0 0, .int .i64 0, .bool false, .bool false, .int .i64 0, .slice none 0 0, .slice none 0 0, .int .i64 0] 25
  have e1 : ((w.alloc (.cells #[.slice (some ⟨b1, o1, none⟩) regs.length k1, .int .i64 pc, .slice (some ⟨b2, o2, none⟩) mem.length k2, .int .i64 save, .bool lets, .bool waits, .int .i64 halt, .slice (some ⟨b3, o3, none⟩) ins.length k3, .slice (some ⟨b4, 0, none⟩) outs.length k4, .int .i64 count] 25)).alloc (.cells #[.int .i64 0, .int .i64 d, .int .i64 a, .int .i64 1] 38)).heap.size = w.heap.size + 1 + 1 := by simp
  rw [e1] at ZT0
  have ZT := hide ZT0
  have kk : w.heap.size ≤ w.heap.size + 1 + 1 := by omega
  have HM : Hid (doM ⟨regs, pc, mem, save, lets, waits, halt, ins, outs, count⟩ 0 d a 1 = ⟨regs, save % 65536, mem, save, true, waits, halt, ins, outs, count + 1⟩) := show _ = _ by unfold doM stopM nextM haltM; simp
  have H := hide HX
  clear h HX ex ey ZT0 e1 bX rw_ fx fy
  simp only [mv] at *
  go_enter Tryz.func39, Tryz.ntmps39
  go_wp2_with fail
  refine (l3Stop_1 _ _ _ _ _ _ _ _ _ _ _ _ _ _ _ _ _ _ _ c0 c1).mono ?_
  rintro e u ⟨rfl, hb⟩
  have hi := Ints.of_below (lo := lo) hb
  have Cu := CMach.plain (pc' := save % 65536) (save' := save) (halt' := halt) (count' := count + 1) (lets' := true) (waits' := waits) (H.out.below hb)
  clear hb
  have Zu := Rec.ints T.out.o ZT.out mach_int hi
  have ZTu := hide (ZT.out.ints mach_int hi)
  have Bu := hide ((Ints.of_below (lo := lo) T.out.bw).trans hi)
  have CU := hide Cu
  have z0 := Zu.cell 0 _ rfl
  have y0 := Zu.soft 0
  have z1 := Zu.cell 1 _ rfl
  have y1 := Zu.soft 1
  have z2 := Zu.cell 2 _ rfl
  have y2 := Zu.soft 2
  have z3 := Zu.cell 3 _ rfl
  have y3 := Zu.soft 3
  have z4 := Zu.cell 4 _ rfl
  have y4 := Zu.soft 4
  have z5 := Zu.cell 5 _ rfl
  have y5 := Zu.soft 5
  have z6 := Zu.cell 6 _ rfl
  have y6 := Zu.soft 6
  have z7 := Zu.cell 7 _ rfl
  have y7 := Zu.soft 7
  have z8 := Zu.cell 8 _ rfl
  have y8 := Zu.soft 8
  have z9 := Zu.cell 9 _ rfl
  have y9 := Zu.soft 9
  clear T H ZT hi Zu Cu cx cy
  simp only [mv] at *
  go_wp2
  exact bodyPost_ret (v := .agg #[.slice (some ⟨b1, o1, none⟩) regs.length k1, .int .i64 (save % 65536), .slice (some ⟨b2, o2, none⟩) mem.length k2, .int .i64 save, .bool true, .bool waits, .int .i64 halt, .slice (some ⟨b3, o3, none⟩) ins.length k3, .slice (some ⟨b4, 0, none⟩) outs.length k4, .int .i64 (count + 1)]) (by simp [results, Tryz.results39, go_sem, z0, z1, z2, z3, z4, z5, z6, z7, z8, z9]) rfl ⟨_, rfl, by rw [HM.out]; exact CU.out.ten ZTu.out mach_int _ _ _ _ _ _ _ _ _ _, ints_ten Bu.out kk _ _ _ _ _ _ _ _ _ _⟩
set_option maxRecDepth 8000 in
set_option maxHeartbeats 4000000 in
theorem l3Do_02 (m : M) (d a : Nat) (lo : Nat) (c : List Value) (w : World) (h : CMach w lo c m) (hf : Fit m) (hd : d < 4) (ha : a < 4) :
    Calls Tryz.prog 39 #[.agg c.toArray, .agg #[.int .i64 0, .int .i64 d, .int .i64 a, .int .i64 2]] w fun e w' => ∃ c', e = .returned (.agg c'.toArray) ∧ CMach w' lo c' (doM m 0 d a 2) ∧ Ints lo w w' := by
  obtain ⟨b1, o1, k1, b2, o2, k2, b3, o3, k3, b4, k4, rfl⟩ := forms h
  obtain ⟨regs, pc, mem, save, lets, waits, halt, ins, outs, count⟩ := m
  obtain ⟨r4, m64, rw_, mw_, p0, p1, c0, c1⟩ := hf
  have la : a < regs.length := by rw [show regs.length = 4 from r4]; exact ha
  have ld : d < regs.length := by rw [show regs.length = 4 from r4]; exact hd
  have lr : regs.length ≤ 1000 := by rw [show regs.length = 4 from r4]; omega
  have la' : ((a : Nat) : Int) < (regs.length : Int) := by omega
  have ld' : ((d : Nat) : Int) < (regs.length : Int) := by omega
  have R4 := hide r4
  clear r4 m64 mw_
  have bX : Below w.heap.size w (((w.alloc (.cells #[.slice (some ⟨b1, o1, none⟩) regs.length k1, .int .i64 pc, .slice (some ⟨b2, o2, none⟩) mem.length k2, .int .i64 save, .bool lets, .bool waits, .int .i64 halt, .slice (some ⟨b3, o3, none⟩) ins.length k3, .slice (some ⟨b4, 0, none⟩) outs.length k4, .int .i64 count] 25)).alloc (.cells #[.int .i64 0, .int .i64 d, .int .i64 a, .int .i64 2] 38)).alloc (.cells #[.slice none 0 0, .int .i64 0, .slice none 0 0, .int .i64 0, .bool false, .bool false, .int .i64 0, .slice none 0 0, .slice none 0 0, .int .i64 0] 25)) := (((Below.refl _ _).alloc (Nat.le_refl _) _).alloc (by simp) _).alloc (by simp; omega) _
  have HX := h.below bX
  obtain ⟨x, ex⟩ : ∃ x, regs[a]? = some x := ⟨_, List.getElem?_eq_getElem la⟩
  obtain ⟨y, ey⟩ : ∃ y, regs[d]? = some y := ⟨_, List.getElem?_eq_getElem ld⟩
  have bx := rw_ a x ex
  have by_ := rw_ d y ey
  obtain ⟨cx, fx⟩ := row_at HX.parts.1 ex
  obtain ⟨cy, fy⟩ := row_at HX.parts.1 ey
  have GX := hide (getD_of ex)
  have GY := hide (getD_of ey)
  have T := hide (Three.new w [.slice (some ⟨b1, o1, none⟩) regs.length k1, .int .i64 pc, .slice (some ⟨b2, o2, none⟩) mem.length k2, .int .i64 save, .bool lets, .bool waits, .int .i64 halt, .slice (some ⟨b3, o3, none⟩) ins.length k3, .slice (some ⟨b4, 0, none⟩) outs.length k4, .int .i64 count] [.int .i64 0, .int .i64 d, .int .i64 a, .int .i64 2] [.slice none 0 0, .int .i64 0, .slice none 0 0, .int .i64 0, .bool false, .bool false, .int .i64 0, .slice none 0 0, .slice none 0 0, .int .i64 0] 25 38 25)
  have ZT0 := IsT.new ((w.alloc (.cells #[.slice (some ⟨b1, o1, none⟩) regs.length k1, .int .i64 pc, .slice (some ⟨b2, o2, none⟩) mem.length k2, .int .i64 save, .bool lets, .bool waits, .int .i64 halt, .slice (some ⟨b3, o3, none⟩) ins.length k3, .slice (some ⟨b4, 0, none⟩) outs.length k4, .int .i64 count] 25)).alloc (.cells #[.int .i64 0, .int .i64 d, .int .i64 a, .int .i64 2] 38)) #[.slice none 0 0, .int .i64 0, .slice none 0 0, .int .i64 0, .bool false, .bool false, .int .i64 0, .slice none 0 0, .slice none 0 0, .int .i64 0] 25
  have e1 : ((w.alloc (.cells #[.slice (some ⟨b1, o1, none⟩) regs.length k1, .int .i64 pc, .slice (some ⟨b2, o2, none⟩) mem.length k2, .int .i64 save, .bool lets, .bool waits, .int .i64 halt, .slice (some ⟨b3, o3, none⟩) ins.length k3, .slice (some ⟨b4, 0, none⟩) outs.length k4, .int .i64 count] 25)).alloc (.cells #[.int .i64 0, .int .i64 d, .int .i64 a, .int .i64 2] 38)).heap.size = w.heap.size + 1 + 1 := by simp
  rw [e1] at ZT0
  have ZT := hide ZT0
  have kk : w.heap.size ≤ w.heap.size + 1 + 1 := by omega
  have HM : Hid (doM ⟨regs, pc, mem, save, lets, waits, halt, ins, outs, count⟩ 0 d a 2 = ⟨regs, (pc + 1) % 65536, mem, save, true, waits, halt, ins, outs, count + 1⟩) := show _ = _ by unfold doM stopM nextM haltM; simp
  have H := hide HX
  clear h HX ex ey ZT0 e1 bX rw_ fx fy
  simp only [mv] at *
  go_enter Tryz.func39, Tryz.ntmps39
  go_wp2_with fail
  refine (l3Stop_2 _ _ _ _ _ _ _ _ _ _ _ _ _ _ _ _ _ _ _ c0 c1 p0 p1).mono ?_
  rintro e u ⟨rfl, hb⟩
  have hi := Ints.of_below (lo := lo) hb
  have Cu := CMach.plain (pc' := (pc + 1) % 65536) (save' := save) (halt' := halt) (count' := count + 1) (lets' := true) (waits' := waits) (H.out.below hb)
  clear hb
  have Zu := Rec.ints T.out.o ZT.out mach_int hi
  have ZTu := hide (ZT.out.ints mach_int hi)
  have Bu := hide ((Ints.of_below (lo := lo) T.out.bw).trans hi)
  have CU := hide Cu
  have z0 := Zu.cell 0 _ rfl
  have y0 := Zu.soft 0
  have z1 := Zu.cell 1 _ rfl
  have y1 := Zu.soft 1
  have z2 := Zu.cell 2 _ rfl
  have y2 := Zu.soft 2
  have z3 := Zu.cell 3 _ rfl
  have y3 := Zu.soft 3
  have z4 := Zu.cell 4 _ rfl
  have y4 := Zu.soft 4
  have z5 := Zu.cell 5 _ rfl
  have y5 := Zu.soft 5
  have z6 := Zu.cell 6 _ rfl
  have y6 := Zu.soft 6
  have z7 := Zu.cell 7 _ rfl
  have y7 := Zu.soft 7
  have z8 := Zu.cell 8 _ rfl
  have y8 := Zu.soft 8
  have z9 := Zu.cell 9 _ rfl
  have y9 := Zu.soft 9
  clear T H ZT hi Zu Cu cx cy
  simp only [mv] at *
  go_wp2
  exact bodyPost_ret (v := .agg #[.slice (some ⟨b1, o1, none⟩) regs.length k1, .int .i64 ((pc + 1) % 65536), .slice (some ⟨b2, o2, none⟩) mem.length k2, .int .i64 save, .bool true, .bool waits, .int .i64 halt, .slice (some ⟨b3, o3, none⟩) ins.length k3, .slice (some ⟨b4, 0, none⟩) outs.length k4, .int .i64 (count + 1)]) (by simp [results, Tryz.results39, go_sem, z0, z1, z2, z3, z4, z5, z6, z7, z8, z9]) rfl ⟨_, rfl, by rw [HM.out]; exact CU.out.ten ZTu.out mach_int _ _ _ _ _ _ _ _ _ _, ints_ten Bu.out kk _ _ _ _ _ _ _ _ _ _⟩
set_option maxRecDepth 8000 in
set_option maxHeartbeats 4000000 in
theorem l3Do_03 (m : M) (d a : Nat) (lo : Nat) (c : List Value) (w : World) (h : CMach w lo c m) (hf : Fit m) (hd : d < 4) (ha : a < 4) :
    Calls Tryz.prog 39 #[.agg c.toArray, .agg #[.int .i64 0, .int .i64 d, .int .i64 a, .int .i64 3]] w fun e w' => ∃ c', e = .returned (.agg c'.toArray) ∧ CMach w' lo c' (doM m 0 d a 3) ∧ Ints lo w w' := by
  obtain ⟨b1, o1, k1, b2, o2, k2, b3, o3, k3, b4, k4, rfl⟩ := forms h
  obtain ⟨regs, pc, mem, save, lets, waits, halt, ins, outs, count⟩ := m
  obtain ⟨r4, m64, rw_, mw_, p0, p1, c0, c1⟩ := hf
  have la : a < regs.length := by rw [show regs.length = 4 from r4]; exact ha
  have ld : d < regs.length := by rw [show regs.length = 4 from r4]; exact hd
  have lr : regs.length ≤ 1000 := by rw [show regs.length = 4 from r4]; omega
  have la' : ((a : Nat) : Int) < (regs.length : Int) := by omega
  have ld' : ((d : Nat) : Int) < (regs.length : Int) := by omega
  have R4 := hide r4
  clear r4 m64 mw_
  have bX : Below w.heap.size w (((w.alloc (.cells #[.slice (some ⟨b1, o1, none⟩) regs.length k1, .int .i64 pc, .slice (some ⟨b2, o2, none⟩) mem.length k2, .int .i64 save, .bool lets, .bool waits, .int .i64 halt, .slice (some ⟨b3, o3, none⟩) ins.length k3, .slice (some ⟨b4, 0, none⟩) outs.length k4, .int .i64 count] 25)).alloc (.cells #[.int .i64 0, .int .i64 d, .int .i64 a, .int .i64 3] 38)).alloc (.cells #[.slice none 0 0, .int .i64 0, .slice none 0 0, .int .i64 0, .bool false, .bool false, .int .i64 0, .slice none 0 0, .slice none 0 0, .int .i64 0] 25)) := (((Below.refl _ _).alloc (Nat.le_refl _) _).alloc (by simp) _).alloc (by simp; omega) _
  have HX := h.below bX
  obtain ⟨x, ex⟩ : ∃ x, regs[a]? = some x := ⟨_, List.getElem?_eq_getElem la⟩
  obtain ⟨y, ey⟩ : ∃ y, regs[d]? = some y := ⟨_, List.getElem?_eq_getElem ld⟩
  have bx := rw_ a x ex
  have by_ := rw_ d y ey
  obtain ⟨cx, fx⟩ := row_at HX.parts.1 ex
  obtain ⟨cy, fy⟩ := row_at HX.parts.1 ey
  have GX := hide (getD_of ex)
  have GY := hide (getD_of ey)
  have T := hide (Three.new w [.slice (some ⟨b1, o1, none⟩) regs.length k1, .int .i64 pc, .slice (some ⟨b2, o2, none⟩) mem.length k2, .int .i64 save, .bool lets, .bool waits, .int .i64 halt, .slice (some ⟨b3, o3, none⟩) ins.length k3, .slice (some ⟨b4, 0, none⟩) outs.length k4, .int .i64 count] [.int .i64 0, .int .i64 d, .int .i64 a, .int .i64 3] [.slice none 0 0, .int .i64 0, .slice none 0 0, .int .i64 0, .bool false, .bool false, .int .i64 0, .slice none 0 0, .slice none 0 0, .int .i64 0] 25 38 25)
  have ZT0 := IsT.new ((w.alloc (.cells #[.slice (some ⟨b1, o1, none⟩) regs.length k1, .int .i64 pc, .slice (some ⟨b2, o2, none⟩) mem.length k2, .int .i64 save, .bool lets, .bool waits, .int .i64 halt, .slice (some ⟨b3, o3, none⟩) ins.length k3, .slice (some ⟨b4, 0, none⟩) outs.length k4, .int .i64 count] 25)).alloc (.cells #[.int .i64 0, .int .i64 d, .int .i64 a, .int .i64 3] 38)) #[.slice none 0 0, .int .i64 0, .slice none 0 0, .int .i64 0, .bool false, .bool false, .int .i64 0, .slice none 0 0, .slice none 0 0, .int .i64 0] 25
  have e1 : ((w.alloc (.cells #[.slice (some ⟨b1, o1, none⟩) regs.length k1, .int .i64 pc, .slice (some ⟨b2, o2, none⟩) mem.length k2, .int .i64 save, .bool lets, .bool waits, .int .i64 halt, .slice (some ⟨b3, o3, none⟩) ins.length k3, .slice (some ⟨b4, 0, none⟩) outs.length k4, .int .i64 count] 25)).alloc (.cells #[.int .i64 0, .int .i64 d, .int .i64 a, .int .i64 3] 38)).heap.size = w.heap.size + 1 + 1 := by simp
  rw [e1] at ZT0
  have ZT := hide ZT0
  have kk : w.heap.size ≤ w.heap.size + 1 + 1 := by omega
  have HM : Hid (doM ⟨regs, pc, mem, save, lets, waits, halt, ins, outs, count⟩ 0 d a 3 = ⟨regs, (pc + 1) % 65536, mem, save, false, waits, halt, ins, outs, count + 1⟩) := show _ = _ by unfold doM stopM nextM haltM; simp
  have H := hide HX
  clear h HX ex ey ZT0 e1 bX rw_ fx fy
  simp only [mv] at *
  go_enter Tryz.func39, Tryz.ntmps39
  go_wp2_with fail
  refine (l3Stop_3 _ _ _ _ _ _ _ _ _ _ _ _ _ _ _ _ _ _ _ c0 c1 p0 p1).mono ?_
  rintro e u ⟨rfl, hb⟩
  have hi := Ints.of_below (lo := lo) hb
  have Cu := CMach.plain (pc' := (pc + 1) % 65536) (save' := save) (halt' := halt) (count' := count + 1) (lets' := false) (waits' := waits) (H.out.below hb)
  clear hb
  have Zu := Rec.ints T.out.o ZT.out mach_int hi
  have ZTu := hide (ZT.out.ints mach_int hi)
  have Bu := hide ((Ints.of_below (lo := lo) T.out.bw).trans hi)
  have CU := hide Cu
  have z0 := Zu.cell 0 _ rfl
  have y0 := Zu.soft 0
  have z1 := Zu.cell 1 _ rfl
  have y1 := Zu.soft 1
  have z2 := Zu.cell 2 _ rfl
  have y2 := Zu.soft 2
  have z3 := Zu.cell 3 _ rfl
  have y3 := Zu.soft 3
  have z4 := Zu.cell 4 _ rfl
  have y4 := Zu.soft 4
  have z5 := Zu.cell 5 _ rfl
  have y5 := Zu.soft 5
  have z6 := Zu.cell 6 _ rfl
  have y6 := Zu.soft 6
  have z7 := Zu.cell 7 _ rfl
  have y7 := Zu.soft 7
  have z8 := Zu.cell 8 _ rfl
  have y8 := Zu.soft 8
  have z9 := Zu.cell 9 _ rfl
  have y9 := Zu.soft 9
  clear T H ZT hi Zu Cu cx cy
  simp only [mv] at *
  go_wp2
  exact bodyPost_ret (v := .agg #[.slice (some ⟨b1, o1, none⟩) regs.length k1, .int .i64 ((pc + 1) % 65536), .slice (some ⟨b2, o2, none⟩) mem.length k2, .int .i64 save, .bool false, .bool waits, .int .i64 halt, .slice (some ⟨b3, o3, none⟩) ins.length k3, .slice (some ⟨b4, 0, none⟩) outs.length k4, .int .i64 (count + 1)]) (by simp [results, Tryz.results39, go_sem, z0, z1, z2, z3, z4, z5, z6, z7, z8, z9]) rfl ⟨_, rfl, by rw [HM.out]; exact CU.out.ten ZTu.out mach_int _ _ _ _ _ _ _ _ _ _, ints_ten Bu.out kk _ _ _ _ _ _ _ _ _ _⟩
set_option maxRecDepth 8000 in
set_option maxHeartbeats 4000000 in
theorem l3Do_9no (m : M) (d a : Nat) (k : Int) (lo : Nat) (c : List Value) (w : World) (h : CMach w lo c m) (hf : Fit m) (hd : d < 4) (ha : a < 4) (k0 : 0 ≤ k) (k1' : k ≤ 255) (hn : 64 ≤ (m.regs.getD a 0 + k) % 65536) :
    Calls Tryz.prog 39 #[.agg c.toArray, .agg #[.int .i64 9, .int .i64 d, .int .i64 a, .int .i64 k]] w fun e w' => ∃ c', e = .returned (.agg c'.toArray) ∧ CMach w' lo c' (doM m 9 d a k) ∧ Ints lo w w' := by
  obtain ⟨b1, o1, k1, b2, o2, k2, b3, o3, k3, b4, k4, rfl⟩ := forms h
  obtain ⟨regs, pc, mem, save, lets, waits, halt, ins, outs, count⟩ := m
  have HF0 := hf
  obtain ⟨r4, m64, rw_, mw_, p0, p1, c0, c1⟩ := hf
  have la : a < regs.length := by rw [show regs.length = 4 from r4]; exact ha
  have ld : d < regs.length := by rw [show regs.length = 4 from r4]; exact hd
  have lr : regs.length ≤ 1000 := by rw [show regs.length = 4 from r4]; omega
  have la' : ((a : Nat) : Int) < (regs.length : Int) := by omega
  have ld' : ((d : Nat) : Int) < (regs.length : Int) := by omega
  have R4 := hide r4
  clear r4 m64 mw_
  have bX : Below w.heap.size w (((w.alloc (.cells #[.slice (some ⟨b1, o1, none⟩) regs.length k1, .int .i64 pc, .slice (some ⟨b2, o2, none⟩) mem.length k2, .int .i64 save, .bool lets, .bool waits, .int .i64 halt, .slice (some ⟨b3, o3, none⟩) ins.length k3, .slice (some ⟨b4, 0, none⟩) outs.length k4, .int .i64 count] 25)).alloc (.cells #[.int .i64 9, .int .i64 d, .int .i64 a, .int .i64 k] 38)).alloc (.cells #[.slice none 0 0, .int .i64 0, .slice none 0 0, .int .i64 0, .bool false, .bool false, .int .i64 0, .slice none 0 0, .slice none 0 0, .int .i64 0] 25)) := (((Below.refl _ _).alloc (Nat.le_refl _) _).alloc (by simp) _).alloc (by simp; omega) _
  have HX := h.below bX
  obtain ⟨x, ex⟩ : ∃ x, regs[a]? = some x := ⟨_, List.getElem?_eq_getElem la⟩
  obtain ⟨y, ey⟩ : ∃ y, regs[d]? = some y := ⟨_, List.getElem?_eq_getElem ld⟩
  have bx := rw_ a x ex
  have by_ := rw_ d y ey
  obtain ⟨cx, fx⟩ := row_at HX.parts.1 ex
  obtain ⟨cy, fy⟩ := row_at HX.parts.1 ey
  have GX := hide (getD_of ex)
  have GY := hide (getD_of ey)
  have T := hide (Three.new w [.slice (some ⟨b1, o1, none⟩) regs.length k1, .int .i64 pc, .slice (some ⟨b2, o2, none⟩) mem.length k2, .int .i64 save, .bool lets, .bool waits, .int .i64 halt, .slice (some ⟨b3, o3, none⟩) ins.length k3, .slice (some ⟨b4, 0, none⟩) outs.length k4, .int .i64 count] [.int .i64 9, .int .i64 d, .int .i64 a, .int .i64 k] [.slice none 0 0, .int .i64 0, .slice none 0 0, .int .i64 0, .bool false, .bool false, .int .i64 0, .slice none 0 0, .slice none 0 0, .int .i64 0] 25 38 25)
  have ZT0 := IsT.new ((w.alloc (.cells #[.slice (some ⟨b1, o1, none⟩) regs.length k1, .int .i64 pc, .slice (some ⟨b2, o2, none⟩) mem.length k2, .int .i64 save, .bool lets, .bool waits, .int .i64 halt, .slice (some ⟨b3, o3, none⟩) ins.length k3, .slice (some ⟨b4, 0, none⟩) outs.length k4, .int .i64 count] 25)).alloc (.cells #[.int .i64 9, .int .i64 d, .int .i64 a, .int .i64 k] 38)) #[.slice none 0 0, .int .i64 0, .slice none 0 0, .int .i64 0, .bool false, .bool false, .int .i64 0, .slice none 0 0, .slice none 0 0, .int .i64 0] 25
  have e1 : ((w.alloc (.cells #[.slice (some ⟨b1, o1, none⟩) regs.length k1, .int .i64 pc, .slice (some ⟨b2, o2, none⟩) mem.length k2, .int .i64 save, .bool lets, .bool waits, .int .i64 halt, .slice (some ⟨b3, o3, none⟩) ins.length k3, .slice (some ⟨b4, 0, none⟩) outs.length k4, .int .i64 count] 25)).alloc (.cells #[.int .i64 9, .int .i64 d, .int .i64 a, .int .i64 k] 38)).heap.size = w.heap.size + 1 + 1 := by simp
  rw [e1] at ZT0
  have ZT := hide ZT0
  have kk : w.heap.size ≤ w.heap.size + 1 + 1 := by omega
  have HM : Hid (doM ⟨regs, pc, mem, save, lets, waits, halt, ins, outs, count⟩ 9 d a k = reachM ⟨regs, pc, mem, save, lets, waits, halt, ins, outs, count⟩ 9 d a k) := show _ = _ by unfold doM; simp
  have HF : Hid (Fit ⟨regs, pc, mem, save, lets, waits, halt, ins, outs, count⟩) := HF0
  have H := hide HX
  clear h HX ex ey ZT0 e1 bX rw_ fx fy
  simp only [mv] at *
  have HN := hide hn
  clear hn HF0
  go_enter Tryz.func39, Tryz.ntmps39
  go_wp2_with fail
  refine (l3Reach_no _ d a k 9 lo _ _ H.out HF.out hd ha k0 k1' HN.out).mono ?_
  rintro e u ⟨c', rfl, Cu, hi⟩
  obtain ⟨r5, e5⟩ : ∃ r5, reachM ⟨regs, pc, mem, save, lets, waits, halt, ins, outs, count⟩ 9 d a k = r5 := ⟨_, rfl⟩
  rw [e5] at HM Cu
  obtain ⟨f1, g1, h1, f2, g2, h2, f3, g3, h3, f4, h4, rfl⟩ := forms Cu
  obtain ⟨regs5, pc5, mem5, save5, lets5, waits5, halt5, ins5, outs5, count5⟩ := r5
  have Zu := Rec.ints T.out.o ZT.out mach_int hi
  have ZTu := hide (ZT.out.ints mach_int hi)
  have Bu := hide ((Ints.of_below (lo := lo) T.out.bw).trans hi)
  have CU := hide Cu
  have z0 := Zu.cell 0 _ rfl
  have y0 := Zu.soft 0
  have z1 := Zu.cell 1 _ rfl
  have y1 := Zu.soft 1
  have z2 := Zu.cell 2 _ rfl
  have y2 := Zu.soft 2
  have z3 := Zu.cell 3 _ rfl
  have y3 := Zu.soft 3
  have z4 := Zu.cell 4 _ rfl
  have y4 := Zu.soft 4
  have z5 := Zu.cell 5 _ rfl
  have y5 := Zu.soft 5
  have z6 := Zu.cell 6 _ rfl
  have y6 := Zu.soft 6
  have z7 := Zu.cell 7 _ rfl
  have y7 := Zu.soft 7
  have z8 := Zu.cell 8 _ rfl
  have y8 := Zu.soft 8
  have z9 := Zu.cell 9 _ rfl
  have y9 := Zu.soft 9
  clear T H ZT hi Zu Cu cx cy HN HF e5
  simp only [mv] at *
  go_wp2
  exact bodyPost_ret (v := .agg #[.slice (some ⟨f1, g1, none⟩) regs5.length h1, .int .i64 pc5, .slice (some ⟨f2, g2, none⟩) mem5.length h2, .int .i64 save5, .bool lets5, .bool waits5, .int .i64 halt5, .slice (some ⟨f3, g3, none⟩) ins5.length h3, .slice (some ⟨f4, 0, none⟩) outs5.length h4, .int .i64 count5]) (by simp [results, Tryz.results39, go_sem, z0, z1, z2, z3, z4, z5, z6, z7, z8, z9]) rfl ⟨_, rfl, by rw [HM.out]; exact CU.out.ten ZTu.out mach_int _ _ _ _ _ _ _ _ _ _, ints_ten Bu.out kk _ _ _ _ _ _ _ _ _ _⟩
set_option maxRecDepth 8000 in
set_option maxHeartbeats 4000000 in
theorem l3Do_9yes (m : M) (d a : Nat) (k : Int) (lo : Nat) (c : List Value) (w : World) (h : CMach w lo c m) (hf : Fit m) (hd : d < 4) (ha : a < 4) (k0 : 0 ≤ k) (k1' : k ≤ 255) (hn : ¬ 64 ≤ (m.regs.getD a 0 + k) % 65536) :
    Calls Tryz.prog 39 #[.agg c.toArray, .agg #[.int .i64 9, .int .i64 d, .int .i64 a, .int .i64 k]] w fun e w' => ∃ c', e = .returned (.agg c'.toArray) ∧ CMach w' lo c' (doM m 9 d a k) ∧ Ints lo w w' := by
  obtain ⟨b1, o1, k1, b2, o2, k2, b3, o3, k3, b4, k4, rfl⟩ := forms h
  obtain ⟨regs, pc, mem, save, lets, waits, halt, ins, outs, count⟩ := m
  have HF0 := hf
  obtain ⟨r4, m64, rw_, mw_, p0, p1, c0, c1⟩ := hf
  have la : a < regs.length := by rw [show regs.length = 4 from r4]; exact ha
  have ld : d < regs.length := by rw [show regs.length = 4 from r4]; exact hd
  have lr : regs.length ≤ 1000 := by rw [show regs.length = 4 from r4]; omega
  have la' : ((a : Nat) : Int) < (regs.length : Int) := by omega
  have ld' : ((d : Nat) : Int) < (regs.length : Int) := by omega
  have R4 := hide r4
  clear r4 m64 mw_
  have bX : Below w.heap.size w (((w.alloc (.cells #[.slice (some ⟨b1, o1, none⟩) regs.length k1, .int .i64 pc, .slice (some ⟨b2, o2, none⟩) mem.length k2, .int .i64 save, .bool lets, .bool waits, .int .i64 halt, .slice (some ⟨b3, o3, none⟩) ins.length k3, .slice (some ⟨b4, 0, none⟩) outs.length k4, .int .i64 count] 25)).alloc (.cells #[.int .i64 9, .int .i64 d, .int .i64 a, .int .i64 k] 38)).alloc (.cells #[.slice none 0 0, .int .i64 0, .slice none 0 0, .int .i64 0, .bool false, .bool false, .int .i64 0, .slice none 0 0, .slice none 0 0, .int .i64 0] 25)) := (((Below.refl _ _).alloc (Nat.le_refl _) _).alloc (by simp) _).alloc (by simp; omega) _
  have HX := h.below bX
  obtain ⟨x, ex⟩ : ∃ x, regs[a]? = some x := ⟨_, List.getElem?_eq_getElem la⟩
  obtain ⟨y, ey⟩ : ∃ y, regs[d]? = some y := ⟨_, List.getElem?_eq_getElem ld⟩
  have bx := rw_ a x ex
  have by_ := rw_ d y ey
  obtain ⟨cx, fx⟩ := row_at HX.parts.1 ex
  obtain ⟨cy, fy⟩ := row_at HX.parts.1 ey
  have GX := hide (getD_of ex)
  have GY := hide (getD_of ey)
  have T := hide (Three.new w [.slice (some ⟨b1, o1, none⟩) regs.length k1, .int .i64 pc, .slice (some ⟨b2, o2, none⟩) mem.length k2, .int .i64 save, .bool lets, .bool waits, .int .i64 halt, .slice (some ⟨b3, o3, none⟩) ins.length k3, .slice (some ⟨b4, 0, none⟩) outs.length k4, .int .i64 count] [.int .i64 9, .int .i64 d, .int .i64 a, .int .i64 k] [.slice none 0 0, .int .i64 0, .slice none 0 0, .int .i64 0, .bool false, .bool false, .int .i64 0, .slice none 0 0, .slice none 0 0, .int .i64 0] 25 38 25)
  have ZT0 := IsT.new ((w.alloc (.cells #[.slice (some ⟨b1, o1, none⟩) regs.length k1, .int .i64 pc, .slice (some ⟨b2, o2, none⟩) mem.length k2, .int .i64 save, .bool lets, .bool waits, .int .i64 halt, .slice (some ⟨b3, o3, none⟩) ins.length k3, .slice (some ⟨b4, 0, none⟩) outs.length k4, .int .i64 count] 25)).alloc (.cells #[.int .i64 9, .int .i64 d, .int .i64 a, .int .i64 k] 38)) #[.slice none 0 0, .int .i64 0, .slice none 0 0, .int .i64 0, .bool false, .bool false, .int .i64 0, .slice none 0 0, .slice none 0 0, .int .i64 0] 25
  have e1 : ((w.alloc (.cells #[.slice (some ⟨b1, o1, none⟩) regs.length k1, .int .i64 pc, .slice (some ⟨b2, o2, none⟩) mem.length k2, .int .i64 save, .bool lets, .bool waits, .int .i64 halt, .slice (some ⟨b3, o3, none⟩) ins.length k3, .slice (some ⟨b4, 0, none⟩) outs.length k4, .int .i64 count] 25)).alloc (.cells #[.int .i64 9, .int .i64 d, .int .i64 a, .int .i64 k] 38)).heap.size = w.heap.size + 1 + 1 := by simp
  rw [e1] at ZT0
  have ZT := hide ZT0
  have kk : w.heap.size ≤ w.heap.size + 1 + 1 := by omega
  have HM : Hid (doM ⟨regs, pc, mem, save, lets, waits, halt, ins, outs, count⟩ 9 d a k = reachM ⟨regs, pc, mem, save, lets, waits, halt, ins, outs, count⟩ 9 d a k) := show _ = _ by unfold doM; simp
  have HF : Hid (Fit ⟨regs, pc, mem, save, lets, waits, halt, ins, outs, count⟩) := HF0
  have H := hide HX
  clear h HX ex ey ZT0 e1 bX rw_ fx fy
  simp only [mv] at *
  have HN := hide hn
  clear hn HF0
  go_enter Tryz.func39, Tryz.ntmps39
  go_wp2_with fail
  refine (l3Reach_load _ d a k lo _ _ H.out HF.out hd ha k0 k1' (Int.not_le.2 HN.out)).mono ?_
  rintro e u ⟨c', rfl, Cu, hi⟩
  obtain ⟨r5, e5⟩ : ∃ r5, reachM ⟨regs, pc, mem, save, lets, waits, halt, ins, outs, count⟩ 9 d a k = r5 := ⟨_, rfl⟩
  rw [e5] at HM Cu
  obtain ⟨f1, g1, h1, f2, g2, h2, f3, g3, h3, f4, h4, rfl⟩ := forms Cu
  obtain ⟨regs5, pc5, mem5, save5, lets5, waits5, halt5, ins5, outs5, count5⟩ := r5
  have Zu := Rec.ints T.out.o ZT.out mach_int hi
  have ZTu := hide (ZT.out.ints mach_int hi)
  have Bu := hide ((Ints.of_below (lo := lo) T.out.bw).trans hi)
  have CU := hide Cu
  have z0 := Zu.cell 0 _ rfl
  have y0 := Zu.soft 0
  have z1 := Zu.cell 1 _ rfl
  have y1 := Zu.soft 1
  have z2 := Zu.cell 2 _ rfl
  have y2 := Zu.soft 2
  have z3 := Zu.cell 3 _ rfl
  have y3 := Zu.soft 3
  have z4 := Zu.cell 4 _ rfl
  have y4 := Zu.soft 4
  have z5 := Zu.cell 5 _ rfl
  have y5 := Zu.soft 5
  have z6 := Zu.cell 6 _ rfl
  have y6 := Zu.soft 6
  have z7 := Zu.cell 7 _ rfl
  have y7 := Zu.soft 7
  have z8 := Zu.cell 8 _ rfl
  have y8 := Zu.soft 8
  have z9 := Zu.cell 9 _ rfl
  have y9 := Zu.soft 9
  clear T H ZT hi Zu Cu cx cy HN HF e5
  simp only [mv] at *
  go_wp2
  exact bodyPost_ret (v := .agg #[.slice (some ⟨f1, g1, none⟩) regs5.length h1, .int .i64 pc5, .slice (some ⟨f2, g2, none⟩) mem5.length h2, .int .i64 save5, .bool lets5, .bool waits5, .int .i64 halt5, .slice (some ⟨f3, g3, none⟩) ins5.length h3, .slice (some ⟨f4, 0, none⟩) outs5.length h4, .int .i64 count5]) (by simp [results, Tryz.results39, go_sem, z0, z1, z2, z3, z4, z5, z6, z7, z8, z9]) rfl ⟨_, rfl, by rw [HM.out]; exact CU.out.ten ZTu.out mach_int _ _ _ _ _ _ _ _ _ _, ints_ten Bu.out kk _ _ _ _ _ _ _ _ _ _⟩
set_option maxRecDepth 8000 in
set_option maxHeartbeats 4000000 in
theorem l3Do_10no (m : M) (d a : Nat) (k : Int) (lo : Nat) (c : List Value) (w : World) (h : CMach w lo c m) (hf : Fit m) (hd : d < 4) (ha : a < 4) (k0 : 0 ≤ k) (k1' : k ≤ 255) (hn : 64 ≤ (m.regs.getD a 0 + k) % 65536) :
    Calls Tryz.prog 39 #[.agg c.toArray, .agg #[.int .i64 10, .int .i64 d, .int .i64 a, .int .i64 k]] w fun e w' => ∃ c', e = .returned (.agg c'.toArray) ∧ CMach w' lo c' (doM m 10 d a k) ∧ Ints lo w w' := by
  obtain ⟨b1, o1, k1, b2, o2, k2, b3, o3, k3, b4, k4, rfl⟩ := forms h
  obtain ⟨regs, pc, mem, save, lets, waits, halt, ins, outs, count⟩ := m
  have HF0 := hf
  obtain ⟨r4, m64, rw_, mw_, p0, p1, c0, c1⟩ := hf
  have la : a < regs.length := by rw [show regs.length = 4 from r4]; exact ha
  have ld : d < regs.length := by rw [show regs.length = 4 from r4]; exact hd
  have lr : regs.length ≤ 1000 := by rw [show regs.length = 4 from r4]; omega
  have la' : ((a : Nat) : Int) < (regs.length : Int) := by omega
  have ld' : ((d : Nat) : Int) < (regs.length : Int) := by omega
  have R4 := hide r4
  clear r4 m64 mw_
  have bX : Below w.heap.size w (((w.alloc (.cells #[.slice (some ⟨b1, o1, none⟩) regs.length k1, .int .i64 pc, .slice (some ⟨b2, o2, none⟩) mem.length k2, .int .i64 save, .bool lets, .bool waits, .int .i64 halt, .slice (some ⟨b3, o3, none⟩) ins.length k3, .slice (some ⟨b4, 0, none⟩) outs.length k4, .int .i64 count] 25)).alloc (.cells #[.int .i64 10, .int .i64 d, .int .i64 a, .int .i64 k] 38)).alloc (.cells #[.slice none 0 0, .int .i64 0, .slice none 0 0, .int .i64 0, .bool false, .bool false, .int .i64 0, .slice none 0 0, .slice none 0 0, .int .i64 0] 25)) := (((Below.refl _ _).alloc (Nat.le_refl _) _).alloc (by simp) _).alloc (by simp; omega) _
  have HX := h.below bX
  obtain ⟨x, ex⟩ : ∃ x, regs[a]? = some x := ⟨_, List.getElem?_eq_getElem la⟩
  obtain ⟨y, ey⟩ : ∃ y, regs[d]? = some y := ⟨_, List.getElem?_eq_getElem ld⟩
  have bx := rw_ a x ex
  have by_ := rw_ d y ey
  obtain ⟨cx, fx⟩ := row_at HX.parts.1 ex
  obtain ⟨cy, fy⟩ := row_at HX.parts.1 ey
  have GX := hide (getD_of ex)
  have GY := hide (getD_of ey)
  have T := hide (Three.new w [.slice (some ⟨b1, o1, none⟩) regs.length k1, .int .i64 pc, .slice (some ⟨b2, o2, none⟩) mem.length k2, .int .i64 save, .bool lets, .bool waits, .int .i64 halt, .slice (some ⟨b3, o3, none⟩) ins.length k3, .slice (some ⟨b4, 0, none⟩) outs.length k4, .int .i64 count] [.int .i64 10, .int .i64 d, .int .i64 a, .int .i64 k] [.slice none 0 0, .int .i64 0, .slice none 0 0, .int .i64 0, .bool false, .bool false, .int .i64 0, .slice none 0 0, .slice none 0 0, .int .i64 0] 25 38 25)
  have ZT0 := IsT.new ((w.alloc (.cells #[.slice (some ⟨b1, o1, none⟩) regs.length k1, .int .i64 pc, .slice (some ⟨b2, o2, none⟩) mem.length k2, .int .i64 save, .bool lets, .bool waits, .int .i64 halt, .slice (some ⟨b3, o3, none⟩) ins.length k3, .slice (some ⟨b4, 0, none⟩) outs.length k4, .int .i64 count] 25)).alloc (.cells #[.int .i64 10, .int .i64 d, .int .i64 a, .int .i64 k] 38)) #[.slice none 0 0, .int .i64 0, .slice none 0 0, .int .i64 0, .bool false, .bool false, .int .i64 0, .slice none 0 0, .slice none 0 0, .int .i64 0] 25
  have e1 : ((w.alloc (.cells #[.slice (some ⟨b1, o1, none⟩) regs.length k1, .int .i64 pc, .slice (some ⟨b2, o2, none⟩) mem.length k2, .int .i64 save, .bool lets, .bool waits, .int .i64 halt, .slice (some ⟨b3, o3, none⟩) ins.length k3, .slice (some ⟨b4, 0, none⟩) outs.length k4, .int .i64 count] 25)).alloc (.cells #[.int .i64 10, .int .i64 d, .int .i64 a, .int .i64 k] 38)).heap.size = w.heap.size + 1 + 1 := by simp
  rw [e1] at ZT0
  have ZT := hide ZT0
  have kk : w.heap.size ≤ w.heap.size + 1 + 1 := by omega
  have HM : Hid (doM ⟨regs, pc, mem, save, lets, waits, halt, ins, outs, count⟩ 10 d a k = reachM ⟨regs, pc, mem, save, lets, waits, halt, ins, outs, count⟩ 10 d a k) := show _ = _ by unfold doM; simp
  have HF : Hid (Fit ⟨regs, pc, mem, save, lets, waits, halt, ins, outs, count⟩) := HF0
  have H := hide HX
  clear h HX ex ey ZT0 e1 bX rw_ fx fy
  simp only [mv] at *
  have HN := hide hn
  clear hn HF0
  go_enter Tryz.func39, Tryz.ntmps39
  go_wp2_with fail
  refine (l3Reach_no _ d a k 10 lo _ _ H.out HF.out hd ha k0 k1' HN.out).mono ?_
  rintro e u ⟨c', rfl, Cu, hi⟩
  obtain ⟨r5, e5⟩ : ∃ r5, reachM ⟨regs, pc, mem, save, lets, waits, halt, ins, outs, count⟩ 10 d a k = r5 := ⟨_, rfl⟩
  rw [e5] at HM Cu
  obtain ⟨f1, g1, h1, f2, g2, h2, f3, g3, h3, f4, h4, rfl⟩ := forms Cu
  obtain ⟨regs5, pc5, mem5, save5, lets5, waits5, halt5, ins5, outs5, count5⟩ := r5
  have Zu := Rec.ints T.out.o ZT.out mach_int hi
  have ZTu := hide (ZT.out.ints mach_int hi)
  have Bu := hide ((Ints.of_below (lo := lo) T.out.bw).trans hi)
  have CU := hide Cu
  have z0 := Zu.cell 0 _ rfl
  have y0 := Zu.soft 0
  have z1 := Zu.cell 1 _ rfl
  have y1 := Zu.soft 1
  have z2 := Zu.cell 2 _ rfl
  have y2 := Zu.soft 2
  have z3 := Zu.cell 3 _ rfl
  have y3 := Zu.soft 3
  have z4 := Zu.cell 4 _ rfl
  have y4 := Zu.soft 4
  have z5 := Zu.cell 5 _ rfl
  have y5 := Zu.soft 5
  have z6 := Zu.cell 6 _ rfl
  have y6 := Zu.soft 6
  have z7 := Zu.cell 7 _ rfl
  have y7 := Zu.soft 7
  have z8 := Zu.cell 8 _ rfl
  have y8 := Zu.soft 8
  have z9 := Zu.cell 9 _ rfl
  have y9 := Zu.soft 9
  clear T H ZT hi Zu Cu cx cy HN HF e5
  simp only [mv] at *
  go_wp2
  exact bodyPost_ret (v := .agg #[.slice (some ⟨f1, g1, none⟩) regs5.length h1, .int .i64 pc5, .slice (some ⟨f2, g2, none⟩) mem5.length h2, .int .i64 save5, .bool lets5, .bool waits5, .int .i64 halt5, .slice (some ⟨f3, g3, none⟩) ins5.length h3, .slice (some ⟨f4, 0, none⟩) outs5.length h4, .int .i64 count5]) (by simp [results, Tryz.results39, go_sem, z0, z1, z2, z3, z4, z5, z6, z7, z8, z9]) rfl ⟨_, rfl, by rw [HM.out]; exact CU.out.ten ZTu.out mach_int _ _ _ _ _ _ _ _ _ _, ints_ten Bu.out kk _ _ _ _ _ _ _ _ _ _⟩
set_option maxRecDepth 8000 in
set_option maxHeartbeats 4000000 in
theorem l3Do_10yes (m : M) (d a : Nat) (k : Int) (lo : Nat) (c : List Value) (w : World) (h : CMach w lo c m) (hf : Fit m) (hd : d < 4) (ha : a < 4) (k0 : 0 ≤ k) (k1' : k ≤ 255) (hn : ¬ 64 ≤ (m.regs.getD a 0 + k) % 65536) :
    Calls Tryz.prog 39 #[.agg c.toArray, .agg #[.int .i64 10, .int .i64 d, .int .i64 a, .int .i64 k]] w fun e w' => ∃ c', e = .returned (.agg c'.toArray) ∧ CMach w' lo c' (doM m 10 d a k) ∧ Ints lo w w' := by
  obtain ⟨b1, o1, k1, b2, o2, k2, b3, o3, k3, b4, k4, rfl⟩ := forms h
  obtain ⟨regs, pc, mem, save, lets, waits, halt, ins, outs, count⟩ := m
  have HF0 := hf
  obtain ⟨r4, m64, rw_, mw_, p0, p1, c0, c1⟩ := hf
  have la : a < regs.length := by rw [show regs.length = 4 from r4]; exact ha
  have ld : d < regs.length := by rw [show regs.length = 4 from r4]; exact hd
  have lr : regs.length ≤ 1000 := by rw [show regs.length = 4 from r4]; omega
  have la' : ((a : Nat) : Int) < (regs.length : Int) := by omega
  have ld' : ((d : Nat) : Int) < (regs.length : Int) := by omega
  have R4 := hide r4
  clear r4 m64 mw_
  have bX : Below w.heap.size w (((w.alloc (.cells #[.slice (some ⟨b1, o1, none⟩) regs.length k1, .int .i64 pc, .slice (some ⟨b2, o2, none⟩) mem.length k2, .int .i64 save, .bool lets, .bool waits, .int .i64 halt, .slice (some ⟨b3, o3, none⟩) ins.length k3, .slice (some ⟨b4, 0, none⟩) outs.length k4, .int .i64 count] 25)).alloc (.cells #[.int .i64 10, .int .i64 d, .int .i64 a, .int .i64 k] 38)).alloc (.cells #[.slice none 0 0, .int .i64 0, .slice none 0 0, .int .i64 0, .bool false, .bool false, .int .i64 0, .slice none 0 0, .slice none 0 0, .int .i64 0] 25)) := (((Below.refl _ _).alloc (Nat.le_refl _) _).alloc (by simp) _).alloc (by simp; omega) _
  have HX := h.below bX
  obtain ⟨x, ex⟩ : ∃ x, regs[a]? = some x := ⟨_, List.getElem?_eq_getElem la⟩
  obtain ⟨y, ey⟩ : ∃ y, regs[d]? = some y := ⟨_, List.getElem?_eq_getElem ld⟩
  have bx := rw_ a x ex
  have by_ := rw_ d y ey
  obtain ⟨cx, fx⟩ := row_at HX.parts.1 ex
  obtain ⟨cy, fy⟩ := row_at HX.parts.1 ey
  have GX := hide (getD_of ex)
  have GY := hide (getD_of ey)
  have T := hide (Three.new w [.slice (some ⟨b1, o1, none⟩) regs.length k1, .int .i64 pc, .slice (some ⟨b2, o2, none⟩) mem.length k2, .int .i64 save, .bool lets, .bool waits, .int .i64 halt, .slice (some ⟨b3, o3, none⟩) ins.length k3, .slice (some ⟨b4, 0, none⟩) outs.length k4, .int .i64 count] [.int .i64 10, .int .i64 d, .int .i64 a, .int .i64 k] [.slice none 0 0, .int .i64 0, .slice none 0 0, .int .i64 0, .bool false, .bool false, .int .i64 0, .slice none 0 0, .slice none 0 0, .int .i64 0] 25 38 25)
  have ZT0 := IsT.new ((w.alloc (.cells #[.slice (some ⟨b1, o1, none⟩) regs.length k1, .int .i64 pc, .slice (some ⟨b2, o2, none⟩) mem.length k2, .int .i64 save, .bool lets, .bool waits, .int .i64 halt, .slice (some ⟨b3, o3, none⟩) ins.length k3, .slice (some ⟨b4, 0, none⟩) outs.length k4, .int .i64 count] 25)).alloc (.cells #[.int .i64 10, .int .i64 d, .int .i64 a, .int .i64 k] 38)) #[.slice none 0 0, .int .i64 0, .slice none 0 0, .int .i64 0, .bool false, .bool false, .int .i64 0, .slice none 0 0, .slice none 0 0, .int .i64 0] 25
  have e1 : ((w.alloc (.cells #[.slice (some ⟨b1, o1, none⟩) regs.length k1, .int .i64 pc, .slice (some ⟨b2, o2, none⟩) mem.length k2, .int .i64 save, .bool lets, .bool waits, .int .i64 halt, .slice (some ⟨b3, o3, none⟩) ins.length k3, .slice (some ⟨b4, 0, none⟩) outs.length k4, .int .i64 count] 25)).alloc (.cells #[.int .i64 10, .int .i64 d, .int .i64 a, .int .i64 k] 38)).heap.size = w.heap.size + 1 + 1 := by simp
  rw [e1] at ZT0
  have ZT := hide ZT0
  have kk : w.heap.size ≤ w.heap.size + 1 + 1 := by omega
  have HM : Hid (doM ⟨regs, pc, mem, save, lets, waits, halt, ins, outs, count⟩ 10 d a k = reachM ⟨regs, pc, mem, save, lets, waits, halt, ins, outs, count⟩ 10 d a k) := show _ = _ by unfold doM; simp
  have HF : Hid (Fit ⟨regs, pc, mem, save, lets, waits, halt, ins, outs, count⟩) := HF0
  have H := hide HX
  clear h HX ex ey ZT0 e1 bX rw_ fx fy
  simp only [mv] at *
  have HN := hide hn
  clear hn HF0
  go_enter Tryz.func39, Tryz.ntmps39
  go_wp2_with fail
  refine (l3Reach_store _ d a k lo _ _ H.out HF.out hd ha k0 k1' (Int.not_le.2 HN.out)).mono ?_
  rintro e u ⟨c', rfl, Cu, hi⟩
  obtain ⟨r5, e5⟩ : ∃ r5, reachM ⟨regs, pc, mem, save, lets, waits, halt, ins, outs, count⟩ 10 d a k = r5 := ⟨_, rfl⟩
  rw [e5] at HM Cu
  obtain ⟨f1, g1, h1, f2, g2, h2, f3, g3, h3, f4, h4, rfl⟩ := forms Cu
  obtain ⟨regs5, pc5, mem5, save5, lets5, waits5, halt5, ins5, outs5, count5⟩ := r5
  have Zu := Rec.ints T.out.o ZT.out mach_int hi
  have ZTu := hide (ZT.out.ints mach_int hi)
  have Bu := hide ((Ints.of_below (lo := lo) T.out.bw).trans hi)
  have CU := hide Cu
  have z0 := Zu.cell 0 _ rfl
  have y0 := Zu.soft 0
  have z1 := Zu.cell 1 _ rfl
  have y1 := Zu.soft 1
  have z2 := Zu.cell 2 _ rfl
  have y2 := Zu.soft 2
  have z3 := Zu.cell 3 _ rfl
  have y3 := Zu.soft 3
  have z4 := Zu.cell 4 _ rfl
  have y4 := Zu.soft 4
  have z5 := Zu.cell 5 _ rfl
  have y5 := Zu.soft 5
  have z6 := Zu.cell 6 _ rfl
  have y6 := Zu.soft 6
  have z7 := Zu.cell 7 _ rfl
  have y7 := Zu.soft 7
  have z8 := Zu.cell 8 _ rfl
  have y8 := Zu.soft 8
  have z9 := Zu.cell 9 _ rfl
  have y9 := Zu.soft 9
  clear T H ZT hi Zu Cu cx cy HN HF e5
  simp only [mv] at *
  go_wp2
  exact bodyPost_ret (v := .agg #[.slice (some ⟨f1, g1, none⟩) regs5.length h1, .int .i64 pc5, .slice (some ⟨f2, g2, none⟩) mem5.length h2, .int .i64 save5, .bool lets5, .bool waits5, .int .i64 halt5, .slice (some ⟨f3, g3, none⟩) ins5.length h3, .slice (some ⟨f4, 0, none⟩) outs5.length h4, .int .i64 count5]) (by simp [results, Tryz.results39, go_sem, z0, z1, z2, z3, z4, z5, z6, z7, z8, z9]) rfl ⟨_, rfl, by rw [HM.out]; exact CU.out.ten ZTu.out mach_int _ _ _ _ _ _ _ _ _ _, ints_ten Bu.out kk _ _ _ _ _ _ _ _ _ _⟩
end Go.Proofs.YtnhpmbhphbphaaaGreat.Mch
