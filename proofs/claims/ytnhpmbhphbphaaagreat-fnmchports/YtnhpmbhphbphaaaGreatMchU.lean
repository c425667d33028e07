/-
  The specification's l3Port where a word comes in, and l3Do where it shifts, reckons, lets words in and out: contracts.
-/
import Derived.Test.YtnhpmbhphbphaaaGreatMchT
namespace Go.Proofs.YtnhpmbhphbphaaaGreat.Mch
open Go.ChangeShapes Go.WideShapes Go.ChangeAt Go.RowKit IntS
theorem CMach.pop {w : World} {lo b1 o1 k1 b2 o2 k2 b3 o3 k3 b4 k4 o3' k3' : Nat} {regs mem outs r : List Int} {x pc save halt count : Int} {lets waits : Bool}
    (h : CMach w lo (mv ⟨regs, pc, mem, save, lets, waits, halt, x :: r, outs, count⟩ (.slice (some ⟨b1, o1, none⟩) regs.length k1) (.slice (some ⟨b2, o2, none⟩) mem.length k2) (.slice (some ⟨b3, o3, none⟩) (x :: r).length k3) (.slice (some ⟨b4, 0, none⟩) outs.length k4)) ⟨regs, pc, mem, save, lets, waits, halt, x :: r, outs, count⟩)
    (hr : r = [] ∨ o3' = o3 + 1) (hk : r.length ≤ k3') (hm : k3' ≤ maxLen) :
    CMach w lo (mv ⟨regs, pc, mem, save, lets, waits, halt, r, outs, count⟩ (.slice (some ⟨b1, o1, none⟩) regs.length k1) (.slice (some ⟨b2, o2, none⟩) mem.length k2) (.slice (some ⟨b3, o3', none⟩) r.length k3') (.slice (some ⟨b4, 0, none⟩) outs.length k4)) ⟨regs, pc, mem, save, lets, waits, halt, r, outs, count⟩ := by
  obtain ⟨h1, h2, h3, h4, hlo, hd, t1, t2, t3, t4⟩ := h.parts
  refine ⟨b1, b2, b3, b4, o1, o2, o3', k1, k2, k3', k4, rfl, h1, h2, ?_, h4, hlo, hd, t1, t2, t3, t4⟩
  obtain ⟨a, cap, off, e1, e2, e3, ez, e4⟩ := h3
  refine ⟨some ⟨b3, o3', none⟩, k3', o3', rfl, hk, hm, (fun h => by cases h), ?_⟩
  rcases hr with hr | hr
  · exact Or.inl hr
  · obtain ⟨ea, el, ec⟩ := e4.resolve_left (by simp)
    cases e1
    cases ea
    subst hr
    refine Or.inr ⟨rfl, el, fun i y hy => ?_⟩
    have := ec (i + 1) y (by simpa using hy)
    rw [show o3 + 1 + i = o3 + (i + 1) by omega]
    exact this
theorem ins_cap {w : World} {lo b1 o1 k1 b2 o2 k2 b3 o3 k3 b4 k4 : Nat} {m : M} (h : CMach w lo (mv m (.slice (some ⟨b1, o1, none⟩) m.regs.length k1) (.slice (some ⟨b2, o2, none⟩) m.mem.length k2) (.slice (some ⟨b3, o3, none⟩) m.ins.length k3) (.slice (some ⟨b4, 0, none⟩) m.outs.length k4)) m) : m.ins.length ≤ k3 ∧ k3 ≤ maxLen := by
  obtain ⟨h1, h2, ⟨a, cap, off, e1, e2, e3, _⟩, _⟩ := h.parts
  cases e1
  exact ⟨e2, e3⟩
theorem rec_ten {Z Y : Nat} {cs : List Value} {w : World} (h : Rec Z cs w) (hY : Y ≠ Z) (v0 v1 v2 v3 v4 v5 v6 v7 v8 v9 : Value) : Rec Z cs ((((((((((w.setCell ⟨Y, 0, none⟩ v0).setCell ⟨Y, 1, none⟩ v1).setCell ⟨Y, 2, none⟩ v2).setCell ⟨Y, 3, none⟩ v3).setCell ⟨Y, 4, none⟩ v4).setCell ⟨Y, 5, none⟩ v5).setCell ⟨Y, 6, none⟩ v6).setCell ⟨Y, 7, none⟩ v7).setCell ⟨Y, 8, none⟩ v8).setCell ⟨Y, 9, none⟩ v9) :=
  (((((((((h.other ⟨Y, 0, none⟩ v0 hY).other ⟨Y, 1, none⟩ v1 hY).other ⟨Y, 2, none⟩ v2 hY).other ⟨Y, 3, none⟩ v3 hY).other ⟨Y, 4, none⟩ v4 hY).other ⟨Y, 5, none⟩ v5 hY).other ⟨Y, 6, none⟩ v6 hY).other ⟨Y, 7, none⟩ v7 hY).other ⟨Y, 8, none⟩ v8 hY).other ⟨Y, 9, none⟩ v9 hY
theorem ins_int : 38 ≠ 3 := by decide
set_option maxRecDepth 8000 in
set_option maxHeartbeats 4000000 in
theorem l3Port_in0 (m : M) (d a : Nat) (k : Int) (lo : Nat) (c : List Value) (w : World) (h : CMach w lo c m) (hf : Fit m) (hd : d < 4) (ha : a < 4) (he : m.ins = []) :
    Calls Tryz.prog 79 #[.agg c.toArray, .agg #[.int .i64 15, .int .i64 d, .int .i64 a, .int .i64 k]] w fun e w' => ∃ c', e = .returned (.agg c'.toArray) ∧ CMach w' lo c' (inM m d) ∧ Ints lo w w' := by
  obtain ⟨b1, o1, k1, b2, o2, k2, b3, o3, k3, b4, k4, rfl⟩ := forms h
  obtain ⟨regs, pc, mem, save, lets, waits, halt, ins, outs, count⟩ := m
  obtain ⟨r4, m64, rw_, mw_, p0, p1, c0, c1⟩ := hf
  have la : a < regs.length := by rw [show regs.length = 4 from r4]; exact ha
  have ld : d < regs.length := by rw [show regs.length = 4 from r4]; exact hd
  have lr : regs.length ≤ 1000 := by rw [show regs.length = 4 from r4]; omega
  have la' : ((a : Nat) : Int) < (regs.length : Int) := by omega
  have ld' : ((d : Nat) : Int) < (regs.length : Int) := by omega
  have R4 := hide r4
  clear r4 m64 mw_
  have bX : Below w.heap.size w (((w.alloc (.cells #[.slice (some ⟨b1, o1, none⟩) regs.length k1, .int .i64 pc, .slice (some ⟨b2, o2, none⟩) mem.length k2, .int .i64 save, .bool lets, .bool waits, .int .i64 halt, .slice (some ⟨b3, o3, none⟩) ins.length k3, .slice (some ⟨b4, 0, none⟩) outs.length k4, .int .i64 count] 25)).alloc (.cells #[.int .i64 15, .int .i64 d, .int .i64 a, .int .i64 k] 38)).alloc (.cells #[.slice none 0 0, .int .i64 0, .slice none 0 0, .int .i64 0, .bool false, .bool false, .int .i64 0, .slice none 0 0, .slice none 0 0, .int .i64 0] 25)) := (((Below.refl _ _).alloc (Nat.le_refl _) _).alloc (by simp) _).alloc (by simp; omega) _
  have HX := h.below bX
  obtain ⟨x, ex⟩ : ∃ x, regs[a]? = some x := ⟨_, List.getElem?_eq_getElem la⟩
  obtain ⟨y, ey⟩ : ∃ y, regs[d]? = some y := ⟨_, List.getElem?_eq_getElem ld⟩
  have bx := rw_ a x ex
  have by_ := rw_ d y ey
  obtain ⟨cx, fx⟩ := row_at HX.parts.1 ex
  obtain ⟨cy, fy⟩ := row_at HX.parts.1 ey
  have GX := hide (getD_of ex)
  have GY := hide (getD_of ey)
  have T := hide (Three.new w [.slice (some ⟨b1, o1, none⟩) regs.length k1, .int .i64 pc, .slice (some ⟨b2, o2, none⟩) mem.length k2, .int .i64 save, .bool lets, .bool waits, .int .i64 halt, .slice (some ⟨b3, o3, none⟩) ins.length k3, .slice (some ⟨b4, 0, none⟩) outs.length k4, .int .i64 count] [.int .i64 15, .int .i64 d, .int .i64 a, .int .i64 k] [.slice none 0 0, .int .i64 0, .slice none 0 0, .int .i64 0, .bool false, .bool false, .int .i64 0, .slice none 0 0, .slice none 0 0, .int .i64 0] 25 38 25)
  have ZT0 := IsT.new ((w.alloc (.cells #[.slice (some ⟨b1, o1, none⟩) regs.length k1, .int .i64 pc, .slice (some ⟨b2, o2, none⟩) mem.length k2, .int .i64 save, .bool lets, .bool waits, .int .i64 halt, .slice (some ⟨b3, o3, none⟩) ins.length k3, .slice (some ⟨b4, 0, none⟩) outs.length k4, .int .i64 count] 25)).alloc (.cells #[.int .i64 15, .int .i64 d, .int .i64 a, .int .i64 k] 38)) #[.slice none 0 0, .int .i64 0, .slice none 0 0, .int .i64 0, .bool false, .bool false, .int .i64 0, .slice none 0 0, .slice none 0 0, .int .i64 0] 25
  have e1 : ((w.alloc (.cells #[.slice (some ⟨b1, o1, none⟩) regs.length k1, .int .i64 pc, .slice (some ⟨b2, o2, none⟩) mem.length k2, .int .i64 save, .bool lets, .bool waits, .int .i64 halt, .slice (some ⟨b3, o3, none⟩) ins.length k3, .slice (some ⟨b4, 0, none⟩) outs.length k4, .int .i64 count] 25)).alloc (.cells #[.int .i64 15, .int .i64 d, .int .i64 a, .int .i64 k] 38)).heap.size = w.heap.size + 1 + 1 := by simp
  rw [e1] at ZT0
  have ZT := hide ZT0
  have kk : w.heap.size ≤ w.heap.size + 1 + 1 := by omega
  have HM : Hid (inM ⟨regs, pc, mem, save, lets, waits, halt, ins, outs, count⟩ d = setM ⟨regs, pc, mem, save, lets, waits, halt, ins, outs, count⟩ d 0) := show _ = _ by unfold inM; rw [show ins = [] from he]
  have l0 : ins.length = 0 := by rw [show ins = [] from he]; rfl
  have l0' : ¬ (0 : Int) < (ins.length : Int) := by omega
  have H := hide HX
  clear h HX ex ey ZT0 e1 bX rw_ fx fy
  simp only [mv] at *
  clear he l0
  go_enter Tryz.func79, Tryz.ntmps79
  go_wp2_with fail
  refine (l3Set _ d 0 lo _ _ H.out ld lr c0 c1 p0 p1).mono ?_
  rintro e u ⟨c', rfl, Cu, hi⟩
  obtain ⟨f1, g1, h1, f2, g2, h2, f3, g3, h3, f4, h4, rfl⟩ := forms Cu
  have Zu := Rec.ints T.out.o ZT.out mach_int hi
  have ZTu := hide (ZT.out.ints mach_int hi)
  have Bu := hide ((Ints.of_below (lo := lo) T.out.bw).trans hi)
  have CU := hide Cu
  have z0 := Zu.cell 0 _ rfl
  have y0 := Zu.soft 0
  have z1 := Zu.cell 1 _ rfl
  have y1 := Zu.soft 1
  have z2 := Zu.cell 2 _ rfl
  have y2 := Zu.soft 2
  have z3 := Zu.cell 3 _ rfl
  have y3 := Zu.soft 3
  have z4 := Zu.cell 4 _ rfl
  have y4 := Zu.soft 4
  have z5 := Zu.cell 5 _ rfl
  have y5 := Zu.soft 5
  have z6 := Zu.cell 6 _ rfl
  have y6 := Zu.soft 6
  have z7 := Zu.cell 7 _ rfl
  have y7 := Zu.soft 7
  have z8 := Zu.cell 8 _ rfl
  have y8 := Zu.soft 8
  have z9 := Zu.cell 9 _ rfl
  have y9 := Zu.soft 9
  clear T H ZT hi Zu Cu cx cy
  simp only [mv, setM, nextM] at *
  go_wp2
  exact bodyPost_ret (v := .agg #[.slice (some ⟨f1, g1, none⟩) (regs.set d 0).length h1, .int .i64 ((pc + 1) % 65536), .slice (some ⟨f2, g2, none⟩) mem.length h2, .int .i64 save, .bool lets, .bool waits, .int .i64 halt, .slice (some ⟨f3, g3, none⟩) ins.length h3, .slice (some ⟨f4, 0, none⟩) outs.length h4, .int .i64 (count + 1)]) (by simp [results, Tryz.results79, go_sem, z0, z1, z2, z3, z4, z5, z6, z7, z8, z9]) rfl ⟨_, rfl, by rw [HM.out]; exact CU.out.ten ZTu.out mach_int _ _ _ _ _ _ _ _ _ _, ints_ten Bu.out kk _ _ _ _ _ _ _ _ _ _⟩
set_option maxRecDepth 8000 in
set_option maxHeartbeats 4000000 in
theorem l3Port_in_one (m : M) (d a : Nat) (k : Int) (lo : Nat) (c : List Value) (w : World) (h : CMach w lo c m) (hf : Fit m) (hd : d < 4) (ha : a < 4) (x0 : Int) (he : m.ins = [x0]) (hk3 : ∀ q1 n1 q2 n2 q3 n3 k3 q4 n4 k1 k2 k4, c = mv m (.slice q1 n1 k1) (.slice q2 n2 k2) (.slice q3 n3 k3) (.slice q4 n4 k4) → k3 = 1) :
    Calls Tryz.prog 79 #[.agg c.toArray, .agg #[.int .i64 15, .int .i64 d, .int .i64 a, .int .i64 k]] w fun e w' => ∃ c', e = .returned (.agg c'.toArray) ∧ CMach w' lo c' (inM m d) ∧ Ints lo w w' := by
  obtain ⟨b1, o1, k1, b2, o2, k2, b3, o3, k3, b4, k4, rfl⟩ := forms h
  obtain ⟨regs, pc, mem, save, lets, waits, halt, ins, outs, count⟩ := m
  obtain ⟨r4, m64, rw_, mw_, p0, p1, c0, c1⟩ := hf
  have la : a < regs.length := by rw [show regs.length = 4 from r4]; exact ha
  have ld : d < regs.length := by rw [show regs.length = 4 from r4]; exact hd
  have lr : regs.length ≤ 1000 := by rw [show regs.length = 4 from r4]; omega
  have la' : ((a : Nat) : Int) < (regs.length : Int) := by omega
  have ld' : ((d : Nat) : Int) < (regs.length : Int) := by omega
  have R4 := hide r4
  clear r4 m64 mw_
  simp only [] at he
  subst he
  have bX : Below w.heap.size w (((w.alloc (.cells #[.slice (some ⟨b1, o1, none⟩) regs.length k1, .int .i64 pc, .slice (some ⟨b2, o2, none⟩) mem.length k2, .int .i64 save, .bool lets, .bool waits, .int .i64 halt, .slice (some ⟨b3, o3, none⟩) 1 k3, .slice (some ⟨b4, 0, none⟩) outs.length k4, .int .i64 count] 25)).alloc (.cells #[.int .i64 15, .int .i64 d, .int .i64 a, .int .i64 k] 38)).alloc (.cells #[.slice none 0 0, .int .i64 0, .slice none 0 0, .int .i64 0, .bool false, .bool false, .int .i64 0, .slice none 0 0, .slice none 0 0, .int .i64 0] 25)) := (((Below.refl _ _).alloc (Nat.le_refl _) _).alloc (by simp) _).alloc (by simp; omega) _
  have HX := h.below bX
  obtain ⟨x, ex⟩ : ∃ x, regs[a]? = some x := ⟨_, List.getElem?_eq_getElem la⟩
  obtain ⟨y, ey⟩ : ∃ y, regs[d]? = some y := ⟨_, List.getElem?_eq_getElem ld⟩
  have bx := rw_ a x ex
  have by_ := rw_ d y ey
  obtain ⟨cx, fx⟩ := row_at HX.parts.1 ex
  obtain ⟨cy, fy⟩ := row_at HX.parts.1 ey
  have K3 := (hk3 _ _ _ _ _ _ _ _ _ _ _ _ rfl)
  subst K3
  obtain ⟨q31, q32⟩ := ins_cap h
  simp only [List.length_cons] at q31
  unfold maxLen at q32
  have bX2 : Below w.heap.size w (((w.alloc (.cells #[.slice (some ⟨b1, o1, none⟩) regs.length k1, .int .i64 pc, .slice (some ⟨b2, o2, none⟩) mem.length k2, .int .i64 save, .bool lets, .bool waits, .int .i64 halt, .slice (some ⟨b3, o3, none⟩) 0 0, .slice (some ⟨b4, 0, none⟩) outs.length k4, .int .i64 count] 25)).alloc (.cells #[.int .i64 15, .int .i64 d, .int .i64 a, .int .i64 k] 38)).alloc (.cells #[.slice none 0 0, .int .i64 0, .slice none 0 0, .int .i64 0, .bool false, .bool false, .int .i64 0, .slice none 0 0, .slice none 0 0, .int .i64 0] 25)) := (((Below.refl _ _).alloc (Nat.le_refl _) _).alloc (by simp) _).alloc (by simp; omega) _
  have HX2 := (CMach.pop (o3' := o3) (k3' := 0) h (Or.inl rfl) (by omega) (by unfold maxLen; omega)).below bX2
  obtain ⟨ci, _⟩ := row_at HX.parts.2.2.1 (show [x0][0]? = some x0 from rfl)
  rw [Nat.add_zero o3] at ci
  have HM : Hid (inM ⟨regs, pc, mem, save, lets, waits, halt, [x0], outs, count⟩ d = setM ⟨regs, pc, mem, save, lets, waits, halt, [], outs, count⟩ d x0) := show _ = _ by unfold inM; rfl
  have GX := hide (getD_of ex)
  have GY := hide (getD_of ey)
  have T := hide (Three.new w [.slice (some ⟨b1, o1, none⟩) regs.length k1, .int .i64 pc, .slice (some ⟨b2, o2, none⟩) mem.length k2, .int .i64 save, .bool lets, .bool waits, .int .i64 halt, .slice (some ⟨b3, o3, none⟩) 0 0, .slice (some ⟨b4, 0, none⟩) outs.length k4, .int .i64 count] [.int .i64 15, .int .i64 d, .int .i64 a, .int .i64 k] [.slice none 0 0, .int .i64 0, .slice none 0 0, .int .i64 0, .bool false, .bool false, .int .i64 0, .slice none 0 0, .slice none 0 0, .int .i64 0] 25 38 25)
  have ZT0 := IsT.new ((w.alloc (.cells #[.slice (some ⟨b1, o1, none⟩) regs.length k1, .int .i64 pc, .slice (some ⟨b2, o2, none⟩) mem.length k2, .int .i64 save, .bool lets, .bool waits, .int .i64 halt, .slice (some ⟨b3, o3, none⟩) 0 0, .slice (some ⟨b4, 0, none⟩) outs.length k4, .int .i64 count] 25)).alloc (.cells #[.int .i64 15, .int .i64 d, .int .i64 a, .int .i64 k] 38)) #[.slice none 0 0, .int .i64 0, .slice none 0 0, .int .i64 0, .bool false, .bool false, .int .i64 0, .slice none 0 0, .slice none 0 0, .int .i64 0] 25
  have e1 : ((w.alloc (.cells #[.slice (some ⟨b1, o1, none⟩) regs.length k1, .int .i64 pc, .slice (some ⟨b2, o2, none⟩) mem.length k2, .int .i64 save, .bool lets, .bool waits, .int .i64 halt, .slice (some ⟨b3, o3, none⟩) 0 0, .slice (some ⟨b4, 0, none⟩) outs.length k4, .int .i64 count] 25)).alloc (.cells #[.int .i64 15, .int .i64 d, .int .i64 a, .int .i64 k] 38)).heap.size = w.heap.size + 1 + 1 := by simp
  rw [e1] at ZT0
  have ZT := hide ZT0
  have kk : w.heap.size ≤ w.heap.size + 1 + 1 := by omega
  have H := hide HX2
  clear h HX HX2 bX2 ex ey ZT0 e1 bX rw_ fx fy
  simp only [mv, List.length_cons, List.length_nil, Nat.zero_add] at *
  clear hk3
  go_enter Tryz.func79, Tryz.ntmps79
  go_wp2_with fail
  refine (l3Set _ d x0 lo _ _ H.out ld lr c0 c1 p0 p1).mono ?_
  rintro e u ⟨c', rfl, Cu, hi⟩
  obtain ⟨f1, g1, h1, f2, g2, h2, f3, g3, h3, f4, h4, rfl⟩ := forms Cu
  have Zu := Rec.ints T.out.o ZT.out mach_int hi
  have ZTu := hide (ZT.out.ints mach_int hi)
  have Bu := hide ((Ints.of_below (lo := lo) T.out.bw).trans hi)
  have CU := hide Cu
  have z0 := Zu.cell 0 _ rfl
  have y0 := Zu.soft 0
  have z1 := Zu.cell 1 _ rfl
  have y1 := Zu.soft 1
  have z2 := Zu.cell 2 _ rfl
  have y2 := Zu.soft 2
  have z3 := Zu.cell 3 _ rfl
  have y3 := Zu.soft 3
  have z4 := Zu.cell 4 _ rfl
  have y4 := Zu.soft 4
  have z5 := Zu.cell 5 _ rfl
  have y5 := Zu.soft 5
  have z6 := Zu.cell 6 _ rfl
  have y6 := Zu.soft 6
  have z7 := Zu.cell 7 _ rfl
  have y7 := Zu.soft 7
  have z8 := Zu.cell 8 _ rfl
  have y8 := Zu.soft 8
  have z9 := Zu.cell 9 _ rfl
  have y9 := Zu.soft 9
  clear T H ZT hi Zu Cu cx cy ci
  simp only [mv, setM, nextM] at *
  go_wp2
  exact bodyPost_ret (v := .agg #[.slice (some ⟨f1, g1, none⟩) (regs.set d x0).length h1, .int .i64 ((pc + 1) % 65536), .slice (some ⟨f2, g2, none⟩) mem.length h2, .int .i64 save, .bool lets, .bool waits, .int .i64 halt, .slice (some ⟨f3, g3, none⟩) 0 h3, .slice (some ⟨f4, 0, none⟩) outs.length h4, .int .i64 (count + 1)]) (by simp [results, Tryz.results79, go_sem, z0, z1, z2, z3, z4, z5, z6, z7, z8, z9]) rfl ⟨_, rfl, by rw [HM.out]; exact CU.out.ten ZTu.out mach_int _ _ _ _ _ _ _ _ _ _, ints_ten Bu.out kk _ _ _ _ _ _ _ _ _ _⟩
set_option maxRecDepth 8000 in
set_option maxHeartbeats 4000000 in
theorem l3Port_in_more (m : M) (d a : Nat) (k : Int) (lo : Nat) (c : List Value) (w : World) (h : CMach w lo c m) (hf : Fit m) (hd : d < 4) (ha : a < 4) (x0 : Int) (r : List Int) (he : m.ins = x0 :: r) (hk3 : ∀ q1 n1 q2 n2 q3 n3 k3 q4 n4 k1 k2 k4, c = mv m (.slice q1 n1 k1) (.slice q2 n2 k2) (.slice q3 n3 k3) (.slice q4 n4 k4) → k3 ≠ 1) :
    Calls Tryz.prog 79 #[.agg c.toArray, .agg #[.int .i64 15, .int .i64 d, .int .i64 a, .int .i64 k]] w fun e w' => ∃ c', e = .returned (.agg c'.toArray) ∧ CMach w' lo c' (inM m d) ∧ Ints lo w w' := by
  obtain ⟨b1, o1, k1, b2, o2, k2, b3, o3, k3, b4, k4, rfl⟩ := forms h
  obtain ⟨regs, pc, mem, save, lets, waits, halt, ins, outs, count⟩ := m
  obtain ⟨r4, m64, rw_, mw_, p0, p1, c0, c1⟩ := hf
  have la : a < regs.length := by rw [show regs.length = 4 from r4]; exact ha
  have ld : d < regs.length := by rw [show regs.length = 4 from r4]; exact hd
  have lr : regs.length ≤ 1000 := by rw [show regs.length = 4 from r4]; omega
  have la' : ((a : Nat) : Int) < (regs.length : Int) := by omega
  have ld' : ((d : Nat) : Int) < (regs.length : Int) := by omega
  have R4 := hide r4
  clear r4 m64 mw_
  simp only [] at he
  subst he
  have bX : Below w.heap.size w (((w.alloc (.cells #[.slice (some ⟨b1, o1, none⟩) regs.length k1, .int .i64 pc, .slice (some ⟨b2, o2, none⟩) mem.length k2, .int .i64 save, .bool lets, .bool waits, .int .i64 halt, .slice (some ⟨b3, o3, none⟩) (r.length + 1) k3, .slice (some ⟨b4, 0, none⟩) outs.length k4, .int .i64 count] 25)).alloc (.cells #[.int .i64 15, .int .i64 d, .int .i64 a, .int .i64 k] 38)).alloc (.cells #[.slice none 0 0, .int .i64 0, .slice none 0 0, .int .i64 0, .bool false, .bool false, .int .i64 0, .slice none 0 0, .slice none 0 0, .int .i64 0] 25)) := (((Below.refl _ _).alloc (Nat.le_refl _) _).alloc (by simp) _).alloc (by simp; omega) _
  have HX := h.below bX
  obtain ⟨x, ex⟩ : ∃ x, regs[a]? = some x := ⟨_, List.getElem?_eq_getElem la⟩
  obtain ⟨y, ey⟩ : ∃ y, regs[d]? = some y := ⟨_, List.getElem?_eq_getElem ld⟩
  have bx := rw_ a x ex
  have by_ := rw_ d y ey
  obtain ⟨cx, fx⟩ := row_at HX.parts.1 ex
  obtain ⟨cy, fy⟩ := row_at HX.parts.1 ey
  have K3 := (hk3 _ _ _ _ _ _ _ _ _ _ _ _ rfl)

  obtain ⟨q31, q32⟩ := ins_cap h
  simp only [List.length_cons] at q31
  unfold maxLen at q32
  have bX2 : Below w.heap.size w (((w.alloc (.cells #[.slice (some ⟨b1, o1, none⟩) regs.length k1, .int .i64 pc, .slice (some ⟨b2, o2, none⟩) mem.length k2, .int .i64 save, .bool lets, .bool waits, .int .i64 halt, .slice (some ⟨b3, o3 + 1, none⟩) r.length (k3 - 1), .slice (some ⟨b4, 0, none⟩) outs.length k4, .int .i64 count] 25)).alloc (.cells #[.int .i64 15, .int .i64 d, .int .i64 a, .int .i64 k] 38)).alloc (.cells #[.slice none 0 0, .int .i64 0, .slice none 0 0, .int .i64 0, .bool false, .bool false, .int .i64 0, .slice none 0 0, .slice none 0 0, .int .i64 0] 25)) := (((Below.refl _ _).alloc (Nat.le_refl _) _).alloc (by simp) _).alloc (by simp; omega) _
  have HX2 := (CMach.pop (o3' := o3 + 1) (k3' := k3 - 1) h (by exact Or.inr rfl) (by omega) (by unfold maxLen; omega)).below bX2
  obtain ⟨ci, _⟩ := row_at HX.parts.2.2.1 (show (x0 :: r)[0]? = some x0 from rfl)
  rw [Nat.add_zero o3] at ci
  have HM : Hid (inM ⟨regs, pc, mem, save, lets, waits, halt, x0 :: r, outs, count⟩ d = setM ⟨regs, pc, mem, save, lets, waits, halt, r, outs, count⟩ d x0) := show _ = _ by unfold inM; rfl
  have GX := hide (getD_of ex)
  have GY := hide (getD_of ey)
  have T := hide (Three.new w [.slice (some ⟨b1, o1, none⟩) regs.length k1, .int .i64 pc, .slice (some ⟨b2, o2, none⟩) mem.length k2, .int .i64 save, .bool lets, .bool waits, .int .i64 halt, .slice (some ⟨b3, o3 + 1, none⟩) r.length (k3 - 1), .slice (some ⟨b4, 0, none⟩) outs.length k4, .int .i64 count] [.int .i64 15, .int .i64 d, .int .i64 a, .int .i64 k] [.slice none 0 0, .int .i64 0, .slice none 0 0, .int .i64 0, .bool false, .bool false, .int .i64 0, .slice none 0 0, .slice none 0 0, .int .i64 0] 25 38 25)
  have ZT0 := IsT.new ((w.alloc (.cells #[.slice (some ⟨b1, o1, none⟩) regs.length k1, .int .i64 pc, .slice (some ⟨b2, o2, none⟩) mem.length k2, .int .i64 save, .bool lets, .bool waits, .int .i64 halt, .slice (some ⟨b3, o3 + 1, none⟩) r.length (k3 - 1), .slice (some ⟨b4, 0, none⟩) outs.length k4, .int .i64 count] 25)).alloc (.cells #[.int .i64 15, .int .i64 d, .int .i64 a, .int .i64 k] 38)) #[.slice none 0 0, .int .i64 0, .slice none 0 0, .int .i64 0, .bool false, .bool false, .int .i64 0, .slice none 0 0, .slice none 0 0, .int .i64 0] 25
  have e1 : ((w.alloc (.cells #[.slice (some ⟨b1, o1, none⟩) regs.length k1, .int .i64 pc, .slice (some ⟨b2, o2, none⟩) mem.length k2, .int .i64 save, .bool lets, .bool waits, .int .i64 halt, .slice (some ⟨b3, o3 + 1, none⟩) r.length (k3 - 1), .slice (some ⟨b4, 0, none⟩) outs.length k4, .int .i64 count] 25)).alloc (.cells #[.int .i64 15, .int .i64 d, .int .i64 a, .int .i64 k] 38)).heap.size = w.heap.size + 1 + 1 := by simp
  rw [e1] at ZT0
  have ZT := hide ZT0
  have kk : w.heap.size ≤ w.heap.size + 1 + 1 := by omega
  have H := hide HX2
  clear h HX HX2 bX2 ex ey ZT0 e1 bX rw_ fx fy
  simp only [mv, List.length_cons] at *
  clear hk3
  go_enter Tryz.func79, Tryz.ntmps79
  go_wp2_with fail
  refine (l3Set _ d x0 lo _ _ H.out ld lr c0 c1 p0 p1).mono ?_
  rintro e u ⟨c', rfl, Cu, hi⟩
  obtain ⟨f1, g1, h1, f2, g2, h2, f3, g3, h3, f4, h4, rfl⟩ := forms Cu
  have Zu := Rec.ints T.out.o ZT.out mach_int hi
  have ZTu := hide (ZT.out.ints mach_int hi)
  have Bu := hide ((Ints.of_below (lo := lo) T.out.bw).trans hi)
  have CU := hide Cu
  have z0 := Zu.cell 0 _ rfl
  have y0 := Zu.soft 0
  have z1 := Zu.cell 1 _ rfl
  have y1 := Zu.soft 1
  have z2 := Zu.cell 2 _ rfl
  have y2 := Zu.soft 2
  have z3 := Zu.cell 3 _ rfl
  have y3 := Zu.soft 3
  have z4 := Zu.cell 4 _ rfl
  have y4 := Zu.soft 4
  have z5 := Zu.cell 5 _ rfl
  have y5 := Zu.soft 5
  have z6 := Zu.cell 6 _ rfl
  have y6 := Zu.soft 6
  have z7 := Zu.cell 7 _ rfl
  have y7 := Zu.soft 7
  have z8 := Zu.cell 8 _ rfl
  have y8 := Zu.soft 8
  have z9 := Zu.cell 9 _ rfl
  have y9 := Zu.soft 9
  clear T H ZT hi Zu Cu cx cy ci
  simp only [mv, setM, nextM] at *
  go_wp2
  exact bodyPost_ret (v := .agg #[.slice (some ⟨f1, g1, none⟩) (regs.set d x0).length h1, .int .i64 ((pc + 1) % 65536), .slice (some ⟨f2, g2, none⟩) mem.length h2, .int .i64 save, .bool lets, .bool waits, .int .i64 halt, .slice (some ⟨f3, g3, none⟩) r.length h3, .slice (some ⟨f4, 0, none⟩) outs.length h4, .int .i64 (count + 1)]) (by simp [results, Tryz.results79, go_sem, z0, z1, z2, z3, z4, z5, z6, z7, z8, z9]) rfl ⟨_, rfl, by rw [HM.out]; exact CU.out.ten ZTu.out mach_int _ _ _ _ _ _ _ _ _ _, ints_ten Bu.out kk _ _ _ _ _ _ _ _ _ _⟩
theorem l3Port_in (m : M) (d a : Nat) (k : Int) (lo : Nat) (c : List Value) (w : World) (h : CMach w lo c m) (hf : Fit m) (hd : d < 4) (ha : a < 4) :
    Calls Tryz.prog 79 #[.agg c.toArray, .agg #[.int .i64 15, .int .i64 d, .int .i64 a, .int .i64 k]] w fun e w' => ∃ c', e = .returned (.agg c'.toArray) ∧ CMach w' lo c' (inM m d) ∧ Ints lo w w' := by
  cases he : m.ins with
  | nil => exact l3Port_in0 m d a k lo c w h hf hd ha he
  | cons x0 r =>
    obtain ⟨b1, o1, k1, b2, o2, k2, b3, o3, k3, b4, k4, hc⟩ := forms h
    have inj : ∀ q1 n1 q2 n2 q3 n3 k3' q4 n4 k1' k2' k4', c = mv m (.slice q1 n1 k1') (.slice q2 n2 k2') (.slice q3 n3 k3') (.slice q4 n4 k4') → k3' = k3 := fun q1 n1 q2 n2 q3 n3 k3' q4 n4 k1' k2' k4' e => by
      rw [hc] at e
      simp only [mv, List.cons.injEq, Value.slice.injEq, and_true, true_and] at e
      exact e.2.2.1.2.2.symm
    by_cases hk : k3 = 1
    · have hr : r = [] := by
        rw [hc] at h
        have := (ins_cap h).1
        rw [he, hk] at this
        exact List.length_eq_zero_iff.1 (by simpa using this)
      subst hr
      exact l3Port_in_one m d a k lo c w h hf hd ha x0 he (fun q1 n1 q2 n2 q3 n3 k3' q4 n4 k1' k2' k4' e => (inj _ _ _ _ _ _ _ _ _ _ _ _ e).trans hk)
    · exact l3Port_in_more m d a k lo c w h hf hd ha x0 r he (fun q1 n1 q2 n2 q3 n3 k3' q4 n4 k1' k2' k4' e => by rw [inj _ _ _ _ _ _ _ _ _ _ _ _ e]; exact hk)
set_option maxRecDepth 8000 in
set_option maxHeartbeats 4000000 in
theorem l3Do_14 (m : M) (d a : Nat) (k : Int) (lo : Nat) (c : List Value) (w : World) (h : CMach w lo c m) (hf : Fit m) (hd : d < 4) (ha : a < 4) (hlo : lo ≤ w.heap.size) (hl9 : m.outs.length ≤ 1000000000) :
    Calls Tryz.prog 39 #[.agg c.toArray, .agg #[.int .i64 14, .int .i64 d, .int .i64 a, .int .i64 k]] w fun e w' => ∃ c', e = .returned (.agg c'.toArray) ∧ CMach w' lo c' (doM m 14 d a k) ∧ Ints lo w w' := by
  obtain ⟨b1, o1, k1, b2, o2, k2, b3, o3, k3, b4, k4, rfl⟩ := forms h
  have L9 := hide hl9
  obtain ⟨regs, pc, mem, save, lets, waits, halt, ins, outs, count⟩ := m
  clear hl9
  have HF0 := hf
  obtain ⟨r4, m64, rw_, mw_, p0, p1, c0, c1⟩ := hf
  have la : a < regs.length := by rw [show regs.length = 4 from r4]; exact ha
  have ld : d < regs.length := by rw [show regs.length = 4 from r4]; exact hd
  have lr : regs.length ≤ 1000 := by rw [show regs.length = 4 from r4]; omega
  have la' : ((a : Nat) : Int) < (regs.length : Int) := by omega
  have ld' : ((d : Nat) : Int) < (regs.length : Int) := by omega
  have R4 := hide r4
  clear r4 m64 mw_
  have bX : Below w.heap.size w (((w.alloc (.cells #[.slice (some ⟨b1, o1, none⟩) regs.length k1, .int .i64 pc, .slice (some ⟨b2, o2, none⟩) mem.length k2, .int .i64 save, .bool lets, .bool waits, .int .i64 halt, .slice (some ⟨b3, o3, none⟩) ins.length k3, .slice (some ⟨b4, 0, none⟩) outs.length k4, .int .i64 count] 25)).alloc (.cells #[.int .i64 14, .int .i64 d, .int .i64 a, .int .i64 k] 38)).alloc (.cells #[.slice none 0 0, .int .i64 0, .slice none 0 0, .int .i64 0, .bool false, .bool false, .int .i64 0, .slice none 0 0, .slice none 0 0, .int .i64 0] 25)) := (((Below.refl _ _).alloc (Nat.le_refl _) _).alloc (by simp) _).alloc (by simp; omega) _
  have HX := h.below bX
  obtain ⟨x, ex⟩ : ∃ x, regs[a]? = some x := ⟨_, List.getElem?_eq_getElem la⟩
  obtain ⟨y, ey⟩ : ∃ y, regs[d]? = some y := ⟨_, List.getElem?_eq_getElem ld⟩
  have bx := rw_ a x ex
  have by_ := rw_ d y ey
  obtain ⟨cx, fx⟩ := row_at HX.parts.1 ex
  obtain ⟨cy, fy⟩ := row_at HX.parts.1 ey
  have GX := hide (getD_of ex)
  have GY := hide (getD_of ey)
  have T := hide (Three.new w [.slice (some ⟨b1, o1, none⟩) regs.length k1, .int .i64 pc, .slice (some ⟨b2, o2, none⟩) mem.length k2, .int .i64 save, .bool lets, .bool waits, .int .i64 halt, .slice (some ⟨b3, o3, none⟩) ins.length k3, .slice (some ⟨b4, 0, none⟩) outs.length k4, .int .i64 count] [.int .i64 14, .int .i64 d, .int .i64 a, .int .i64 k] [.slice none 0 0, .int .i64 0, .slice none 0 0, .int .i64 0, .bool false, .bool false, .int .i64 0, .slice none 0 0, .slice none 0 0, .int .i64 0] 25 38 25)
  have ZT0 := IsT.new ((w.alloc (.cells #[.slice (some ⟨b1, o1, none⟩) regs.length k1, .int .i64 pc, .slice (some ⟨b2, o2, none⟩) mem.length k2, .int .i64 save, .bool lets, .bool waits, .int .i64 halt, .slice (some ⟨b3, o3, none⟩) ins.length k3, .slice (some ⟨b4, 0, none⟩) outs.length k4, .int .i64 count] 25)).alloc (.cells #[.int .i64 14, .int .i64 d, .int .i64 a, .int .i64 k] 38)) #[.slice none 0 0, .int .i64 0, .slice none 0 0, .int .i64 0, .bool false, .bool false, .int .i64 0, .slice none 0 0, .slice none 0 0, .int .i64 0] 25
  have e1 : ((w.alloc (.cells #[.slice (some ⟨b1, o1, none⟩) regs.length k1, .int .i64 pc, .slice (some ⟨b2, o2, none⟩) mem.length k2, .int .i64 save, .bool lets, .bool waits, .int .i64 halt, .slice (some ⟨b3, o3, none⟩) ins.length k3, .slice (some ⟨b4, 0, none⟩) outs.length k4, .int .i64 count] 25)).alloc (.cells #[.int .i64 14, .int .i64 d, .int .i64 a, .int .i64 k] 38)).heap.size = w.heap.size + 1 + 1 := by simp
  rw [e1] at ZT0
  have ZT := hide ZT0
  have kk : w.heap.size ≤ w.heap.size + 1 + 1 := by omega
  have HM : Hid (doM ⟨regs, pc, mem, save, lets, waits, halt, ins, outs, count⟩ 14 d a k = outM ⟨regs, pc, mem, save, lets, waits, halt, ins, outs, count⟩ d) := show _ = _ by unfold doM; simp
  have HF : Hid (Fit ⟨regs, pc, mem, save, lets, waits, halt, ins, outs, count⟩) := HF0
  have H := hide HX
  clear h HX ex ey ZT0 e1 bX rw_ fx fy
  simp only [mv] at *
  clear HF0
  go_enter Tryz.func39, Tryz.ntmps39
  go_wp2_with fail
  refine (l3Port_out _ d a k lo _ _ H.out (by have := T.out.bw.size; omega) HF.out hd L9.out).mono ?_
  rintro e u ⟨c', rfl, Cu, hi⟩
  obtain ⟨r5, e5⟩ : ∃ r5, outM ⟨regs, pc, mem, save, lets, waits, halt, ins, outs, count⟩ d = r5 := ⟨_, rfl⟩
  rw [e5] at HM Cu
  obtain ⟨f1, g1, h1, f2, g2, h2, f3, g3, h3, f4, h4, rfl⟩ := forms Cu
  obtain ⟨regs5, pc5, mem5, save5, lets5, waits5, halt5, ins5, outs5, count5⟩ := r5
  have Zu := Rec.ints T.out.o ZT.out mach_int hi
  have ZTu := hide (ZT.out.ints mach_int hi)
  have Bu := hide ((Ints.of_below (lo := lo) T.out.bw).trans hi)
  have CU := hide Cu
  have z0 := Zu.cell 0 _ rfl
  have y0 := Zu.soft 0
  have z1 := Zu.cell 1 _ rfl
  have y1 := Zu.soft 1
  have z2 := Zu.cell 2 _ rfl
  have y2 := Zu.soft 2
  have z3 := Zu.cell 3 _ rfl
  have y3 := Zu.soft 3
  have z4 := Zu.cell 4 _ rfl
  have y4 := Zu.soft 4
  have z5 := Zu.cell 5 _ rfl
  have y5 := Zu.soft 5
  have z6 := Zu.cell 6 _ rfl
  have y6 := Zu.soft 6
  have z7 := Zu.cell 7 _ rfl
  have y7 := Zu.soft 7
  have z8 := Zu.cell 8 _ rfl
  have y8 := Zu.soft 8
  have z9 := Zu.cell 9 _ rfl
  have y9 := Zu.soft 9
  clear T H ZT hi Zu Cu cx cy HF e5
  simp only [mv] at *
  go_wp2
  exact bodyPost_ret (v := .agg #[.slice (some ⟨f1, g1, none⟩) regs5.length h1, .int .i64 pc5, .slice (some ⟨f2, g2, none⟩) mem5.length h2, .int .i64 save5, .bool lets5, .bool waits5, .int .i64 halt5, .slice (some ⟨f3, g3, none⟩) ins5.length h3, .slice (some ⟨f4, 0, none⟩) outs5.length h4, .int .i64 count5]) (by simp [results, Tryz.results39, go_sem, z0, z1, z2, z3, z4, z5, z6, z7, z8, z9]) rfl ⟨_, rfl, by rw [HM.out]; exact CU.out.ten ZTu.out mach_int _ _ _ _ _ _ _ _ _ _, ints_ten Bu.out kk _ _ _ _ _ _ _ _ _ _⟩
set_option maxRecDepth 8000 in
set_option maxHeartbeats 4000000 in
theorem l3Do_15 (m : M) (d a : Nat) (k : Int) (lo : Nat) (c : List Value) (w : World) (h : CMach w lo c m) (hf : Fit m) (hd : d < 4) (ha : a < 4) :
    Calls Tryz.prog 39 #[.agg c.toArray, .agg #[.int .i64 15, .int .i64 d, .int .i64 a, .int .i64 k]] w fun e w' => ∃ c', e = .returned (.agg c'.toArray) ∧ CMach w' lo c' (doM m 15 d a k) ∧ Ints lo w w' := by
  obtain ⟨b1, o1, k1, b2, o2, k2, b3, o3, k3, b4, k4, rfl⟩ := forms h
  obtain ⟨regs, pc, mem, save, lets, waits, halt, ins, outs, count⟩ := m
  have HF0 := hf
  obtain ⟨r4, m64, rw_, mw_, p0, p1, c0, c1⟩ := hf
  have la : a < regs.length := by rw [show regs.length = 4 from r4]; exact ha
  have ld : d < regs.length := by rw [show regs.length = 4 from r4]; exact hd
  have lr : regs.length ≤ 1000 := by rw [show regs.length = 4 from r4]; omega
  have la' : ((a : Nat) : Int) < (regs.length : Int) := by omega
  have ld' : ((d : Nat) : Int) < (regs.length : Int) := by omega
  have R4 := hide r4
  clear r4 m64 mw_
  have bX : Below w.heap.size w (((w.alloc (.cells #[.slice (some ⟨b1, o1, none⟩) regs.length k1, .int .i64 pc, .slice (some ⟨b2, o2, none⟩) mem.length k2, .int .i64 save, .bool lets, .bool waits, .int .i64 halt, .slice (some ⟨b3, o3, none⟩) ins.length k3, .slice (some ⟨b4, 0, none⟩) outs.length k4, .int .i64 count] 25)).alloc (.cells #[.int .i64 15, .int .i64 d, .int .i64 a, .int .i64 k] 38)).alloc (.cells #[.slice none 0 0, .int .i64 0, .slice none 0 0, .int .i64 0, .bool false, .bool false, .int .i64 0, .slice none 0 0, .slice none 0 0, .int .i64 0] 25)) := (((Below.refl _ _).alloc (Nat.le_refl _) _).alloc (by simp) _).alloc (by simp; omega) _
  have HX := h.below bX
  obtain ⟨x, ex⟩ : ∃ x, regs[a]? = some x := ⟨_, List.getElem?_eq_getElem la⟩
  obtain ⟨y, ey⟩ : ∃ y, regs[d]? = some y := ⟨_, List.getElem?_eq_getElem ld⟩
  have bx := rw_ a x ex
  have by_ := rw_ d y ey
  obtain ⟨cx, fx⟩ := row_at HX.parts.1 ex
  obtain ⟨cy, fy⟩ := row_at HX.parts.1 ey
  have GX := hide (getD_of ex)
  have GY := hide (getD_of ey)
  have T := hide (Three.new w [.slice (some ⟨b1, o1, none⟩) regs.length k1, .int .i64 pc, .slice (some ⟨b2, o2, none⟩) mem.length k2, .int .i64 save, .bool lets, .bool waits, .int .i64 halt, .slice (some ⟨b3, o3, none⟩) ins.length k3, .slice (some ⟨b4, 0, none⟩) outs.length k4, .int .i64 count] [.int .i64 15, .int .i64 d, .int .i64 a, .int .i64 k] [.slice none 0 0, .int .i64 0, .slice none 0 0, .int .i64 0, .bool false, .bool false, .int .i64 0, .slice none 0 0, .slice none 0 0, .int .i64 0] 25 38 25)
  have ZT0 := IsT.new ((w.alloc (.cells #[.slice (some ⟨b1, o1, none⟩) regs.length k1, .int .i64 pc, .slice (some ⟨b2, o2, none⟩) mem.length k2, .int .i64 save, .bool lets, .bool waits, .int .i64 halt, .slice (some ⟨b3, o3, none⟩) ins.length k3, .slice (some ⟨b4, 0, none⟩) outs.length k4, .int .i64 count] 25)).alloc (.cells #[.int .i64 15, .int .i64 d, .int .i64 a, .int .i64 k] 38)) #[.slice none 0 0, .int .i64 0, .slice none 0 0, .int .i64 0, .bool false, .bool false, .int .i64 0, .slice none 0 0, .slice none 0 0, .int .i64 0] 25
  have e1 : ((w.alloc (.cells #[.slice (some ⟨b1, o1, none⟩) regs.length k1, .int .i64 pc, .slice (some ⟨b2, o2, none⟩) mem.length k2, .int .i64 save, .bool lets, .bool waits, .int .i64 halt, .slice (some ⟨b3, o3, none⟩) ins.length k3, .slice (some ⟨b4, 0, none⟩) outs.length k4, .int .i64 count] 25)).alloc (.cells #[.int .i64 15, .int .i64 d, .int .i64 a, .int .i64 k] 38)).heap.size = w.heap.size + 1 + 1 := by simp
  rw [e1] at ZT0
  have ZT := hide ZT0
  have kk : w.heap.size ≤ w.heap.size + 1 + 1 := by omega
  have HM : Hid (doM ⟨regs, pc, mem, save, lets, waits, halt, ins, outs, count⟩ 15 d a k = inM ⟨regs, pc, mem, save, lets, waits, halt, ins, outs, count⟩ d) := show _ = _ by unfold doM; simp
  have HF : Hid (Fit ⟨regs, pc, mem, save, lets, waits, halt, ins, outs, count⟩) := HF0
  have H := hide HX
  clear h HX ex ey ZT0 e1 bX rw_ fx fy
  simp only [mv] at *
  clear HF0
  go_enter Tryz.func39, Tryz.ntmps39
  go_wp2_with fail
  refine (l3Port_in _ d a k lo _ _ H.out HF.out hd ha).mono ?_
  rintro e u ⟨c', rfl, Cu, hi⟩
  obtain ⟨r5, e5⟩ : ∃ r5, inM ⟨regs, pc, mem, save, lets, waits, halt, ins, outs, count⟩ d = r5 := ⟨_, rfl⟩
  rw [e5] at HM Cu
  obtain ⟨f1, g1, h1, f2, g2, h2, f3, g3, h3, f4, h4, rfl⟩ := forms Cu
  obtain ⟨regs5, pc5, mem5, save5, lets5, waits5, halt5, ins5, outs5, count5⟩ := r5
  have Zu := Rec.ints T.out.o ZT.out mach_int hi
  have ZTu := hide (ZT.out.ints mach_int hi)
  have Bu := hide ((Ints.of_below (lo := lo) T.out.bw).trans hi)
  have CU := hide Cu
  have z0 := Zu.cell 0 _ rfl
  have y0 := Zu.soft 0
  have z1 := Zu.cell 1 _ rfl
  have y1 := Zu.soft 1
  have z2 := Zu.cell 2 _ rfl
  have y2 := Zu.soft 2
  have z3 := Zu.cell 3 _ rfl
  have y3 := Zu.soft 3
  have z4 := Zu.cell 4 _ rfl
  have y4 := Zu.soft 4
  have z5 := Zu.cell 5 _ rfl
  have y5 := Zu.soft 5
  have z6 := Zu.cell 6 _ rfl
  have y6 := Zu.soft 6
  have z7 := Zu.cell 7 _ rfl
  have y7 := Zu.soft 7
  have z8 := Zu.cell 8 _ rfl
  have y8 := Zu.soft 8
  have z9 := Zu.cell 9 _ rfl
  have y9 := Zu.soft 9
  clear T H ZT hi Zu Cu cx cy HF e5
  simp only [mv] at *
  go_wp2
  exact bodyPost_ret (v := .agg #[.slice (some ⟨f1, g1, none⟩) regs5.length h1, .int .i64 pc5, .slice (some ⟨f2, g2, none⟩) mem5.length h2, .int .i64 save5, .bool lets5, .bool waits5, .int .i64 halt5, .slice (some ⟨f3, g3, none⟩) ins5.length h3, .slice (some ⟨f4, 0, none⟩) outs5.length h4, .int .i64 count5]) (by simp [results, Tryz.results39, go_sem, z0, z1, z2, z3, z4, z5, z6, z7, z8, z9]) rfl ⟨_, rfl, by rw [HM.out]; exact CU.out.ten ZTu.out mach_int _ _ _ _ _ _ _ _ _ _, ints_ten Bu.out kk _ _ _ _ _ _ _ _ _ _⟩
set_option maxRecDepth 8000 in
set_option maxHeartbeats 4000000 in
theorem l3Do_8 (m : M) (d a : Nat) (k : Nat) (lo : Nat) (c : List Value) (w : World) (h : CMach w lo c m) (hf : Fit m) (hd : d < 4) (ha : a < 4) (k1' : k ≤ 15) :
    Calls Tryz.prog 39 #[.agg c.toArray, .agg #[.int .i64 8, .int .i64 d, .int .i64 a, .int .i64 k]] w fun e w' => ∃ c', e = .returned (.agg c'.toArray) ∧ CMach w' lo c' (doM m 8 d a k) ∧ Ints lo w w' := by
  obtain ⟨b1, o1, k1, b2, o2, k2, b3, o3, k3, b4, k4, rfl⟩ := forms h
  obtain ⟨regs, pc, mem, save, lets, waits, halt, ins, outs, count⟩ := m
  obtain ⟨r4, m64, rw_, mw_, p0, p1, c0, c1⟩ := hf
  have la : a < regs.length := by rw [show regs.length = 4 from r4]; exact ha
  have ld : d < regs.length := by rw [show regs.length = 4 from r4]; exact hd
  have lr : regs.length ≤ 1000 := by rw [show regs.length = 4 from r4]; omega
  have la' : ((a : Nat) : Int) < (regs.length : Int) := by omega
  have ld' : ((d : Nat) : Int) < (regs.length : Int) := by omega
  have R4 := hide r4
  clear r4 m64 mw_
  have bX : Below w.heap.size w (((w.alloc (.cells #[.slice (some ⟨b1, o1, none⟩) regs.length k1, .int .i64 pc, .slice (some ⟨b2, o2, none⟩) mem.length k2, .int .i64 save, .bool lets, .bool waits, .int .i64 halt, .slice (some ⟨b3, o3, none⟩) ins.length k3, .slice (some ⟨b4, 0, none⟩) outs.length k4, .int .i64 count] 25)).alloc (.cells #[.int .i64 8, .int .i64 d, .int .i64 a, .int .i64 k] 38)).alloc (.cells #[.slice none 0 0, .int .i64 0, .slice none 0 0, .int .i64 0, .bool false, .bool false, .int .i64 0, .slice none 0 0, .slice none 0 0, .int .i64 0] 25)) := (((Below.refl _ _).alloc (Nat.le_refl _) _).alloc (by simp) _).alloc (by simp; omega) _
  have HX := h.below bX
  obtain ⟨x, ex⟩ : ∃ x, regs[a]? = some x := ⟨_, List.getElem?_eq_getElem la⟩
  obtain ⟨y, ey⟩ : ∃ y, regs[d]? = some y := ⟨_, List.getElem?_eq_getElem ld⟩
  have bx := rw_ a x ex
  have by_ := rw_ d y ey
  obtain ⟨cx, fx⟩ := row_at HX.parts.1 ex
  obtain ⟨cy, fy⟩ := row_at HX.parts.1 ey
  have GX := hide (getD_of ex)
  have GY := hide (getD_of ey)
  have T := hide (Three.new w [.slice (some ⟨b1, o1, none⟩) regs.length k1, .int .i64 pc, .slice (some ⟨b2, o2, none⟩) mem.length k2, .int .i64 save, .bool lets, .bool waits, .int .i64 halt, .slice (some ⟨b3, o3, none⟩) ins.length k3, .slice (some ⟨b4, 0, none⟩) outs.length k4, .int .i64 count] [.int .i64 8, .int .i64 d, .int .i64 a, .int .i64 k] [.slice none 0 0, .int .i64 0, .slice none 0 0, .int .i64 0, .bool false, .bool false, .int .i64 0, .slice none 0 0, .slice none 0 0, .int .i64 0] 25 38 25)
  have ZT0 := IsT.new ((w.alloc (.cells #[.slice (some ⟨b1, o1, none⟩) regs.length k1, .int .i64 pc, .slice (some ⟨b2, o2, none⟩) mem.length k2, .int .i64 save, .bool lets, .bool waits, .int .i64 halt, .slice (some ⟨b3, o3, none⟩) ins.length k3, .slice (some ⟨b4, 0, none⟩) outs.length k4, .int .i64 count] 25)).alloc (.cells #[.int .i64 8, .int .i64 d, .int .i64 a, .int .i64 k] 38)) #[.slice none 0 0, .int .i64 0, .slice none 0 0, .int .i64 0, .bool false, .bool false, .int .i64 0, .slice none 0 0, .slice none 0 0, .int .i64 0] 25
  have e1 : ((w.alloc (.cells #[.slice (some ⟨b1, o1, none⟩) regs.length k1, .int .i64 pc, .slice (some ⟨b2, o2, none⟩) mem.length k2, .int .i64 save, .bool lets, .bool waits, .int .i64 halt, .slice (some ⟨b3, o3, none⟩) ins.length k3, .slice (some ⟨b4, 0, none⟩) outs.length k4, .int .i64 count] 25)).alloc (.cells #[.int .i64 8, .int .i64 d, .int .i64 a, .int .i64 k] 38)).heap.size = w.heap.size + 1 + 1 := by simp
  rw [e1] at ZT0
  have ZT := hide ZT0
  have kk : w.heap.size ≤ w.heap.size + 1 + 1 := by omega
  have HM : Hid (doM ⟨regs, pc, mem, save, lets, waits, halt, ins, outs, count⟩ 8 d a k = setM ⟨regs, pc, mem, save, lets, waits, halt, ins, outs, count⟩ d (shiftN x k)) := show _ = _ by unfold doM; simp; rw [← List.getD_eq_getElem?_getD, GX.out]
  have H := hide HX
  clear h HX ex ey ZT0 e1 bX rw_ fx fy
  simp only [mv] at *
  go_enter Tryz.func39, Tryz.ntmps39
  go_wp2_with fail
  obtain ⟨W, eW⟩ : ∃ W, (((w.alloc (.cells #[.slice (some ⟨b1, o1, none⟩) regs.length k1, .int .i64 pc, .slice (some ⟨b2, o2, none⟩) mem.length k2, .int .i64 save, .bool lets, .bool waits, .int .i64 halt, .slice (some ⟨b3, o3, none⟩) ins.length k3, .slice (some ⟨b4, 0, none⟩) outs.length k4, .int .i64 count] 25)).alloc (.cells #[.int .i64 8, .int .i64 d, .int .i64 a, .int .i64 k] 38)).alloc (.cells #[.slice none 0 0, .int .i64 0, .slice none 0 0, .int .i64 0, .bool false, .bool false, .int .i64 0, .slice none 0 0, .slice none 0 0, .int .i64 0] 25)) = W := ⟨_, rfl⟩
  have AT := hide (((IsT.new w #[.slice (some ⟨b1, o1, none⟩) regs.length k1, .int .i64 pc, .slice (some ⟨b2, o2, none⟩) mem.length k2, .int .i64 save, .bool lets, .bool waits, .int .i64 halt, .slice (some ⟨b3, o3, none⟩) ins.length k3, .slice (some ⟨b4, 0, none⟩) outs.length k4, .int .i64 count] 25).below ((Below.refl _ _).alloc (Nat.le_refl _) (.cells #[.int .i64 8, .int .i64 d, .int .i64 a, .int .i64 k] 38))).below ((Below.refl _ _).alloc (Nat.le_refl _) (.cells #[.slice none 0 0, .int .i64 0, .slice none 0 0, .int .i64 0, .bool false, .bool false, .int .i64 0, .slice none 0 0, .slice none 0 0, .int .i64 0] 25)))
  have IT0 := IsT.new (w.alloc (.cells #[.slice (some ⟨b1, o1, none⟩) regs.length k1, .int .i64 pc, .slice (some ⟨b2, o2, none⟩) mem.length k2, .int .i64 save, .bool lets, .bool waits, .int .i64 halt, .slice (some ⟨b3, o3, none⟩) ins.length k3, .slice (some ⟨b4, 0, none⟩) outs.length k4, .int .i64 count] 25)) #[.int .i64 8, .int .i64 d, .int .i64 a, .int .i64 k] 38
  rw [show (w.alloc (.cells #[.slice (some ⟨b1, o1, none⟩) regs.length k1, .int .i64 pc, .slice (some ⟨b2, o2, none⟩) mem.length k2, .int .i64 save, .bool lets, .bool waits, .int .i64 halt, .slice (some ⟨b3, o3, none⟩) ins.length k3, .slice (some ⟨b4, 0, none⟩) outs.length k4, .int .i64 count] 25)).heap.size = w.heap.size + 1 by simp] at IT0
  have IT := hide (IT0.below ((Below.refl _ _).alloc (Nat.le_refl _) (.cells #[.slice none 0 0, .int .i64 0, .slice none 0 0, .int .i64 0, .bool false, .bool false, .int .i64 0, .slice none 0 0, .slice none 0 0, .int .i64 0] 25)))
  clear IT0
  rw [eW] at T H ZT AT IT cx cy ⊢
  clear eW
  have S0 : W.drew.cell? ⟨w.heap.size, 0, none⟩ = some (.slice (some ⟨b1, o1, none⟩) regs.length k1) ∧ W.drew.cell? ⟨w.heap.size, 1, none⟩ = some (.int .i64 pc) ∧ W.drew.cell? ⟨w.heap.size, 2, none⟩ = some (.slice (some ⟨b2, o2, none⟩) mem.length k2) ∧ W.drew.cell? ⟨w.heap.size, 3, none⟩ = some (.int .i64 save) ∧ W.drew.cell? ⟨w.heap.size, 4, none⟩ = some (.bool lets) ∧ W.drew.cell? ⟨w.heap.size, 5, none⟩ = some (.bool waits) ∧ W.drew.cell? ⟨w.heap.size, 6, none⟩ = some (.int .i64 halt) ∧ W.drew.cell? ⟨w.heap.size, 7, none⟩ = some (.slice (some ⟨b3, o3, none⟩) ins.length k3) ∧ W.drew.cell? ⟨w.heap.size, 8, none⟩ = some (.slice (some ⟨b4, 0, none⟩) outs.length k4) ∧ W.drew.cell? ⟨w.heap.size, 9, none⟩ = some (.int .i64 count) ∧ W.drew.cell? ⟨w.heap.size + 1, 0, none⟩ = some (.int .i64 8) ∧ W.drew.cell? ⟨w.heap.size + 1, 1, none⟩ = some (.int .i64 d) ∧ W.drew.cell? ⟨w.heap.size + 1, 2, none⟩ = some (.int .i64 a) ∧ W.drew.cell? ⟨w.heap.size + 1, 3, none⟩ = some (.int .i64 k) := ⟨T.out.a.drew.cell 0 _ rfl, T.out.a.drew.cell 1 _ rfl, T.out.a.drew.cell 2 _ rfl, T.out.a.drew.cell 3 _ rfl, T.out.a.drew.cell 4 _ rfl, T.out.a.drew.cell 5 _ rfl, T.out.a.drew.cell 6 _ rfl, T.out.a.drew.cell 7 _ rfl, T.out.a.drew.cell 8 _ rfl, T.out.a.drew.cell 9 _ rfl, T.out.z.drew.cell 0 _ rfl, T.out.z.drew.cell 1 _ rfl, T.out.z.drew.cell 2 _ rfl, T.out.z.drew.cell 3 _ rfl⟩
  have CW := hide (CMach.drewN H.out 1)
  have ZW := hide (isT_drewN ZT.out 1)
  have TW := hide (T.out.drewN 1)
  have AW := hide (isT_drewN AT.out 1)
  have IW := hide (isT_drewN IT.out 1)
  go_region_held3 (fun v => (v.cell? ⟨w.heap.size, 0, none⟩ = some (.slice (some ⟨b1, o1, none⟩) regs.length k1) ∧ v.cell? ⟨w.heap.size, 1, none⟩ = some (.int .i64 pc) ∧ v.cell? ⟨w.heap.size, 2, none⟩ = some (.slice (some ⟨b2, o2, none⟩) mem.length k2) ∧ v.cell? ⟨w.heap.size, 3, none⟩ = some (.int .i64 save) ∧ v.cell? ⟨w.heap.size, 4, none⟩ = some (.bool lets) ∧ v.cell? ⟨w.heap.size, 5, none⟩ = some (.bool waits) ∧ v.cell? ⟨w.heap.size, 6, none⟩ = some (.int .i64 halt) ∧ v.cell? ⟨w.heap.size, 7, none⟩ = some (.slice (some ⟨b3, o3, none⟩) ins.length k3) ∧ v.cell? ⟨w.heap.size, 8, none⟩ = some (.slice (some ⟨b4, 0, none⟩) outs.length k4) ∧ v.cell? ⟨w.heap.size, 9, none⟩ = some (.int .i64 count) ∧ v.cell? ⟨w.heap.size + 1, 0, none⟩ = some (.int .i64 8) ∧ v.cell? ⟨w.heap.size + 1, 1, none⟩ = some (.int .i64 d) ∧ v.cell? ⟨w.heap.size + 1, 2, none⟩ = some (.int .i64 a) ∧ v.cell? ⟨w.heap.size + 1, 3, none⟩ = some (.int .i64 k))) (first | with_reducible assumption | with_reducible exact S8 _ _ _ _ _ _ _ _ _ _) (first | (go_at_call 76; refine (l3Shift x k _ bx.1 bx.2 (by omega)).mono ?_; rintro e u0 ⟨rfl, rfl⟩) | (go_at_call 75; refine (l3Set _ d (shiftN x k) lo _ _ CW.out ld lr c0 c1 p0 p1).mono ?_; rintro e u ⟨c', rfl, Cu, hi⟩; obtain ⟨f1, g1, h1, f2, g2, h2, f3, g3, h3, f4, h4, rfl⟩ := forms Cu; have Zu := Rec.ints TW.out.o ZW.out mach_int hi; have Au := Rec.ints TW.out.a AW.out mach_int hi; have Iu := Rec.ints TW.out.z IW.out ins_int hi; have S9 : u.cell? ⟨w.heap.size, 0, none⟩ = some (.slice (some ⟨b1, o1, none⟩) regs.length k1) ∧ u.cell? ⟨w.heap.size, 1, none⟩ = some (.int .i64 pc) ∧ u.cell? ⟨w.heap.size, 2, none⟩ = some (.slice (some ⟨b2, o2, none⟩) mem.length k2) ∧ u.cell? ⟨w.heap.size, 3, none⟩ = some (.int .i64 save) ∧ u.cell? ⟨w.heap.size, 4, none⟩ = some (.bool lets) ∧ u.cell? ⟨w.heap.size, 5, none⟩ = some (.bool waits) ∧ u.cell? ⟨w.heap.size, 6, none⟩ = some (.int .i64 halt) ∧ u.cell? ⟨w.heap.size, 7, none⟩ = some (.slice (some ⟨b3, o3, none⟩) ins.length k3) ∧ u.cell? ⟨w.heap.size, 8, none⟩ = some (.slice (some ⟨b4, 0, none⟩) outs.length k4) ∧ u.cell? ⟨w.heap.size, 9, none⟩ = some (.int .i64 count) ∧ u.cell? ⟨w.heap.size + 1, 0, none⟩ = some (.int .i64 8) ∧ u.cell? ⟨w.heap.size + 1, 1, none⟩ = some (.int .i64 d) ∧ u.cell? ⟨w.heap.size + 1, 2, none⟩ = some (.int .i64 a) ∧ u.cell? ⟨w.heap.size + 1, 3, none⟩ = some (.int .i64 k) := ⟨Au.cell 0 _ rfl, Au.cell 1 _ rfl, Au.cell 2 _ rfl, Au.cell 3 _ rfl, Au.cell 4 _ rfl, Au.cell 5 _ rfl, Au.cell 6 _ rfl, Au.cell 7 _ rfl, Au.cell 8 _ rfl, Au.cell 9 _ rfl, Iu.cell 0 _ rfl, Iu.cell 1 _ rfl, Iu.cell 2 _ rfl, Iu.cell 3 _ rfl⟩; have S8 := fun v0 v1 v2 v3 v4 v5 v6 v7 v8 v9 => show ((((((((((u.setCell ⟨w.heap.size + 1 + 1, 0, none⟩ v0).setCell ⟨w.heap.size + 1 + 1, 1, none⟩ v1).setCell ⟨w.heap.size + 1 + 1, 2, none⟩ v2).setCell ⟨w.heap.size + 1 + 1, 3, none⟩ v3).setCell ⟨w.heap.size + 1 + 1, 4, none⟩ v4).setCell ⟨w.heap.size + 1 + 1, 5, none⟩ v5).setCell ⟨w.heap.size + 1 + 1, 6, none⟩ v6).setCell ⟨w.heap.size + 1 + 1, 7, none⟩ v7).setCell ⟨w.heap.size + 1 + 1, 8, none⟩ v8).setCell ⟨w.heap.size + 1 + 1, 9, none⟩ v9).cell? ⟨w.heap.size, 0, none⟩ = some (.slice (some ⟨b1, o1, none⟩) regs.length k1) ∧ ((((((((((u.setCell ⟨w.heap.size + 1 + 1, 0, none⟩ v0).setCell ⟨w.heap.size + 1 + 1, 1, none⟩ v1).setCell ⟨w.heap.size + 1 + 1, 2, none⟩ v2).setCell ⟨w.heap.size + 1 + 1, 3, none⟩ v3).setCell ⟨w.heap.size + 1 + 1, 4, none⟩ v4).setCell ⟨w.heap.size + 1 + 1, 5, none⟩ v5).setCell ⟨w.heap.size + 1 + 1, 6, none⟩ v6).setCell ⟨w.heap.size + 1 + 1, 7, none⟩ v7).setCell ⟨w.heap.size + 1 + 1, 8, none⟩ v8).setCell ⟨w.heap.size + 1 + 1, 9, none⟩ v9).cell? ⟨w.heap.size, 1, none⟩ = some (.int .i64 pc) ∧ ((((((((((u.setCell ⟨w.heap.size + 1 + 1, 0, none⟩ v0).setCell ⟨w.heap.size + 1 + 1, 1, none⟩ v1).setCell ⟨w.heap.size + 1 + 1, 2, none⟩ v2).setCell ⟨w.heap.size + 1 + 1, 3, none⟩ v3).setCell ⟨w.heap.size + 1 + 1, 4, none⟩ v4).setCell ⟨w.heap.size + 1 + 1, 5, none⟩ v5).setCell ⟨w.heap.size + 1 + 1, 6, none⟩ v6).setCell ⟨w.heap.size + 1 + 1, 7, none⟩ v7).setCell ⟨w.heap.size + 1 + 1, 8, none⟩ v8).setCell ⟨w.heap.size + 1 + 1, 9, none⟩ v9).cell? ⟨w.heap.size, 2, none⟩ = some (.slice (some ⟨b2, o2, none⟩) mem.length k2) ∧ ((((((((((u.setCell ⟨w.heap.size + 1 + 1, 0, none⟩ v0).setCell ⟨w.heap.size + 1 + 1, 1, none⟩ v1).setCell ⟨w.heap.size + 1 + 1, 2, none⟩ v2).setCell ⟨w.heap.size + 1 + 1, 3, none⟩ v3).setCell ⟨w.heap.size + 1 + 1, 4, none⟩ v4).setCell ⟨w.heap.size + 1 + 1, 5, none⟩ v5).setCell ⟨w.heap.size + 1 + 1, 6, none⟩ v6).setCell ⟨w.heap.size + 1 + 1, 7, none⟩ v7).setCell ⟨w.heap.size + 1 + 1, 8, none⟩ v8).setCell ⟨w.heap.size + 1 + 1, 9, none⟩ v9).cell? ⟨w.heap.size, 3, none⟩ = some (.int .i64 save) ∧ ((((((((((u.setCell ⟨w.heap.size + 1 + 1, 0, none⟩ v0).setCell ⟨w.heap.size + 1 + 1, 1, none⟩ v1).setCell ⟨w.heap.size + 1 + 1, 2, none⟩ v2).setCell ⟨w.heap.size + 1 + 1, 3, none⟩ v3).setCell ⟨w.heap.size + 1 + 1, 4, none⟩ v4).setCell ⟨w.heap.size + 1 + 1, 5, none⟩ v5).setCell ⟨w.heap.size + 1 + 1, 6, none⟩ v6).setCell ⟨w.heap.size + 1 + 1, 7, none⟩ v7).setCell ⟨w.heap.size + 1 + 1, 8, none⟩ v8).setCell ⟨w.heap.size + 1 + 1, 9, none⟩ v9).cell? ⟨w.heap.size, 4, none⟩ = some (.bool lets) ∧ ((((((((((u.setCell ⟨w.heap.size + 1 + 1, 0, none⟩ v0).setCell ⟨w.heap.size + 1 + 1, 1, none⟩ v1).setCell ⟨w.heap.size + 1 + 1, 2, none⟩ v2).setCell ⟨w.heap.size + 1 + 1, 3, none⟩ v3).setCell ⟨w.heap.size + 1 + 1, 4, none⟩ v4).setCell ⟨w.heap.size + 1 + 1, 5, none⟩ v5).setCell ⟨w.heap.size + 1 + 1, 6, none⟩ v6).setCell ⟨w.heap.size + 1 + 1, 7, none⟩ v7).setCell ⟨w.heap.size + 1 + 1, 8, none⟩ v8).setCell ⟨w.heap.size + 1 + 1, 9, none⟩ v9).cell? ⟨w.heap.size, 5, none⟩ = some (.bool waits) ∧ ((((((((((u.setCell ⟨w.heap.size + 1 + 1, 0, none⟩ v0).setCell ⟨w.heap.size + 1 + 1, 1, none⟩ v1).setCell ⟨w.heap.size + 1 + 1, 2, none⟩ v2).setCell ⟨w.heap.size + 1 + 1, 3, none⟩ v3).setCell ⟨w.heap.size + 1 + 1, 4, none⟩ v4).setCell ⟨w.heap.size + 1 + 1, 5, none⟩ v5).setCell ⟨w.heap.size + 1 + 1, 6, none⟩ v6).setCell ⟨w.heap.size + 1 + 1, 7, none⟩ v7).setCell ⟨w.heap.size + 1 + 1, 8, none⟩ v8).setCell ⟨w.heap.size + 1 + 1, 9, none⟩ v9).cell? ⟨w.heap.size, 6, none⟩ = some (.int .i64 halt) ∧ ((((((((((u.setCell ⟨w.heap.size + 1 + 1, 0, none⟩ v0).setCell ⟨w.heap.size + 1 + 1, 1, none⟩ v1).setCell ⟨w.heap.size + 1 + 1, 2, none⟩ v2).setCell ⟨w.heap.size + 1 + 1, 3, none⟩ v3).setCell ⟨w.heap.size + 1 + 1, 4, none⟩ v4).setCell ⟨w.heap.size + 1 + 1, 5, none⟩ v5).setCell ⟨w.heap.size + 1 + 1, 6, none⟩ v6).setCell ⟨w.heap.size + 1 + 1, 7, none⟩ v7).setCell ⟨w.heap.size + 1 + 1, 8, none⟩ v8).setCell ⟨w.heap.size + 1 + 1, 9, none⟩ v9).cell? ⟨w.heap.size, 7, none⟩ = some (.slice (some ⟨b3, o3, none⟩) ins.length k3) ∧ ((((((((((u.setCell ⟨w.heap.size + 1 + 1, 0, none⟩ v0).setCell ⟨w.heap.size + 1 + 1, 1, none⟩ v1).setCell ⟨w.heap.size + 1 + 1, 2, none⟩ v2).setCell ⟨w.heap.size + 1 + 1, 3, none⟩ v3).setCell ⟨w.heap.size + 1 + 1, 4, none⟩ v4).setCell ⟨w.heap.size + 1 + 1, 5, none⟩ v5).setCell ⟨w.heap.size + 1 + 1, 6, none⟩ v6).setCell ⟨w.heap.size + 1 + 1, 7, none⟩ v7).setCell ⟨w.heap.size + 1 + 1, 8, none⟩ v8).setCell ⟨w.heap.size + 1 + 1, 9, none⟩ v9).cell? ⟨w.heap.size, 8, none⟩ = some (.slice (some ⟨b4, 0, none⟩) outs.length k4) ∧ ((((((((((u.setCell ⟨w.heap.size + 1 + 1, 0, none⟩ v0).setCell ⟨w.heap.size + 1 + 1, 1, none⟩ v1).setCell ⟨w.heap.size + 1 + 1, 2, none⟩ v2).setCell ⟨w.heap.size + 1 + 1, 3, none⟩ v3).setCell ⟨w.heap.size + 1 + 1, 4, none⟩ v4).setCell ⟨w.heap.size + 1 + 1, 5, none⟩ v5).setCell ⟨w.heap.size + 1 + 1, 6, none⟩ v6).setCell ⟨w.heap.size + 1 + 1, 7, none⟩ v7).setCell ⟨w.heap.size + 1 + 1, 8, none⟩ v8).setCell ⟨w.heap.size + 1 + 1, 9, none⟩ v9).cell? ⟨w.heap.size, 9, none⟩ = some (.int .i64 count) ∧ ((((((((((u.setCell ⟨w.heap.size + 1 + 1, 0, none⟩ v0).setCell ⟨w.heap.size + 1 + 1, 1, none⟩ v1).setCell ⟨w.heap.size + 1 + 1, 2, none⟩ v2).setCell ⟨w.heap.size + 1 + 1, 3, none⟩ v3).setCell ⟨w.heap.size + 1 + 1, 4, none⟩ v4).setCell ⟨w.heap.size + 1 + 1, 5, none⟩ v5).setCell ⟨w.heap.size + 1 + 1, 6, none⟩ v6).setCell ⟨w.heap.size + 1 + 1, 7, none⟩ v7).setCell ⟨w.heap.size + 1 + 1, 8, none⟩ v8).setCell ⟨w.heap.size + 1 + 1, 9, none⟩ v9).cell? ⟨w.heap.size + 1, 0, none⟩ = some (.int .i64 8) ∧ ((((((((((u.setCell ⟨w.heap.size + 1 + 1, 0, none⟩ v0).setCell ⟨w.heap.size + 1 + 1, 1, none⟩ v1).setCell ⟨w.heap.size + 1 + 1, 2, none⟩ v2).setCell ⟨w.heap.size + 1 + 1, 3, none⟩ v3).setCell ⟨w.heap.size + 1 + 1, 4, none⟩ v4).setCell ⟨w.heap.size + 1 + 1, 5, none⟩ v5).setCell ⟨w.heap.size + 1 + 1, 6, none⟩ v6).setCell ⟨w.heap.size + 1 + 1, 7, none⟩ v7).setCell ⟨w.heap.size + 1 + 1, 8, none⟩ v8).setCell ⟨w.heap.size + 1 + 1, 9, none⟩ v9).cell? ⟨w.heap.size + 1, 1, none⟩ = some (.int .i64 d) ∧ ((((((((((u.setCell ⟨w.heap.size + 1 + 1, 0, none⟩ v0).setCell ⟨w.heap.size + 1 + 1, 1, none⟩ v1).setCell ⟨w.heap.size + 1 + 1, 2, none⟩ v2).setCell ⟨w.heap.size + 1 + 1, 3, none⟩ v3).setCell ⟨w.heap.size + 1 + 1, 4, none⟩ v4).setCell ⟨w.heap.size + 1 + 1, 5, none⟩ v5).setCell ⟨w.heap.size + 1 + 1, 6, none⟩ v6).setCell ⟨w.heap.size + 1 + 1, 7, none⟩ v7).setCell ⟨w.heap.size + 1 + 1, 8, none⟩ v8).setCell ⟨w.heap.size + 1 + 1, 9, none⟩ v9).cell? ⟨w.heap.size + 1, 2, none⟩ = some (.int .i64 a) ∧ ((((((((((u.setCell ⟨w.heap.size + 1 + 1, 0, none⟩ v0).setCell ⟨w.heap.size + 1 + 1, 1, none⟩ v1).setCell ⟨w.heap.size + 1 + 1, 2, none⟩ v2).setCell ⟨w.heap.size + 1 + 1, 3, none⟩ v3).setCell ⟨w.heap.size + 1 + 1, 4, none⟩ v4).setCell ⟨w.heap.size + 1 + 1, 5, none⟩ v5).setCell ⟨w.heap.size + 1 + 1, 6, none⟩ v6).setCell ⟨w.heap.size + 1 + 1, 7, none⟩ v7).setCell ⟨w.heap.size + 1 + 1, 8, none⟩ v8).setCell ⟨w.heap.size + 1 + 1, 9, none⟩ v9).cell? ⟨w.heap.size + 1, 3, none⟩ = some (.int .i64 k) from ⟨(rec_ten Au (by omega) v0 v1 v2 v3 v4 v5 v6 v7 v8 v9).cell 0 _ rfl, (rec_ten Au (by omega) v0 v1 v2 v3 v4 v5 v6 v7 v8 v9).cell 1 _ rfl, (rec_ten Au (by omega) v0 v1 v2 v3 v4 v5 v6 v7 v8 v9).cell 2 _ rfl, (rec_ten Au (by omega) v0 v1 v2 v3 v4 v5 v6 v7 v8 v9).cell 3 _ rfl, (rec_ten Au (by omega) v0 v1 v2 v3 v4 v5 v6 v7 v8 v9).cell 4 _ rfl, (rec_ten Au (by omega) v0 v1 v2 v3 v4 v5 v6 v7 v8 v9).cell 5 _ rfl, (rec_ten Au (by omega) v0 v1 v2 v3 v4 v5 v6 v7 v8 v9).cell 6 _ rfl, (rec_ten Au (by omega) v0 v1 v2 v3 v4 v5 v6 v7 v8 v9).cell 7 _ rfl, (rec_ten Au (by omega) v0 v1 v2 v3 v4 v5 v6 v7 v8 v9).cell 8 _ rfl, (rec_ten Au (by omega) v0 v1 v2 v3 v4 v5 v6 v7 v8 v9).cell 9 _ rfl, (rec_ten Iu (by omega) v0 v1 v2 v3 v4 v5 v6 v7 v8 v9).cell 0 _ rfl, (rec_ten Iu (by omega) v0 v1 v2 v3 v4 v5 v6 v7 v8 v9).cell 1 _ rfl, (rec_ten Iu (by omega) v0 v1 v2 v3 v4 v5 v6 v7 v8 v9).cell 2 _ rfl, (rec_ten Iu (by omega) v0 v1 v2 v3 v4 v5 v6 v7 v8 v9).cell 3 _ rfl⟩; clear Au Iu; simp only [mv, setM, nextM] at Cu ⊢; have z0 := Zu.cell 0 _ rfl; have y0 := Zu.soft 0; have z1 := Zu.cell 1 _ rfl; have y1 := Zu.soft 1; have z2 := Zu.cell 2 _ rfl; have y2 := Zu.soft 2; have z3 := Zu.cell 3 _ rfl; have y3 := Zu.soft 3; have z4 := Zu.cell 4 _ rfl; have y4 := Zu.soft 4; have z5 := Zu.cell 5 _ rfl; have y5 := Zu.soft 5; have z6 := Zu.cell 6 _ rfl; have y6 := Zu.soft 6; have z7 := Zu.cell 7 _ rfl; have y7 := Zu.soft 7; have z8 := Zu.cell 8 _ rfl; have y8 := Zu.soft 8; have z9 := Zu.cell 9 _ rfl; have y9 := Zu.soft 9))
  have ZTu := hide (ZW.out.ints mach_int hi)
  have Bu := hide ((Ints.of_below (lo := lo) TW.out.bw).trans hi)
  have CU := hide Cu
  clear T H ZT AT IT CW ZW TW AW IW hi Zu Cu cx cy S0 S9 S8
  simp only [setM, nextM] at HM
  go_wp2
  exact bodyPost_ret (v := .agg #[.slice (some ⟨f1, g1, none⟩) (regs.set d (shiftN x k)).length h1, .int .i64 ((pc + 1) % 65536), .slice (some ⟨f2, g2, none⟩) mem.length h2, .int .i64 save, .bool lets, .bool waits, .int .i64 halt, .slice (some ⟨f3, g3, none⟩) ins.length h3, .slice (some ⟨f4, 0, none⟩) outs.length h4, .int .i64 (count + 1)]) (by simp [results, Tryz.results39, go_sem, z0, z1, z2, z3, z4, z5, z6, z7, z8, z9]) rfl ⟨_, rfl, by rw [HM.out]; exact CU.out.ten ZTu.out mach_int _ _ _ _ _ _ _ _ _ _, ints_ten Bu.out kk _ _ _ _ _ _ _ _ _ _⟩
theorem doM_reck (m : M) (op : Int) (d a : Nat) (k : Int) (h0 : 3 ≤ op) (h1 : op ≤ 7) : doM m op d a k = setM m d (Wrd.wdo (op - 2) (m.regs.getD a 0) (m.regs.getD k.toNat 0)) := by
  unfold doM
  rw [if_neg (by omega), if_neg (by omega), if_neg (by omega), if_neg (by omega), if_neg (by omega), if_neg (by omega), if_neg (by omega), if_neg (by omega), if_neg (by omega), if_neg (by omega)]
set_option maxRecDepth 8000 in
set_option maxHeartbeats 4000000 in
theorem l3Do_3 (m : M) (d a : Nat) (k : Nat) (lo : Nat) (c : List Value) (w : World) (h : CMach w lo c m) (hf : Fit m) (hd : d < 4) (ha : a < 4) (hk : k < 4) :
    Calls Tryz.prog 39 #[.agg c.toArray, .agg #[.int .i64 3, .int .i64 d, .int .i64 a, .int .i64 k]] w fun e w' => ∃ c', e = .returned (.agg c'.toArray) ∧ CMach w' lo c' (doM m 3 d a k) ∧ Ints lo w w' := by
  obtain ⟨b1, o1, k1, b2, o2, k2, b3, o3, k3, b4, k4, rfl⟩ := forms h
  obtain ⟨regs, pc, mem, save, lets, waits, halt, ins, outs, count⟩ := m
  obtain ⟨r4, m64, rw_, mw_, p0, p1, c0, c1⟩ := hf
  have la : a < regs.length := by rw [show regs.length = 4 from r4]; exact ha
  have ld : d < regs.length := by rw [show regs.length = 4 from r4]; exact hd
  have lr : regs.length ≤ 1000 := by rw [show regs.length = 4 from r4]; omega
  have la' : ((a : Nat) : Int) < (regs.length : Int) := by omega
  have ld' : ((d : Nat) : Int) < (regs.length : Int) := by omega
  have R4 := hide r4
  clear r4 m64 mw_
  have bX : Below w.heap.size w (((w.alloc (.cells #[.slice (some ⟨b1, o1, none⟩) regs.length k1, .int .i64 pc, .slice (some ⟨b2, o2, none⟩) mem.length k2, .int .i64 save, .bool lets, .bool waits, .int .i64 halt, .slice (some ⟨b3, o3, none⟩) ins.length k3, .slice (some ⟨b4, 0, none⟩) outs.length k4, .int .i64 count] 25)).alloc (.cells #[.int .i64 3, .int .i64 d, .int .i64 a, .int .i64 k] 38)).alloc (.cells #[.slice none 0 0, .int .i64 0, .slice none 0 0, .int .i64 0, .bool false, .bool false, .int .i64 0, .slice none 0 0, .slice none 0 0, .int .i64 0] 25)) := (((Below.refl _ _).alloc (Nat.le_refl _) _).alloc (by simp) _).alloc (by simp; omega) _
  have HX := h.below bX
  obtain ⟨x, ex⟩ : ∃ x, regs[a]? = some x := ⟨_, List.getElem?_eq_getElem la⟩
  obtain ⟨y, ey⟩ : ∃ y, regs[d]? = some y := ⟨_, List.getElem?_eq_getElem ld⟩
  have bx := rw_ a x ex
  have by_ := rw_ d y ey
  obtain ⟨cx, fx⟩ := row_at HX.parts.1 ex
  obtain ⟨cy, fy⟩ := row_at HX.parts.1 ey
  have lk : k < regs.length := by rw [show regs.length = 4 from R4.out]; exact hk
  have lk' : ((k : Nat) : Int) < (regs.length : Int) := by omega
  obtain ⟨zz, ez⟩ : ∃ z, regs[k]? = some z := ⟨_, List.getElem?_eq_getElem lk⟩
  obtain ⟨cz, _⟩ := row_at HX.parts.1 ez
  have GZ := hide (getD_of ez)
  clear ez
  have GX := hide (getD_of ex)
  have GY := hide (getD_of ey)
  have T := hide (Three.new w [.slice (some ⟨b1, o1, none⟩) regs.length k1, .int .i64 pc, .slice (some ⟨b2, o2, none⟩) mem.length k2, .int .i64 save, .bool lets, .bool waits, .int .i64 halt, .slice (some ⟨b3, o3, none⟩) ins.length k3, .slice (some ⟨b4, 0, none⟩) outs.length k4, .int .i64 count] [.int .i64 3, .int .i64 d, .int .i64 a, .int .i64 k] [.slice none 0 0, .int .i64 0, .slice none 0 0, .int .i64 0, .bool false, .bool false, .int .i64 0, .slice none 0 0, .slice none 0 0, .int .i64 0] 25 38 25)
  have ZT0 := IsT.new ((w.alloc (.cells #[.slice (some ⟨b1, o1, none⟩) regs.length k1, .int .i64 pc, .slice (some ⟨b2, o2, none⟩) mem.length k2, .int .i64 save, .bool lets, .bool waits, .int .i64 halt, .slice (some ⟨b3, o3, none⟩) ins.length k3, .slice (some ⟨b4, 0, none⟩) outs.length k4, .int .i64 count] 25)).alloc (.cells #[.int .i64 3, .int .i64 d, .int .i64 a, .int .i64 k] 38)) #[.slice none 0 0, .int .i64 0, .slice none 0 0, .int .i64 0, .bool false, .bool false, .int .i64 0, .slice none 0 0, .slice none 0 0, .int .i64 0] 25
  have e1 : ((w.alloc (.cells #[.slice (some ⟨b1, o1, none⟩) regs.length k1, .int .i64 pc, .slice (some ⟨b2, o2, none⟩) mem.length k2, .int .i64 save, .bool lets, .bool waits, .int .i64 halt, .slice (some ⟨b3, o3, none⟩) ins.length k3, .slice (some ⟨b4, 0, none⟩) outs.length k4, .int .i64 count] 25)).alloc (.cells #[.int .i64 3, .int .i64 d, .int .i64 a, .int .i64 k] 38)).heap.size = w.heap.size + 1 + 1 := by simp
  rw [e1] at ZT0
  have ZT := hide ZT0
  have kk : w.heap.size ≤ w.heap.size + 1 + 1 := by omega
  have HM : Hid (doM ⟨regs, pc, mem, save, lets, waits, halt, ins, outs, count⟩ 3 d a k = setM ⟨regs, pc, mem, save, lets, waits, halt, ins, outs, count⟩ d (Wrd.wdo 1 x zz)) := show _ = _ by rw [doM_reck _ _ _ _ _ (by decide) (by decide), Int.toNat_natCast, show regs.getD a 0 = x from GX.out, show regs.getD k 0 = zz from GZ.out]; rfl
  have H := hide HX
  clear h HX ex ey ZT0 e1 bX rw_ fx fy
  simp only [mv] at *
  go_enter Tryz.func39, Tryz.ntmps39
  go_wp2_with fail
  obtain ⟨W, eW⟩ : ∃ W, (((w.alloc (.cells #[.slice (some ⟨b1, o1, none⟩) regs.length k1, .int .i64 pc, .slice (some ⟨b2, o2, none⟩) mem.length k2, .int .i64 save, .bool lets, .bool waits, .int .i64 halt, .slice (some ⟨b3, o3, none⟩) ins.length k3, .slice (some ⟨b4, 0, none⟩) outs.length k4, .int .i64 count] 25)).alloc (.cells #[.int .i64 3, .int .i64 d, .int .i64 a, .int .i64 k] 38)).alloc (.cells #[.slice none 0 0, .int .i64 0, .slice none 0 0, .int .i64 0, .bool false, .bool false, .int .i64 0, .slice none 0 0, .slice none 0 0, .int .i64 0] 25)) = W := ⟨_, rfl⟩
  rw [eW] at T H ZT cx cy cz ⊢
  clear eW
  have a0 := T.out.a.cell 0 _ rfl
  have a1 := T.out.a.cell 1 _ rfl
  have a2 := T.out.a.cell 2 _ rfl
  have a3 := T.out.a.cell 3 _ rfl
  have a4 := T.out.a.cell 4 _ rfl
  have a5 := T.out.a.cell 5 _ rfl
  have a6 := T.out.a.cell 6 _ rfl
  have a7 := T.out.a.cell 7 _ rfl
  have a8 := T.out.a.cell 8 _ rfl
  have a9 := T.out.a.cell 9 _ rfl
  have i0 := T.out.z.cell 0 _ rfl
  have i1 := T.out.z.cell 1 _ rfl
  have i2 := T.out.z.cell 2 _ rfl
  have i3 := T.out.z.cell 3 _ rfl
  refine region_tail 15 (by kernel_rfl) (by kernel_rfl) ?_
  simp only [List.take_succ_cons, List.take_zero, List.drop_succ_cons, List.drop_zero]
  repeat still_step
  still_call (Wrd.specDo 1 x zz _)
  repeat still_step
  refine wpStill_nil ?_
  go_wp2_with fail
  refine (l3Set _ d (Wrd.wdo 1 x zz) lo _ _ (CMach.drewN H.out 1) ld lr c0 c1 p0 p1).mono ?_
  rintro e u ⟨c', rfl, Cu, hi⟩
  obtain ⟨f1, g1, h1, f2, g2, h2, f3, g3, h3, f4, h4, rfl⟩ := forms Cu
  replace T := hide (T.out.drewN 1)
  replace ZT := hide (isT_drewN ZT.out 1)
  have Zu := Rec.ints T.out.o ZT.out mach_int hi
  have ZTu := hide (ZT.out.ints mach_int hi)
  have Bu := hide ((Ints.of_below (lo := lo) T.out.bw).trans hi)
  have CU := hide Cu
  have z0 := Zu.cell 0 _ rfl
  have y0 := Zu.soft 0
  have z1 := Zu.cell 1 _ rfl
  have y1 := Zu.soft 1
  have z2 := Zu.cell 2 _ rfl
  have y2 := Zu.soft 2
  have z3 := Zu.cell 3 _ rfl
  have y3 := Zu.soft 3
  have z4 := Zu.cell 4 _ rfl
  have y4 := Zu.soft 4
  have z5 := Zu.cell 5 _ rfl
  have y5 := Zu.soft 5
  have z6 := Zu.cell 6 _ rfl
  have y6 := Zu.soft 6
  have z7 := Zu.cell 7 _ rfl
  have y7 := Zu.soft 7
  have z8 := Zu.cell 8 _ rfl
  have y8 := Zu.soft 8
  have z9 := Zu.cell 9 _ rfl
  have y9 := Zu.soft 9
  clear T H ZT hi Zu Cu cx cy cz a0 a1 a2 a3 a4 a5 a6 a7 a8 a9 i0 i1 i2 i3
  simp only [mv, setM, nextM] at *
  go_wp2
  exact bodyPost_ret (v := .agg #[.slice (some ⟨f1, g1, none⟩) (regs.set d (Wrd.wdo 1 x zz)).length h1, .int .i64 ((pc + 1) % 65536), .slice (some ⟨f2, g2, none⟩) mem.length h2, .int .i64 save, .bool lets, .bool waits, .int .i64 halt, .slice (some ⟨f3, g3, none⟩) ins.length h3, .slice (some ⟨f4, 0, none⟩) outs.length h4, .int .i64 (count + 1)]) (by simp [results, Tryz.results39, go_sem, z0, z1, z2, z3, z4, z5, z6, z7, z8, z9]) rfl ⟨_, rfl, by rw [HM.out]; exact CU.out.ten ZTu.out mach_int _ _ _ _ _ _ _ _ _ _, ints_ten Bu.out kk _ _ _ _ _ _ _ _ _ _⟩
set_option maxRecDepth 8000 in
set_option maxHeartbeats 4000000 in
theorem l3Do_4 (m : M) (d a : Nat) (k : Nat) (lo : Nat) (c : List Value) (w : World) (h : CMach w lo c m) (hf : Fit m) (hd : d < 4) (ha : a < 4) (hk : k < 4) :
    Calls Tryz.prog 39 #[.agg c.toArray, .agg #[.int .i64 4, .int .i64 d, .int .i64 a, .int .i64 k]] w fun e w' => ∃ c', e = .returned (.agg c'.toArray) ∧ CMach w' lo c' (doM m 4 d a k) ∧ Ints lo w w' := by
  obtain ⟨b1, o1, k1, b2, o2, k2, b3, o3, k3, b4, k4, rfl⟩ := forms h
  obtain ⟨regs, pc, mem, save, lets, waits, halt, ins, outs, count⟩ := m
  obtain ⟨r4, m64, rw_, mw_, p0, p1, c0, c1⟩ := hf
  have la : a < regs.length := by rw [show regs.length = 4 from r4]; exact ha
  have ld : d < regs.length := by rw [show regs.length = 4 from r4]; exact hd
  have lr : regs.length ≤ 1000 := by rw [show regs.length = 4 from r4]; omega
  have la' : ((a : Nat) : Int) < (regs.length : Int) := by omega
  have ld' : ((d : Nat) : Int) < (regs.length : Int) := by omega
  have R4 := hide r4
  clear r4 m64 mw_
  have bX : Below w.heap.size w (((w.alloc (.cells #[.slice (some ⟨b1, o1, none⟩) regs.length k1, .int .i64 pc, .slice (some ⟨b2, o2, none⟩) mem.length k2, .int .i64 save, .bool lets, .bool waits, .int .i64 halt, .slice (some ⟨b3, o3, none⟩) ins.length k3, .slice (some ⟨b4, 0, none⟩) outs.length k4, .int .i64 count] 25)).alloc (.cells #[.int .i64 4, .int .i64 d, .int .i64 a, .int .i64 k] 38)).alloc (.cells #[.slice none 0 0, .int .i64 0, .slice none 0 0, .int .i64 0, .bool false, .bool false, .int .i64 0, .slice none 0 0, .slice none 0 0, .int .i64 0] 25)) := (((Below.refl _ _).alloc (Nat.le_refl _) _).alloc (by simp) _).alloc (by simp; omega) _
  have HX := h.below bX
  obtain ⟨x, ex⟩ : ∃ x, regs[a]? = some x := ⟨_, List.getElem?_eq_getElem la⟩
  obtain ⟨y, ey⟩ : ∃ y, regs[d]? = some y := ⟨_, List.getElem?_eq_getElem ld⟩
  have bx := rw_ a x ex
  have by_ := rw_ d y ey
  obtain ⟨cx, fx⟩ := row_at HX.parts.1 ex
  obtain ⟨cy, fy⟩ := row_at HX.parts.1 ey
  have lk : k < regs.length := by rw [show regs.length = 4 from R4.out]; exact hk
  have lk' : ((k : Nat) : Int) < (regs.length : Int) := by omega
  obtain ⟨zz, ez⟩ : ∃ z, regs[k]? = some z := ⟨_, List.getElem?_eq_getElem lk⟩
  obtain ⟨cz, _⟩ := row_at HX.parts.1 ez
  have GZ := hide (getD_of ez)
  clear ez
  have GX := hide (getD_of ex)
  have GY := hide (getD_of ey)
  have T := hide (Three.new w [.slice (some ⟨b1, o1, none⟩) regs.length k1, .int .i64 pc, .slice (some ⟨b2, o2, none⟩) mem.length k2, .int .i64 save, .bool lets, .bool waits, .int .i64 halt, .slice (some ⟨b3, o3, none⟩) ins.length k3, .slice (some ⟨b4, 0, none⟩) outs.length k4, .int .i64 count] [.int .i64 4, .int .i64 d, .int .i64 a, .int .i64 k] [.slice none 0 0, .int .i64 0, .slice none 0 0, .int .i64 0, .bool false, .bool false, .int .i64 0, .slice none 0 0, .slice none 0 0, .int .i64 0] 25 38 25)
  have ZT0 := IsT.new ((w.alloc (.cells #[.slice (some ⟨b1, o1, none⟩) regs.length k1, .int .i64 pc, .slice (some ⟨b2, o2, none⟩) mem.length k2, .int .i64 save, .bool lets, .bool waits, .int .i64 halt, .slice (some ⟨b3, o3, none⟩) ins.length k3, .slice (some ⟨b4, 0, none⟩) outs.length k4, .int .i64 count] 25)).alloc (.cells #[.int .i64 4, .int .i64 d, .int .i64 a, .int .i64 k] 38)) #[.slice none 0 0, .int .i64 0, .slice none 0 0, .int .i64 0, .bool false, .bool false, .int .i64 0, .slice none 0 0, .slice none 0 0, .int .i64 0] 25
  have e1 : ((w.alloc (.cells #[.slice (some ⟨b1, o1, none⟩) regs.length k1, .int .i64 pc, .slice (some ⟨b2, o2, none⟩) mem.length k2, .int .i64 save, .bool lets, .bool waits, .int .i64 halt, .slice (some ⟨b3, o3, none⟩) ins.length k3, .slice (some ⟨b4, 0, none⟩) outs.length k4, .int .i64 count] 25)).alloc (.cells #[.int .i64 4, .int .i64 d, .int .i64 a, .int .i64 k] 38)).heap.size = w.heap.size + 1 + 1 := by simp
  rw [e1] at ZT0
  have ZT := hide ZT0
  have kk : w.heap.size ≤ w.heap.size + 1 + 1 := by omega
  have HM : Hid (doM ⟨regs, pc, mem, save, lets, waits, halt, ins, outs, count⟩ 4 d a k = setM ⟨regs, pc, mem, save, lets, waits, halt, ins, outs, count⟩ d (Wrd.wdo 2 x zz)) := show _ = _ by rw [doM_reck _ _ _ _ _ (by decide) (by decide), Int.toNat_natCast, show regs.getD a 0 = x from GX.out, show regs.getD k 0 = zz from GZ.out]; rfl
  have H := hide HX
  clear h HX ex ey ZT0 e1 bX rw_ fx fy
  simp only [mv] at *
  go_enter Tryz.func39, Tryz.ntmps39
  go_wp2_with fail
  obtain ⟨W, eW⟩ : ∃ W, (((w.alloc (.cells #[.slice (some ⟨b1, o1, none⟩) regs.length k1, .int .i64 pc, .slice (some ⟨b2, o2, none⟩) mem.length k2, .int .i64 save, .bool lets, .bool waits, .int .i64 halt, .slice (some ⟨b3, o3, none⟩) ins.length k3, .slice (some ⟨b4, 0, none⟩) outs.length k4, .int .i64 count] 25)).alloc (.cells #[.int .i64 4, .int .i64 d, .int .i64 a, .int .i64 k] 38)).alloc (.cells #[.slice none 0 0, .int .i64 0, .slice none 0 0, .int .i64 0, .bool false, .bool false, .int .i64 0, .slice none 0 0, .slice none 0 0, .int .i64 0] 25)) = W := ⟨_, rfl⟩
  rw [eW] at T H ZT cx cy cz ⊢
  clear eW
  have a0 := T.out.a.cell 0 _ rfl
  have a1 := T.out.a.cell 1 _ rfl
  have a2 := T.out.a.cell 2 _ rfl
  have a3 := T.out.a.cell 3 _ rfl
  have a4 := T.out.a.cell 4 _ rfl
  have a5 := T.out.a.cell 5 _ rfl
  have a6 := T.out.a.cell 6 _ rfl
  have a7 := T.out.a.cell 7 _ rfl
  have a8 := T.out.a.cell 8 _ rfl
  have a9 := T.out.a.cell 9 _ rfl
  have i0 := T.out.z.cell 0 _ rfl
  have i1 := T.out.z.cell 1 _ rfl
  have i2 := T.out.z.cell 2 _ rfl
  have i3 := T.out.z.cell 3 _ rfl
  refine region_tail 15 (by kernel_rfl) (by kernel_rfl) ?_
  simp only [List.take_succ_cons, List.take_zero, List.drop_succ_cons, List.drop_zero]
  repeat still_step
  still_call (Wrd.specDo 2 x zz _)
  repeat still_step
  refine wpStill_nil ?_
  go_wp2_with fail
  refine (l3Set _ d (Wrd.wdo 2 x zz) lo _ _ (CMach.drewN H.out 1) ld lr c0 c1 p0 p1).mono ?_
  rintro e u ⟨c', rfl, Cu, hi⟩
  obtain ⟨f1, g1, h1, f2, g2, h2, f3, g3, h3, f4, h4, rfl⟩ := forms Cu
  replace T := hide (T.out.drewN 1)
  replace ZT := hide (isT_drewN ZT.out 1)
  have Zu := Rec.ints T.out.o ZT.out mach_int hi
  have ZTu := hide (ZT.out.ints mach_int hi)
  have Bu := hide ((Ints.of_below (lo := lo) T.out.bw).trans hi)
  have CU := hide Cu
  have z0 := Zu.cell 0 _ rfl
  have y0 := Zu.soft 0
  have z1 := Zu.cell 1 _ rfl
  have y1 := Zu.soft 1
  have z2 := Zu.cell 2 _ rfl
  have y2 := Zu.soft 2
  have z3 := Zu.cell 3 _ rfl
  have y3 := Zu.soft 3
  have z4 := Zu.cell 4 _ rfl
  have y4 := Zu.soft 4
  have z5 := Zu.cell 5 _ rfl
  have y5 := Zu.soft 5
  have z6 := Zu.cell 6 _ rfl
  have y6 := Zu.soft 6
  have z7 := Zu.cell 7 _ rfl
  have y7 := Zu.soft 7
  have z8 := Zu.cell 8 _ rfl
  have y8 := Zu.soft 8
  have z9 := Zu.cell 9 _ rfl
  have y9 := Zu.soft 9
  clear T H ZT hi Zu Cu cx cy cz a0 a1 a2 a3 a4 a5 a6 a7 a8 a9 i0 i1 i2 i3
  simp only [mv, setM, nextM] at *
  go_wp2
  exact bodyPost_ret (v := .agg #[.slice (some ⟨f1, g1, none⟩) (regs.set d (Wrd.wdo 2 x zz)).length h1, .int .i64 ((pc + 1) % 65536), .slice (some ⟨f2, g2, none⟩) mem.length h2, .int .i64 save, .bool lets, .bool waits, .int .i64 halt, .slice (some ⟨f3, g3, none⟩) ins.length h3, .slice (some ⟨f4, 0, none⟩) outs.length h4, .int .i64 (count + 1)]) (by simp [results, Tryz.results39, go_sem, z0, z1, z2, z3, z4, z5, z6, z7, z8, z9]) rfl ⟨_, rfl, by rw [HM.out]; exact CU.out.ten ZTu.out mach_int _ _ _ _ _ _ _ _ _ _, ints_ten Bu.out kk _ _ _ _ _ _ _ _ _ _⟩
set_option maxRecDepth 8000 in
set_option maxHeartbeats 4000000 in
theorem l3Do_5 (m : M) (d a : Nat) (k : Nat) (lo : Nat) (c : List Value) (w : World) (h : CMach w lo c m) (hf : Fit m) (hd : d < 4) (ha : a < 4) (hk : k < 4) :
    Calls Tryz.prog 39 #[.agg c.toArray, .agg #[.int .i64 5, .int .i64 d, .int .i64 a, .int .i64 k]] w fun e w' => ∃ c', e = .returned (.agg c'.toArray) ∧ CMach w' lo c' (doM m 5 d a k) ∧ Ints lo w w' := by
  obtain ⟨b1, o1, k1, b2, o2, k2, b3, o3, k3, b4, k4, rfl⟩ := forms h
  obtain ⟨regs, pc, mem, save, lets, waits, halt, ins, outs, count⟩ := m
  obtain ⟨r4, m64, rw_, mw_, p0, p1, c0, c1⟩ := hf
  have la : a < regs.length := by rw [show regs.length = 4 from r4]; exact ha
  have ld : d < regs.length := by rw [show regs.length = 4 from r4]; exact hd
  have lr : regs.length ≤ 1000 := by rw [show regs.length = 4 from r4]; omega
  have la' : ((a : Nat) : Int) < (regs.length : Int) := by omega
  have ld' : ((d : Nat) : Int) < (regs.length : Int) := by omega
  have R4 := hide r4
  clear r4 m64 mw_
  have bX : Below w.heap.size w (((w.alloc (.cells #[.slice (some ⟨b1, o1, none⟩) regs.length k1, .int .i64 pc, .slice (some ⟨b2, o2, none⟩) mem.length k2, .int .i64 save, .bool lets, .bool waits, .int .i64 halt, .slice (some ⟨b3, o3, none⟩) ins.length k3, .slice (some ⟨b4, 0, none⟩) outs.length k4, .int .i64 count] 25)).alloc (.cells #[.int .i64 5, .int .i64 d, .int .i64 a, .int .i64 k] 38)).alloc (.cells #[.slice none 0 0, .int .i64 0, .slice none 0 0, .int .i64 0, .bool false, .bool false, .int .i64 0, .slice none 0 0, .slice none 0 0, .int .i64 0] 25)) := (((Below.refl _ _).alloc (Nat.le_refl _) _).alloc (by simp) _).alloc (by simp; omega) _
  have HX := h.below bX
  obtain ⟨x, ex⟩ : ∃ x, regs[a]? = some x := ⟨_, List.getElem?_eq_getElem la⟩
  obtain ⟨y, ey⟩ : ∃ y, regs[d]? = some y := ⟨_, List.getElem?_eq_getElem ld⟩
  have bx := rw_ a x ex
  have by_ := rw_ d y ey
  obtain ⟨cx, fx⟩ := row_at HX.parts.1 ex
  obtain ⟨cy, fy⟩ := row_at HX.parts.1 ey
  have lk : k < regs.length := by rw [show regs.length = 4 from R4.out]; exact hk
  have lk' : ((k : Nat) : Int) < (regs.length : Int) := by omega
  obtain ⟨zz, ez⟩ : ∃ z, regs[k]? = some z := ⟨_, List.getElem?_eq_getElem lk⟩
  obtain ⟨cz, _⟩ := row_at HX.parts.1 ez
  have GZ := hide (getD_of ez)
  clear ez
  have GX := hide (getD_of ex)
  have GY := hide (getD_of ey)
  have T := hide (Three.new w [.slice (some ⟨b1, o1, none⟩) regs.length k1, .int .i64 pc, .slice (some ⟨b2, o2, none⟩) mem.length k2, .int .i64 save, .bool lets, .bool waits, .int .i64 halt, .slice (some ⟨b3, o3, none⟩) ins.length k3, .slice (some ⟨b4, 0, none⟩) outs.length k4, .int .i64 count] [.int .i64 5, .int .i64 d, .int .i64 a, .int .i64 k] [.slice none 0 0, .int .i64 0, .slice none 0 0, .int .i64 0, .bool false, .bool false, .int .i64 0, .slice none 0 0, .slice none 0 0, .int .i64 0] 25 38 25)
  have ZT0 := IsT.new ((w.alloc (.cells #[.slice (some ⟨b1, o1, none⟩) regs.length k1, .int .i64 pc, .slice (some ⟨b2, o2, none⟩) mem.length k2, .int .i64 save, .bool lets, .bool waits, .int .i64 halt, .slice (some ⟨b3, o3, none⟩) ins.length k3, .slice (some ⟨b4, 0, none⟩) outs.length k4, .int .i64 count] 25)).alloc (.cells #[.int .i64 5, .int .i64 d, .int .i64 a, .int .i64 k] 38)) #[.slice none 0 0, .int .i64 0, .slice none 0 0, .int .i64 0, .bool false, .bool false, .int .i64 0, .slice none 0 0, .slice none 0 0, .int .i64 0] 25
  have e1 : ((w.alloc (.cells #[.slice (some ⟨b1, o1, none⟩) regs.length k1, .int .i64 pc, .slice (some ⟨b2, o2, none⟩) mem.length k2, .int .i64 save, .bool lets, .bool waits, .int .i64 halt, .slice (some ⟨b3, o3, none⟩) ins.length k3, .slice (some ⟨b4, 0, none⟩) outs.length k4, .int .i64 count] 25)).alloc (.cells #[.int .i64 5, .int .i64 d, .int .i64 a, .int .i64 k] 38)).heap.size = w.heap.size + 1 + 1 := by simp
  rw [e1] at ZT0
  have ZT := hide ZT0
  have kk : w.heap.size ≤ w.heap.size + 1 + 1 := by omega
  have HM : Hid (doM ⟨regs, pc, mem, save, lets, waits, halt, ins, outs, count⟩ 5 d a k = setM ⟨regs, pc, mem, save, lets, waits, halt, ins, outs, count⟩ d (Wrd.wdo 3 x zz)) := show _ = _ by rw [doM_reck _ _ _ _ _ (by decide) (by decide), Int.toNat_natCast, show regs.getD a 0 = x from GX.out, show regs.getD k 0 = zz from GZ.out]; rfl
  have H := hide HX
  clear h HX ex ey ZT0 e1 bX rw_ fx fy
  simp only [mv] at *
  go_enter Tryz.func39, Tryz.ntmps39
  go_wp2_with fail
  obtain ⟨W, eW⟩ : ∃ W, (((w.alloc (.cells #[.slice (some ⟨b1, o1, none⟩) regs.length k1, .int .i64 pc, .slice (some ⟨b2, o2, none⟩) mem.length k2, .int .i64 save, .bool lets, .bool waits, .int .i64 halt, .slice (some ⟨b3, o3, none⟩) ins.length k3, .slice (some ⟨b4, 0, none⟩) outs.length k4, .int .i64 count] 25)).alloc (.cells #[.int .i64 5, .int .i64 d, .int .i64 a, .int .i64 k] 38)).alloc (.cells #[.slice none 0 0, .int .i64 0, .slice none 0 0, .int .i64 0, .bool false, .bool false, .int .i64 0, .slice none 0 0, .slice none 0 0, .int .i64 0] 25)) = W := ⟨_, rfl⟩
  rw [eW] at T H ZT cx cy cz ⊢
  clear eW
  have a0 := T.out.a.cell 0 _ rfl
  have a1 := T.out.a.cell 1 _ rfl
  have a2 := T.out.a.cell 2 _ rfl
  have a3 := T.out.a.cell 3 _ rfl
  have a4 := T.out.a.cell 4 _ rfl
  have a5 := T.out.a.cell 5 _ rfl
  have a6 := T.out.a.cell 6 _ rfl
  have a7 := T.out.a.cell 7 _ rfl
  have a8 := T.out.a.cell 8 _ rfl
  have a9 := T.out.a.cell 9 _ rfl
  have i0 := T.out.z.cell 0 _ rfl
  have i1 := T.out.z.cell 1 _ rfl
  have i2 := T.out.z.cell 2 _ rfl
  have i3 := T.out.z.cell 3 _ rfl
  refine region_tail 15 (by kernel_rfl) (by kernel_rfl) ?_
  simp only [List.take_succ_cons, List.take_zero, List.drop_succ_cons, List.drop_zero]
  repeat still_step
  still_call (Wrd.specDo 3 x zz _)
  repeat still_step
  refine wpStill_nil ?_
  go_wp2_with fail
  refine (l3Set _ d (Wrd.wdo 3 x zz) lo _ _ (CMach.drewN H.out 1) ld lr c0 c1 p0 p1).mono ?_
  rintro e u ⟨c', rfl, Cu, hi⟩
  obtain ⟨f1, g1, h1, f2, g2, h2, f3, g3, h3, f4, h4, rfl⟩ := forms Cu
  replace T := hide (T.out.drewN 1)
  replace ZT := hide (isT_drewN ZT.out 1)
  have Zu := Rec.ints T.out.o ZT.out mach_int hi
  have ZTu := hide (ZT.out.ints mach_int hi)
  have Bu := hide ((Ints.of_below (lo := lo) T.out.bw).trans hi)
  have CU := hide Cu
  have z0 := Zu.cell 0 _ rfl
  have y0 := Zu.soft 0
  have z1 := Zu.cell 1 _ rfl
  have y1 := Zu.soft 1
  have z2 := Zu.cell 2 _ rfl
  have y2 := Zu.soft 2
  have z3 := Zu.cell 3 _ rfl
  have y3 := Zu.soft 3
  have z4 := Zu.cell 4 _ rfl
  have y4 := Zu.soft 4
  have z5 := Zu.cell 5 _ rfl
  have y5 := Zu.soft 5
  have z6 := Zu.cell 6 _ rfl
  have y6 := Zu.soft 6
  have z7 := Zu.cell 7 _ rfl
  have y7 := Zu.soft 7
  have z8 := Zu.cell 8 _ rfl
  have y8 := Zu.soft 8
  have z9 := Zu.cell 9 _ rfl
  have y9 := Zu.soft 9
  clear T H ZT hi Zu Cu cx cy cz a0 a1 a2 a3 a4 a5 a6 a7 a8 a9 i0 i1 i2 i3
  simp only [mv, setM, nextM] at *
  go_wp2
  exact bodyPost_ret (v := .agg #[.slice (some ⟨f1, g1, none⟩) (regs.set d (Wrd.wdo 3 x zz)).length h1, .int .i64 ((pc + 1) % 65536), .slice (some ⟨f2, g2, none⟩) mem.length h2, .int .i64 save, .bool lets, .bool waits, .int .i64 halt, .slice (some ⟨f3, g3, none⟩) ins.length h3, .slice (some ⟨f4, 0, none⟩) outs.length h4, .int .i64 (count + 1)]) (by simp [results, Tryz.results39, go_sem, z0, z1, z2, z3, z4, z5, z6, z7, z8, z9]) rfl ⟨_, rfl, by rw [HM.out]; exact CU.out.ten ZTu.out mach_int _ _ _ _ _ _ _ _ _ _, ints_ten Bu.out kk _ _ _ _ _ _ _ _ _ _⟩
set_option maxRecDepth 8000 in
set_option maxHeartbeats 4000000 in
theorem l3Do_6 (m : M) (d a : Nat) (k : Nat) (lo : Nat) (c : List Value) (w : World) (h : CMach w lo c m) (hf : Fit m) (hd : d < 4) (ha : a < 4) (hk : k < 4) :
    Calls Tryz.prog 39 #[.agg c.toArray, .agg #[.int .i64 6, .int .i64 d, .int .i64 a, .int .i64 k]] w fun e w' => ∃ c', e = .returned (.agg c'.toArray) ∧ CMach w' lo c' (doM m 6 d a k) ∧ Ints lo w w' := by
  obtain ⟨b1, o1, k1, b2, o2, k2, b3, o3, k3, b4, k4, rfl⟩ := forms h
  obtain ⟨regs, pc, mem, save, lets, waits, halt, ins, outs, count⟩ := m
  obtain ⟨r4, m64, rw_, mw_, p0, p1, c0, c1⟩ := hf
  have la : a < regs.length := by rw [show regs.length = 4 from r4]; exact ha
  have ld : d < regs.length := by rw [show regs.length = 4 from r4]; exact hd
  have lr : regs.length ≤ 1000 := by rw [show regs.length = 4 from r4]; omega
  have la' : ((a : Nat) : Int) < (regs.length : Int) := by omega
  have ld' : ((d : Nat) : Int) < (regs.length : Int) := by omega
  have R4 := hide r4
  clear r4 m64 mw_
  have bX : Below w.heap.size w (((w.alloc (.cells #[.slice (some ⟨b1, o1, none⟩) regs.length k1, .int .i64 pc, .slice (some ⟨b2, o2, none⟩) mem.length k2, .int .i64 save, .bool lets, .bool waits, .int .i64 halt, .slice (some ⟨b3, o3, none⟩) ins.length k3, .slice (some ⟨b4, 0, none⟩) outs.length k4, .int .i64 count] 25)).alloc (.cells #[.int .i64 6, .int .i64 d, .int .i64 a, .int .i64 k] 38)).alloc (.cells #[.slice none 0 0, .int .i64 0, .slice none 0 0, .int .i64 0, .bool false, .bool false, .int .i64 0, .slice none 0 0, .slice none 0 0, .int .i64 0] 25)) := (((Below.refl _ _).alloc (Nat.le_refl _) _).alloc (by simp) _).alloc (by simp; omega) _
  have HX := h.below bX
  obtain ⟨x, ex⟩ : ∃ x, regs[a]? = some x := ⟨_, List.getElem?_eq_getElem la⟩
  obtain ⟨y, ey⟩ : ∃ y, regs[d]? = some y := ⟨_, List.getElem?_eq_getElem ld⟩
  have bx := rw_ a x ex
  have by_ := rw_ d y ey
  obtain ⟨cx, fx⟩ := row_at HX.parts.1 ex
  obtain ⟨cy, fy⟩ := row_at HX.parts.1 ey
  have lk : k < regs.length := by rw [show regs.length = 4 from R4.out]; exact hk
  have lk' : ((k : Nat) : Int) < (regs.length : Int) := by omega
  obtain ⟨zz, ez⟩ : ∃ z, regs[k]? = some z := ⟨_, List.getElem?_eq_getElem lk⟩
  obtain ⟨cz, _⟩ := row_at HX.parts.1 ez
  have GZ := hide (getD_of ez)
  clear ez
  have GX := hide (getD_of ex)
  have GY := hide (getD_of ey)
  have T := hide (Three.new w [.slice (some ⟨b1, o1, none⟩) regs.length k1, .int .i64 pc, .slice (some ⟨b2, o2, none⟩) mem.length k2, .int .i64 save, .bool lets, .bool waits, .int .i64 halt, .slice (some ⟨b3, o3, none⟩) ins.length k3, .slice (some ⟨b4, 0, none⟩) outs.length k4, .int .i64 count] [.int .i64 6, .int .i64 d, .int .i64 a, .int .i64 k] [.slice none 0 0, .int .i64 0, .slice none 0 0, .int .i64 0, .bool false, .bool false, .int .i64 0, .slice none 0 0, .slice none 0 0, .int .i64 0] 25 38 25)
  have ZT0 := IsT.new ((w.alloc (.cells #[.slice (some ⟨b1, o1, none⟩) regs.length k1, .int .i64 pc, .slice (some ⟨b2, o2, none⟩) mem.length k2, .int .i64 save, .bool lets, .bool waits, .int .i64 halt, .slice (some ⟨b3, o3, none⟩) ins.length k3, .slice (some ⟨b4, 0, none⟩) outs.length k4, .int .i64 count] 25)).alloc (.cells #[.int .i64 6, .int .i64 d, .int .i64 a, .int .i64 k] 38)) #[.slice none 0 0, .int .i64 0, .slice none 0 0, .int .i64 0, .bool false, .bool false, .int .i64 0, .slice none 0 0, .slice none 0 0, .int .i64 0] 25
  have e1 : ((w.alloc (.cells #[.slice (some ⟨b1, o1, none⟩) regs.length k1, .int .i64 pc, .slice (some ⟨b2, o2, none⟩) mem.length k2, .int .i64 save, .bool lets, .bool waits, .int .i64 halt, .slice (some ⟨b3, o3, none⟩) ins.length k3, .slice (some ⟨b4, 0, none⟩) outs.length k4, .int .i64 count] 25)).alloc (.cells #[.int .i64 6, .int .i64 d, .int .i64 a, .int .i64 k] 38)).heap.size = w.heap.size + 1 + 1 := by simp
  rw [e1] at ZT0
  have ZT := hide ZT0
  have kk : w.heap.size ≤ w.heap.size + 1 + 1 := by omega
  have HM : Hid (doM ⟨regs, pc, mem, save, lets, waits, halt, ins, outs, count⟩ 6 d a k = setM ⟨regs, pc, mem, save, lets, waits, halt, ins, outs, count⟩ d (Wrd.wdo 4 x zz)) := show _ = _ by rw [doM_reck _ _ _ _ _ (by decide) (by decide), Int.toNat_natCast, show regs.getD a 0 = x from GX.out, show regs.getD k 0 = zz from GZ.out]; rfl
  have H := hide HX
  clear h HX ex ey ZT0 e1 bX rw_ fx fy
  simp only [mv] at *
  go_enter Tryz.func39, Tryz.ntmps39
  go_wp2_with fail
  obtain ⟨W, eW⟩ : ∃ W, (((w.alloc (.cells #[.slice (some ⟨b1, o1, none⟩) regs.length k1, .int .i64 pc, .slice (some ⟨b2, o2, none⟩) mem.length k2, .int .i64 save, .bool lets, .bool waits, .int .i64 halt, .slice (some ⟨b3, o3, none⟩) ins.length k3, .slice (some ⟨b4, 0, none⟩) outs.length k4, .int .i64 count] 25)).alloc (.cells #[.int .i64 6, .int .i64 d, .int .i64 a, .int .i64 k] 38)).alloc (.cells #[.slice none 0 0, .int .i64 0, .slice none 0 0, .int .i64 0, .bool false, .bool false, .int .i64 0, .slice none 0 0, .slice none 0 0, .int .i64 0] 25)) = W := ⟨_, rfl⟩
  rw [eW] at T H ZT cx cy cz ⊢
  clear eW
  have a0 := T.out.a.cell 0 _ rfl
  have a1 := T.out.a.cell 1 _ rfl
  have a2 := T.out.a.cell 2 _ rfl
  have a3 := T.out.a.cell 3 _ rfl
  have a4 := T.out.a.cell 4 _ rfl
  have a5 := T.out.a.cell 5 _ rfl
  have a6 := T.out.a.cell 6 _ rfl
  have a7 := T.out.a.cell 7 _ rfl
  have a8 := T.out.a.cell 8 _ rfl
  have a9 := T.out.a.cell 9 _ rfl
  have i0 := T.out.z.cell 0 _ rfl
  have i1 := T.out.z.cell 1 _ rfl
  have i2 := T.out.z.cell 2 _ rfl
  have i3 := T.out.z.cell 3 _ rfl
  refine region_tail 15 (by kernel_rfl) (by kernel_rfl) ?_
  simp only [List.take_succ_cons, List.take_zero, List.drop_succ_cons, List.drop_zero]
  repeat still_step
  still_call (Wrd.specDo 4 x zz _)
  repeat still_step
  refine wpStill_nil ?_
  go_wp2_with fail
  refine (l3Set _ d (Wrd.wdo 4 x zz) lo _ _ (CMach.drewN H.out 1) ld lr c0 c1 p0 p1).mono ?_
  rintro e u ⟨c', rfl, Cu, hi⟩
  obtain ⟨f1, g1, h1, f2, g2, h2, f3, g3, h3, f4, h4, rfl⟩ := forms Cu
  replace T := hide (T.out.drewN 1)
  replace ZT := hide (isT_drewN ZT.out 1)
  have Zu := Rec.ints T.out.o ZT.out mach_int hi
  have ZTu := hide (ZT.out.ints mach_int hi)
  have Bu := hide ((Ints.of_below (lo := lo) T.out.bw).trans hi)
  have CU := hide Cu
  have z0 := Zu.cell 0 _ rfl
  have y0 := Zu.soft 0
  have z1 := Zu.cell 1 _ rfl
  have y1 := Zu.soft 1
  have z2 := Zu.cell 2 _ rfl
  have y2 := Zu.soft 2
  have z3 := Zu.cell 3 _ rfl
  have y3 := Zu.soft 3
  have z4 := Zu.cell 4 _ rfl
  have y4 := Zu.soft 4
  have z5 := Zu.cell 5 _ rfl
  have y5 := Zu.soft 5
  have z6 := Zu.cell 6 _ rfl
  have y6 := Zu.soft 6
  have z7 := Zu.cell 7 _ rfl
  have y7 := Zu.soft 7
  have z8 := Zu.cell 8 _ rfl
  have y8 := Zu.soft 8
  have z9 := Zu.cell 9 _ rfl
  have y9 := Zu.soft 9
  clear T H ZT hi Zu Cu cx cy cz a0 a1 a2 a3 a4 a5 a6 a7 a8 a9 i0 i1 i2 i3
  simp only [mv, setM, nextM] at *
  go_wp2
  exact bodyPost_ret (v := .agg #[.slice (some ⟨f1, g1, none⟩) (regs.set d (Wrd.wdo 4 x zz)).length h1, .int .i64 ((pc + 1) % 65536), .slice (some ⟨f2, g2, none⟩) mem.length h2, .int .i64 save, .bool lets, .bool waits, .int .i64 halt, .slice (some ⟨f3, g3, none⟩) ins.length h3, .slice (some ⟨f4, 0, none⟩) outs.length h4, .int .i64 (count + 1)]) (by simp [results, Tryz.results39, go_sem, z0, z1, z2, z3, z4, z5, z6, z7, z8, z9]) rfl ⟨_, rfl, by rw [HM.out]; exact CU.out.ten ZTu.out mach_int _ _ _ _ _ _ _ _ _ _, ints_ten Bu.out kk _ _ _ _ _ _ _ _ _ _⟩
set_option maxRecDepth 8000 in
set_option maxHeartbeats 4000000 in
theorem l3Do_7 (m : M) (d a : Nat) (k : Nat) (lo : Nat) (c : List Value) (w : World) (h : CMach w lo c m) (hf : Fit m) (hd : d < 4) (ha : a < 4) (hk : k < 4) :
    Calls Tryz.prog 39 #[.agg c.toArray, .agg #[.int .i64 7, .int .i64 d, .int .i64 a, .int .i64 k]] w fun e w' => ∃ c', e = .returned (.agg c'.toArray) ∧ CMach w' lo c' (doM m 7 d a k) ∧ Ints lo w w' := by
  obtain ⟨b1, o1, k1, b2, o2, k2, b3, o3, k3, b4, k4, rfl⟩ := forms h
  obtain ⟨regs, pc, mem, save, lets, waits, halt, ins, outs, count⟩ := m
  obtain ⟨r4, m64, rw_, mw_, p0, p1, c0, c1⟩ := hf
  have la : a < regs.length := by rw [show regs.length = 4 from r4]; exact ha
  have ld : d < regs.length := by rw [show regs.length = 4 from r4]; exact hd
  have lr : regs.length ≤ 1000 := by rw [show regs.length = 4 from r4]; omega
  have la' : ((a : Nat) : Int) < (regs.length : Int) := by omega
  have ld' : ((d : Nat) : Int) < (regs.length : Int) := by omega
  have R4 := hide r4
  clear r4 m64 mw_
  have bX : Below w.heap.size w (((w.alloc (.cells #[.slice (some ⟨b1, o1, none⟩) regs.length k1, .int .i64 pc, .slice (some ⟨b2, o2, none⟩) mem.length k2, .int .i64 save, .bool lets, .bool waits, .int .i64 halt, .slice (some ⟨b3, o3, none⟩) ins.length k3, .slice (some ⟨b4, 0, none⟩) outs.length k4, .int .i64 count] 25)).alloc (.cells #[.int .i64 7, .int .i64 d, .int .i64 a, .int .i64 k] 38)).alloc (.cells #[.slice none 0 0, .int .i64 0, .slice none 0 0, .int .i64 0, .bool false, .bool false, .int .i64 0, .slice none 0 0, .slice none 0 0, .int .i64 0] 25)) := (((Below.refl _ _).alloc (Nat.le_refl _) _).alloc (by simp) _).alloc (by simp; omega) _
  have HX := h.below bX
  obtain ⟨x, ex⟩ : ∃ x, regs[a]? = some x := ⟨_, List.getElem?_eq_getElem la⟩
  obtain ⟨y, ey⟩ : ∃ y, regs[d]? = some y := ⟨_, List.getElem?_eq_getElem ld⟩
  have bx := rw_ a x ex
  have by_ := rw_ d y ey
  obtain ⟨cx, fx⟩ := row_at HX.parts.1 ex
  obtain ⟨cy, fy⟩ := row_at HX.parts.1 ey
  have lk : k < regs.length := by rw [show regs.length = 4 from R4.out]; exact hk
  have lk' : ((k : Nat) : Int) < (regs.length : Int) := by omega
  obtain ⟨zz, ez⟩ : ∃ z, regs[k]? = some z := ⟨_, List.getElem?_eq_getElem lk⟩
  obtain ⟨cz, _⟩ := row_at HX.parts.1 ez
  have GZ := hide (getD_of ez)
  clear ez
  have GX := hide (getD_of ex)
  have GY := hide (getD_of ey)
  have T := hide (Three.new w [.slice (some ⟨b1, o1, none⟩) regs.length k1, .int .i64 pc, .slice (some ⟨b2, o2, none⟩) mem.length k2, .int .i64 save, .bool lets, .bool waits, .int .i64 halt, .slice (some ⟨b3, o3, none⟩) ins.length k3, .slice (some ⟨b4, 0, none⟩) outs.length k4, .int .i64 count] [.int .i64 7, .int .i64 d, .int .i64 a, .int .i64 k] [.slice none 0 0, .int .i64 0, .slice none 0 0, .int .i64 0, .bool false, .bool false, .int .i64 0, .slice none 0 0, .slice none 0 0, .int .i64 0] 25 38 25)
  have ZT0 := IsT.new ((w.alloc (.cells #[.slice (some ⟨b1, o1, none⟩) regs.length k1, .int .i64 pc, .slice (some ⟨b2, o2, none⟩) mem.length k2, .int .i64 save, .bool lets, .bool waits, .int .i64 halt, .slice (some ⟨b3, o3, none⟩) ins.length k3, .slice (some ⟨b4, 0, none⟩) outs.length k4, .int .i64 count] 25)).alloc (.cells #[.int .i64 7, .int .i64 d, .int .i64 a, .int .i64 k] 38)) #[.slice none 0 0, .int .i64 0, .slice none 0 0, .int .i64 0, .bool false, .bool false, .int .i64 0, .slice none 0 0, .slice none 0 0, .int .i64 0] 25
  have e1 : ((w.alloc (.cells #[.slice (some ⟨b1, o1, none⟩) regs.length k1, .int .i64 pc, .slice (some ⟨b2, o2, none⟩) mem.length k2, .int .i64 save, .bool lets, .bool waits, .int .i64 halt, .slice (some ⟨b3, o3, none⟩) ins.length k3, .slice (some ⟨b4, 0, none⟩) outs.length k4, .int .i64 count] 25)).alloc (.cells #[.int .i64 7, .int .i64 d, .int .i64 a, .int .i64 k] 38)).heap.size = w.heap.size + 1 + 1 := by simp
  rw [e1] at ZT0
  have ZT := hide ZT0
  have kk : w.heap.size ≤ w.heap.size + 1 + 1 := by omega
  have HM : Hid (doM ⟨regs, pc, mem, save, lets, waits, halt, ins, outs, count⟩ 7 d a k = setM ⟨regs, pc, mem, save, lets, waits, halt, ins, outs, count⟩ d (Wrd.wdo 5 x zz)) := show _ = _ by rw [doM_reck _ _ _ _ _ (by decide) (by decide), Int.toNat_natCast, show regs.getD a 0 = x from GX.out, show regs.getD k 0 = zz from GZ.out]; rfl
  have H := hide HX
  clear h HX ex ey ZT0 e1 bX rw_ fx fy
  simp only [mv] at *
  go_enter Tryz.func39, Tryz.ntmps39
  go_wp2_with fail
  obtain ⟨W, eW⟩ : ∃ W, (((w.alloc (.cells #[.slice (some ⟨b1, o1, none⟩) regs.length k1, .int .i64 pc, .slice (some ⟨b2, o2, none⟩) mem.length k2, .int .i64 save, .bool lets, .bool waits, .int .i64 halt, .slice (some ⟨b3, o3, none⟩) ins.length k3, .slice (some ⟨b4, 0, none⟩) outs.length k4, .int .i64 count] 25)).alloc (.cells #[.int .i64 7, .int .i64 d, .int .i64 a, .int .i64 k] 38)).alloc (.cells #[.slice none 0 0, .int .i64 0, .slice none 0 0, .int .i64 0, .bool false, .bool false, .int .i64 0, .slice none 0 0, .slice none 0 0, .int .i64 0] 25)) = W := ⟨_, rfl⟩
  rw [eW] at T H ZT cx cy cz ⊢
  clear eW
  have a0 := T.out.a.cell 0 _ rfl
  have a1 := T.out.a.cell 1 _ rfl
  have a2 := T.out.a.cell 2 _ rfl
  have a3 := T.out.a.cell 3 _ rfl
  have a4 := T.out.a.cell 4 _ rfl
  have a5 := T.out.a.cell 5 _ rfl
  have a6 := T.out.a.cell 6 _ rfl
  have a7 := T.out.a.cell 7 _ rfl
  have a8 := T.out.a.cell 8 _ rfl
  have a9 := T.out.a.cell 9 _ rfl
  have i0 := T.out.z.cell 0 _ rfl
  have i1 := T.out.z.cell 1 _ rfl
  have i2 := T.out.z.cell 2 _ rfl
  have i3 := T.out.z.cell 3 _ rfl
  refine region_tail 15 (by kernel_rfl) (by kernel_rfl) ?_
  simp only [List.take_succ_cons, List.take_zero, List.drop_succ_cons, List.drop_zero]
  repeat still_step
  still_call (Wrd.specDo 5 x zz _)
  repeat still_step
  refine wpStill_nil ?_
  go_wp2_with fail
  refine (l3Set _ d (Wrd.wdo 5 x zz) lo _ _ (CMach.drewN H.out 1) ld lr c0 c1 p0 p1).mono ?_
  rintro e u ⟨c', rfl, Cu, hi⟩
  obtain ⟨f1, g1, h1, f2, g2, h2, f3, g3, h3, f4, h4, rfl⟩ := forms Cu
  replace T := hide (T.out.drewN 1)
  replace ZT := hide (isT_drewN ZT.out 1)
  have Zu := Rec.ints T.out.o ZT.out mach_int hi
  have ZTu := hide (ZT.out.ints mach_int hi)
  have Bu := hide ((Ints.of_below (lo := lo) T.out.bw).trans hi)
  have CU := hide Cu
  have z0 := Zu.cell 0 _ rfl
  have y0 := Zu.soft 0
  have z1 := Zu.cell 1 _ rfl
  have y1 := Zu.soft 1
  have z2 := Zu.cell 2 _ rfl
  have y2 := Zu.soft 2
  have z3 := Zu.cell 3 _ rfl
  have y3 := Zu.soft 3
  have z4 := Zu.cell 4 _ rfl
  have y4 := Zu.soft 4
  have z5 := Zu.cell 5 _ rfl
  have y5 := Zu.soft 5
  have z6 := Zu.cell 6 _ rfl
  have y6 := Zu.soft 6
  have z7 := Zu.cell 7 _ rfl
  have y7 := Zu.soft 7
  have z8 := Zu.cell 8 _ rfl
  have y8 := Zu.soft 8
  have z9 := Zu.cell 9 _ rfl
  have y9 := Zu.soft 9
  clear T H ZT hi Zu Cu cx cy cz a0 a1 a2 a3 a4 a5 a6 a7 a8 a9 i0 i1 i2 i3
  simp only [mv, setM, nextM] at *
  go_wp2
  exact bodyPost_ret (v := .agg #[.slice (some ⟨f1, g1, none⟩) (regs.set d (Wrd.wdo 5 x zz)).length h1, .int .i64 ((pc + 1) % 65536), .slice (some ⟨f2, g2, none⟩) mem.length h2, .int .i64 save, .bool lets, .bool waits, .int .i64 halt, .slice (some ⟨f3, g3, none⟩) ins.length h3, .slice (some ⟨f4, 0, none⟩) outs.length h4, .int .i64 (count + 1)]) (by simp [results, Tryz.results39, go_sem, z0, z1, z2, z3, z4, z5, z6, z7, z8, z9]) rfl ⟨_, rfl, by rw [HM.out]; exact CU.out.ten ZTu.out mach_int _ _ _ _ _ _ _ _ _ _, ints_ten Bu.out kk _ _ _ _ _ _ _ _ _ _⟩
end Go.Proofs.YtnhpmbhphbphaaaGreat.Mch
