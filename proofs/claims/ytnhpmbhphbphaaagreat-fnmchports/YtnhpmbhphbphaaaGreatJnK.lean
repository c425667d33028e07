/-
  The specification's steps on a copy of a machine: contracts of l3Reach.
-/
import Derived.Test.YtnhpmbhphbphaaaGreatMchG
import Derived.Deep.QuietTactic
import Derived.BigQuiet
import Derived.StillTailTactics
namespace Go.Proofs.YtnhpmbhphbphaaaGreat.Mch
open Go.ChangeShapes Go.WideShapes Go.ChangeAt Go.RowKit IntS
/-- What is asked of a machine that goes on. -/
structure Fit (m : M) : Prop where
  regs : m.regs.length = 4
  mem : m.mem.length = 64
  rw : ∀ (i : Nat) x, m.regs[i]? = some x → 0 ≤ x ∧ x < 65536
  mw : ∀ (i : Nat) x, m.mem[i]? = some x → 0 ≤ x ∧ x < 65536
  p0 : 0 ≤ m.pc
  p1 : m.pc < 65536
  c0 : 0 ≤ m.count
  c1 : m.count ≤ 1000000
def reachM (m : M) (op : Int) (d a : Nat) (k : Int) : M :=
  if 64 ≤ (m.regs.getD a 0 + k) % 65536 then haltM m 3
  else if op = 9 then setM m d (m.mem.getD ((m.regs.getD a 0 + k) % 65536).toNat 0)
  else nextM { m with mem := m.mem.set ((m.regs.getD a 0 + k) % 65536).toNat (m.regs.getD d 0) } (m.pc + 1)
theorem getD_of {xs : List Int} {i : Nat} {x : Int} (h : xs[i]? = some x) : xs.getD i 0 = x := by rw [List.getD_eq_getElem?_getD, h]; rfl
theorem row_drewN {w : World} {B : Nat} {v : Value} {xs : List Int} (h : WRow w B v xs) (k : Nat) : WRow (w.drewN k) B v xs := ⟨h.ex⟩
theorem region_tail {P : Program} {id : Nat} {Q : Exit → Act → World → Prop} {a : Act} {w : World} {l : List Oper} (n : Nat) (hm : P.follows .mixedOrders = true) (hB : Region.lexTailB .any l.toArray n = true)
    (h : wpStill P l.toArray w.drew (fun a' => wpList P l.toArray Q (l.drop n) a' w.drew) (l.take n) a) : (Code.region id l.toArray true).wp P Q a w := wp_region_still_tail n hm hB h
theorem isT_drewN {w : World} {b : Nat} {t : TypeId} (h : IsT w b t) (k : Nat) : IsT (w.drewN k) b t := h
theorem CMach.drewN {w : World} {lo : Nat} {c : List Value} {m : M} (h : CMach w lo c m) (k : Nat) : CMach (w.drewN k) lo c m := by
  obtain ⟨b1, b2, b3, b4, o1, o2, o3, k1, k2, k3, k4, hc, h1, h2, h3, h4, hlo, hd, t1, t2, t3, t4⟩ := h
  exact ⟨b1, b2, b3, b4, o1, o2, o3, k1, k2, k3, k4, hc, row_drewN h1 k, row_drewN h2 k, row_drewN h3 k, h4, hlo, hd, ⟨t1.t, t1.room⟩, t2, t3, t4⟩
theorem below_drewN {n : Nat} {w u : World} (h : Below n w u) (k : Nat) : Below n w (u.drewN k) := ⟨h.os, h.tape, h.output, h.size, h.block⟩
theorem Rec.drewN {Z : Nat} {cs : List Value} {w : World} (h : Rec Z cs w) (k : Nat) : Rec Z cs (w.drewN k) := ⟨h.lt, h.cell, h.soft⟩
theorem Three.drewN {w u : World} {n : Nat} {A Z O : List Value} (h : Three w n A Z O u) (k : Nat) : Three w n A Z O (u.drewN k) := ⟨below_drewN h.bw k, h.a.drewN k, h.z.drewN k, h.o.drewN k⟩
set_option maxRecDepth 8000 in
set_option maxHeartbeats 4000000 in
theorem l3Reach_no (m : M) (d a : Nat) (k : Int) (op : Int) (lo : Nat) (c : List Value) (w : World) (h : CMach w lo c m) (hf : Fit m) (hd : d < 4) (ha : a < 4) (k0 : 0 ≤ k) (k1' : k ≤ 255) (hn : 64 ≤ (m.regs.getD a 0 + k) % 65536) :
    Calls Tryz.prog 77 #[.agg c.toArray, .agg #[.int .i64 op, .int .i64 d, .int .i64 a, .int .i64 k]] w fun e w' => ∃ c', e = .returned (.agg c'.toArray) ∧ CMach w' lo c' (reachM m op d a k) ∧ Ints lo w w' := by
  obtain ⟨b1, o1, k1, b2, o2, k2, b3, o3, k3, b4, k4, rfl⟩ := forms h
  obtain ⟨regs, pc, mem, save, lets, waits, halt, ins, outs, count⟩ := m
  obtain ⟨r4, m64, rw_, mw_, p0, p1, c0, c1⟩ := hf
  have la : a < regs.length := by rw [show regs.length = 4 from r4]; exact ha
  have ld : d < regs.length := by rw [show regs.length = 4 from r4]; exact hd
  have lr : regs.length ≤ 1000 := by rw [show regs.length = 4 from r4]; omega
  have la' : ((a : Nat) : Int) < (regs.length : Int) := by omega
  have M64 := hide m64
  clear r4 m64
  have bX : Below w.heap.size w (((w.alloc (.cells #[.slice (some ⟨b1, o1, none⟩) regs.length k1, .int .i64 pc, .slice (some ⟨b2, o2, none⟩) mem.length k2, .int .i64 save, .bool lets, .bool waits, .int .i64 halt, .slice (some ⟨b3, o3, none⟩) ins.length k3, .slice (some ⟨b4, 0, none⟩) outs.length k4, .int .i64 count] 25)).alloc (.cells #[.int .i64 op, .int .i64 d, .int .i64 a, .int .i64 k] 38)).alloc (.cells #[.slice none 0 0, .int .i64 0, .slice none 0 0, .int .i64 0, .bool false, .bool false, .int .i64 0, .slice none 0 0, .slice none 0 0, .int .i64 0] 25)) := (((Below.refl _ _).alloc (Nat.le_refl _) _).alloc (by simp) _).alloc (by simp; omega) _
  have HX := h.below bX
  obtain ⟨x, ex⟩ : ∃ x, regs[a]? = some x := ⟨_, List.getElem?_eq_getElem la⟩
  obtain ⟨y, ey⟩ : ∃ y, regs[d]? = some y := ⟨_, List.getElem?_eq_getElem ld⟩
  have bx := rw_ a x ex
  obtain ⟨cx, fx⟩ := row_at HX.parts.1 ex
  have GX := getD_of ex
  have GY := getD_of ey
  have T := hide (Three.new w [.slice (some ⟨b1, o1, none⟩) regs.length k1, .int .i64 pc, .slice (some ⟨b2, o2, none⟩) mem.length k2, .int .i64 save, .bool lets, .bool waits, .int .i64 halt, .slice (some ⟨b3, o3, none⟩) ins.length k3, .slice (some ⟨b4, 0, none⟩) outs.length k4, .int .i64 count] [.int .i64 op, .int .i64 d, .int .i64 a, .int .i64 k] [.slice none 0 0, .int .i64 0, .slice none 0 0, .int .i64 0, .bool false, .bool false, .int .i64 0, .slice none 0 0, .slice none 0 0, .int .i64 0] 25 38 25)
  have ZT0 := IsT.new ((w.alloc (.cells #[.slice (some ⟨b1, o1, none⟩) regs.length k1, .int .i64 pc, .slice (some ⟨b2, o2, none⟩) mem.length k2, .int .i64 save, .bool lets, .bool waits, .int .i64 halt, .slice (some ⟨b3, o3, none⟩) ins.length k3, .slice (some ⟨b4, 0, none⟩) outs.length k4, .int .i64 count] 25)).alloc (.cells #[.int .i64 op, .int .i64 d, .int .i64 a, .int .i64 k] 38)) #[.slice none 0 0, .int .i64 0, .slice none 0 0, .int .i64 0, .bool false, .bool false, .int .i64 0, .slice none 0 0, .slice none 0 0, .int .i64 0] 25
  have e1 : ((w.alloc (.cells #[.slice (some ⟨b1, o1, none⟩) regs.length k1, .int .i64 pc, .slice (some ⟨b2, o2, none⟩) mem.length k2, .int .i64 save, .bool lets, .bool waits, .int .i64 halt, .slice (some ⟨b3, o3, none⟩) ins.length k3, .slice (some ⟨b4, 0, none⟩) outs.length k4, .int .i64 count] 25)).alloc (.cells #[.int .i64 op, .int .i64 d, .int .i64 a, .int .i64 k] 38)).heap.size = w.heap.size + 1 + 1 := by simp
  rw [e1] at ZT0
  have ZT := hide ZT0
  have kk : w.heap.size ≤ w.heap.size + 1 + 1 := by omega
  have HM : Hid (reachM ⟨regs, pc, mem, save, lets, waits, halt, ins, outs, count⟩ op d a k = haltM ⟨regs, pc, mem, save, lets, waits, halt, ins, outs, count⟩ 3) := if_pos hn
  simp only [] at hn
  rw [GX] at hn
  have H := hide HX
  clear h HX ex ey ZT0 e1 bX GX GY rw_ mw_
  simp only [mv] at *
  go_enter Tryz.func77, Tryz.ntmps77
  go_wp2_with fail
  go_quiet ((go_at_call 51; refine Calls.quiet_of_same (Wrd.specWrap (x + k) _)))
  go_wp2_with fail
  refine (l3Halt _ _ _ _ _ _ _ _ _ _ _ _ _ _ _ _ _ _ 3 _).mono ?_
  rintro e u ⟨rfl, hb⟩
  have Yu := hide ((H.out.drewN _).below hb)
  have Tu := (T.out.drewN _).below hb
  have ZTu := hide ((isT_drewN ZT.out _).below hb)
  have Bu := hide (Ints.of_below (lo := lo) Tu.bw)
  have z0 := Tu.o.cell 0 _ rfl
  have y0 := Tu.o.soft 0
  have z1 := Tu.o.cell 1 _ rfl
  have y1 := Tu.o.soft 1
  have z2 := Tu.o.cell 2 _ rfl
  have y2 := Tu.o.soft 2
  have z3 := Tu.o.cell 3 _ rfl
  have y3 := Tu.o.soft 3
  have z4 := Tu.o.cell 4 _ rfl
  have y4 := Tu.o.soft 4
  have z5 := Tu.o.cell 5 _ rfl
  have y5 := Tu.o.soft 5
  have z6 := Tu.o.cell 6 _ rfl
  have y6 := Tu.o.soft 6
  have z7 := Tu.o.cell 7 _ rfl
  have y7 := Tu.o.soft 7
  have z8 := Tu.o.cell 8 _ rfl
  have y8 := Tu.o.soft 8
  have z9 := Tu.o.cell 9 _ rfl
  have y9 := Tu.o.soft 9
  clear T H ZT hb Tu cx fx
  go_wp2
  exact bodyPost_ret (v := .agg #[.slice (some ⟨b1, o1, none⟩) regs.length k1, .int .i64 pc, .slice (some ⟨b2, o2, none⟩) mem.length k2, .int .i64 save, .bool lets, .bool waits, .int .i64 3, .slice (some ⟨b3, o3, none⟩) ins.length k3, .slice (some ⟨b4, 0, none⟩) outs.length k4, .int .i64 count]) (by simp [results, Tryz.results77, go_sem, z0, z1, z2, z3, z4, z5, z6, z7, z8, z9]) rfl ⟨[.slice (some ⟨b1, o1, none⟩) regs.length k1, .int .i64 pc, .slice (some ⟨b2, o2, none⟩) mem.length k2, .int .i64 save, .bool lets, .bool waits, .int .i64 3, .slice (some ⟨b3, o3, none⟩) ins.length k3, .slice (some ⟨b4, 0, none⟩) outs.length k4, .int .i64 count], rfl, by rw [HM.out]; exact (CMach.plain Yu.out).ten ZTu.out mach_int _ _ _ _ _ _ _ _ _ _, ints_ten Bu.out kk _ _ _ _ _ _ _ _ _ _⟩
set_option maxRecDepth 8000 in
set_option maxHeartbeats 4000000 in
theorem l3Reach_load (m : M) (d a : Nat) (k : Int) (lo : Nat) (c : List Value) (w : World) (h : CMach w lo c m) (hf : Fit m) (hd : d < 4) (ha : a < 4) (k0 : 0 ≤ k) (k1' : k ≤ 255) (hn : ¬ 64 ≤ (m.regs.getD a 0 + k) % 65536) :
    Calls Tryz.prog 77 #[.agg c.toArray, .agg #[.int .i64 9, .int .i64 d, .int .i64 a, .int .i64 k]] w fun e w' => ∃ c', e = .returned (.agg c'.toArray) ∧ CMach w' lo c' (reachM m 9 d a k) ∧ Ints lo w w' := by
  obtain ⟨b1, o1, k1, b2, o2, k2, b3, o3, k3, b4, k4, rfl⟩ := forms h
  obtain ⟨regs, pc, mem, save, lets, waits, halt, ins, outs, count⟩ := m
  obtain ⟨r4, m64, rw_, mw_, p0, p1, c0, c1⟩ := hf
  have la : a < regs.length := by rw [show regs.length = 4 from r4]; exact ha
  have ld : d < regs.length := by rw [show regs.length = 4 from r4]; exact hd
  have lr : regs.length ≤ 1000 := by rw [show regs.length = 4 from r4]; omega
  have la' : ((a : Nat) : Int) < (regs.length : Int) := by omega
  have M64 := hide m64
  clear r4 m64
  have bX : Below w.heap.size w (((w.alloc (.cells #[.slice (some ⟨b1, o1, none⟩) regs.length k1, .int .i64 pc, .slice (some ⟨b2, o2, none⟩) mem.length k2, .int .i64 save, .bool lets, .bool waits, .int .i64 halt, .slice (some ⟨b3, o3, none⟩) ins.length k3, .slice (some ⟨b4, 0, none⟩) outs.length k4, .int .i64 count] 25)).alloc (.cells #[.int .i64 9, .int .i64 d, .int .i64 a, .int .i64 k] 38)).alloc (.cells #[.slice none 0 0, .int .i64 0, .slice none 0 0, .int .i64 0, .bool false, .bool false, .int .i64 0, .slice none 0 0, .slice none 0 0, .int .i64 0] 25)) := (((Below.refl _ _).alloc (Nat.le_refl _) _).alloc (by simp) _).alloc (by simp; omega) _
  have HX := h.below bX
  obtain ⟨x, ex⟩ : ∃ x, regs[a]? = some x := ⟨_, List.getElem?_eq_getElem la⟩
  obtain ⟨y, ey⟩ : ∃ y, regs[d]? = some y := ⟨_, List.getElem?_eq_getElem ld⟩
  have bx := rw_ a x ex
  obtain ⟨cx, fx⟩ := row_at HX.parts.1 ex
  have GX := getD_of ex
  have GY := getD_of ey
  have T := hide (Three.new w [.slice (some ⟨b1, o1, none⟩) regs.length k1, .int .i64 pc, .slice (some ⟨b2, o2, none⟩) mem.length k2, .int .i64 save, .bool lets, .bool waits, .int .i64 halt, .slice (some ⟨b3, o3, none⟩) ins.length k3, .slice (some ⟨b4, 0, none⟩) outs.length k4, .int .i64 count] [.int .i64 9, .int .i64 d, .int .i64 a, .int .i64 k] [.slice none 0 0, .int .i64 0, .slice none 0 0, .int .i64 0, .bool false, .bool false, .int .i64 0, .slice none 0 0, .slice none 0 0, .int .i64 0] 25 38 25)
  have ZT0 := IsT.new ((w.alloc (.cells #[.slice (some ⟨b1, o1, none⟩) regs.length k1, .int .i64 pc, .slice (some ⟨b2, o2, none⟩) mem.length k2, .int .i64 save, .bool lets, .bool waits, .int .i64 halt, .slice (some ⟨b3, o3, none⟩) ins.length k3, .slice (some ⟨b4, 0, none⟩) outs.length k4, .int .i64 count] 25)).alloc (.cells #[.int .i64 9, .int .i64 d, .int .i64 a, .int .i64 k] 38)) #[.slice none 0 0, .int .i64 0, .slice none 0 0, .int .i64 0, .bool false, .bool false, .int .i64 0, .slice none 0 0, .slice none 0 0, .int .i64 0] 25
  have e1 : ((w.alloc (.cells #[.slice (some ⟨b1, o1, none⟩) regs.length k1, .int .i64 pc, .slice (some ⟨b2, o2, none⟩) mem.length k2, .int .i64 save, .bool lets, .bool waits, .int .i64 halt, .slice (some ⟨b3, o3, none⟩) ins.length k3, .slice (some ⟨b4, 0, none⟩) outs.length k4, .int .i64 count] 25)).alloc (.cells #[.int .i64 9, .int .i64 d, .int .i64 a, .int .i64 k] 38)).heap.size = w.heap.size + 1 + 1 := by simp
  rw [e1] at ZT0
  have ZT := hide ZT0
  have kk : w.heap.size ≤ w.heap.size + 1 + 1 := by omega
  obtain ⟨t, et⟩ : ∃ t : Nat, (t : Int) = (x + k) % 65536 := ⟨((x + k) % 65536).toNat, by omega⟩
  simp only [] at hn
  rw [GX, ← et] at hn
  have lt' : ((t : Nat) : Int) < (mem.length : Int) := by rw [show mem.length = 64 from M64.out]; omega
  obtain ⟨v, ev⟩ : ∃ v, mem[t]? = some v := ⟨_, List.getElem?_eq_getElem (by rw [show mem.length = 64 from M64.out]; omega)⟩
  obtain ⟨cv, fv⟩ := row_at HX.parts.2.1 ev
  have HM : Hid (reachM ⟨regs, pc, mem, save, lets, waits, halt, ins, outs, count⟩ 9 d a k = setM ⟨regs, pc, mem, save, lets, waits, halt, ins, outs, count⟩ d v) := show _ = _ by
    unfold reachM
    simp only []
    rw [GX, ← et, if_neg (by omega), if_pos trivial, Int.toNat_natCast, getD_of ev]
  have H := hide HX
  have ET := hide et
  clear h HX ex ey ev ZT0 e1 bX GX GY rw_ mw_ et fv
  simp only [mv] at *
  go_enter Tryz.func77, Tryz.ntmps77
  go_wp2_with fail
  go_quiet ((go_at_call 51; refine Calls.quiet_of_same (Wrd.specWrap (x + k) _)))
  rw [← ET.out]
  have T1 := T.out.drewN nq
  have H1 := hide (H.out.drewN nq)
  have Z1 := hide (isT_drewN ZT.out nq)
  have cv1 : ((((w.alloc (.cells #[.slice (some ⟨b1, o1, none⟩) regs.length k1, .int .i64 pc, .slice (some ⟨b2, o2, none⟩) mem.length k2, .int .i64 save, .bool lets, .bool waits, .int .i64 halt, .slice (some ⟨b3, o3, none⟩) ins.length k3, .slice (some ⟨b4, 0, none⟩) outs.length k4, .int .i64 count] 25)).alloc (.cells #[.int .i64 9, .int .i64 d, .int .i64 a, .int .i64 k] 38)).alloc (.cells #[.slice none 0 0, .int .i64 0, .slice none 0 0, .int .i64 0, .bool false, .bool false, .int .i64 0, .slice none 0 0, .slice none 0 0, .int .i64 0] 25)).drewN nq).cell? ⟨b2, o2 + t, none⟩ = some (.int .i64 v) := cv
  clear T H ZT cx fx cv
  obtain ⟨V, eV⟩ : ∃ V, (((w.alloc (.cells #[.slice (some ⟨b1, o1, none⟩) regs.length k1, .int .i64 pc, .slice (some ⟨b2, o2, none⟩) mem.length k2, .int .i64 save, .bool lets, .bool waits, .int .i64 halt, .slice (some ⟨b3, o3, none⟩) ins.length k3, .slice (some ⟨b4, 0, none⟩) outs.length k4, .int .i64 count] 25)).alloc (.cells #[.int .i64 9, .int .i64 d, .int .i64 a, .int .i64 k] 38)).alloc (.cells #[.slice none 0 0, .int .i64 0, .slice none 0 0, .int .i64 0, .bool false, .bool false, .int .i64 0, .slice none 0 0, .slice none 0 0, .int .i64 0] 25)).drewN nq = V := ⟨_, rfl⟩
  rw [eV] at T1 H1 Z1 cv1 ⊢
  clear eV
  have a0 := T1.a.cell 0 _ rfl
  have a1 := T1.a.cell 1 _ rfl
  have a2 := T1.a.cell 2 _ rfl
  have a3 := T1.a.cell 3 _ rfl
  have a4 := T1.a.cell 4 _ rfl
  have a5 := T1.a.cell 5 _ rfl
  have a6 := T1.a.cell 6 _ rfl
  have a7 := T1.a.cell 7 _ rfl
  have a8 := T1.a.cell 8 _ rfl
  have a9 := T1.a.cell 9 _ rfl
  have i0 := T1.z.cell 0 _ rfl
  have i1 := T1.z.cell 1 _ rfl
  have i2 := T1.z.cell 2 _ rfl
  have i3 := T1.z.cell 3 _ rfl
  have T := hide T1
  clear T1
  go_wp2_with fail
  refine region_tail 8 (by kernel_rfl) (by kernel_rfl) ?_
  simp only [List.take_succ_cons, List.take_zero, List.drop_succ_cons, List.drop_zero]
  repeat still_step
  refine wpStill_nil ?_
  go_wp2_with fail
  refine (l3Set _ d v lo _ _ (CMach.drewN H1.out 1) ld lr c0 c1 p0 p1).mono ?_
  rintro e u ⟨c', rfl, Cu, hi⟩
  obtain ⟨f1, g1, h1, f2, g2, h2, f3, g3, h3, f4, h4, rfl⟩ := forms Cu
  have Zu := Rec.ints (T.out.o.drewN 1) (isT_drewN Z1.out 1) mach_int hi
  have ZTu := hide ((isT_drewN Z1.out 1).ints mach_int hi)
  have Bu := hide ((Ints.of_below (lo := lo) (T.out.drewN 1).bw).trans hi)
  have CU := hide Cu
  have z0 := Zu.cell 0 _ rfl
  have y0 := Zu.soft 0
  have z1 := Zu.cell 1 _ rfl
  have y1 := Zu.soft 1
  have z2 := Zu.cell 2 _ rfl
  have y2 := Zu.soft 2
  have z3 := Zu.cell 3 _ rfl
  have y3 := Zu.soft 3
  have z4 := Zu.cell 4 _ rfl
  have y4 := Zu.soft 4
  have z5 := Zu.cell 5 _ rfl
  have y5 := Zu.soft 5
  have z6 := Zu.cell 6 _ rfl
  have y6 := Zu.soft 6
  have z7 := Zu.cell 7 _ rfl
  have y7 := Zu.soft 7
  have z8 := Zu.cell 8 _ rfl
  have y8 := Zu.soft 8
  have z9 := Zu.cell 9 _ rfl
  have y9 := Zu.soft 9
  clear T H1 Z1 hi Zu Cu cv1 a0 a1 a2 a3 a4 a5 a6 a7 a8 a9 i0 i1 i2 i3
  simp only [mv, setM, nextM] at *
  go_wp2
  exact bodyPost_ret (v := .agg #[.slice (some ⟨f1, g1, none⟩) (regs.set d v).length h1, .int .i64 ((pc + 1) % 65536), .slice (some ⟨f2, g2, none⟩) mem.length h2, .int .i64 save, .bool lets, .bool waits, .int .i64 halt, .slice (some ⟨f3, g3, none⟩) ins.length h3, .slice (some ⟨f4, 0, none⟩) outs.length h4, .int .i64 (count + 1)]) (by simp [results, Tryz.results77, go_sem, z0, z1, z2, z3, z4, z5, z6, z7, z8, z9]) rfl ⟨_, rfl, by rw [HM.out]; exact CU.out.ten ZTu.out mach_int _ _ _ _ _ _ _ _ _ _, ints_ten Bu.out kk _ _ _ _ _ _ _ _ _ _⟩
set_option maxRecDepth 8000 in
set_option maxHeartbeats 4000000 in
theorem l3Reach_store (m : M) (d a : Nat) (k : Int) (lo : Nat) (c : List Value) (w : World) (h : CMach w lo c m) (hf : Fit m) (hd : d < 4) (ha : a < 4) (k0 : 0 ≤ k) (k1' : k ≤ 255) (hn : ¬ 64 ≤ (m.regs.getD a 0 + k) % 65536) :
    Calls Tryz.prog 77 #[.agg c.toArray, .agg #[.int .i64 10, .int .i64 d, .int .i64 a, .int .i64 k]] w fun e w' => ∃ c', e = .returned (.agg c'.toArray) ∧ CMach w' lo c' (reachM m 10 d a k) ∧ Ints lo w w' := by
  obtain ⟨b1, o1, k1, b2, o2, k2, b3, o3, k3, b4, k4, rfl⟩ := forms h
  obtain ⟨regs, pc, mem, save, lets, waits, halt, ins, outs, count⟩ := m
  obtain ⟨r4, m64, rw_, mw_, p0, p1, c0, c1⟩ := hf
  have la : a < regs.length := by rw [show regs.length = 4 from r4]; exact ha
  have ld : d < regs.length := by rw [show regs.length = 4 from r4]; exact hd
  have lr : regs.length ≤ 1000 := by rw [show regs.length = 4 from r4]; omega
  have la' : ((a : Nat) : Int) < (regs.length : Int) := by omega
  have M64 := hide m64
  clear r4 m64
  have bX : Below w.heap.size w (((w.alloc (.cells #[.slice (some ⟨b1, o1, none⟩) regs.length k1, .int .i64 pc, .slice (some ⟨b2, o2, none⟩) mem.length k2, .int .i64 save, .bool lets, .bool waits, .int .i64 halt, .slice (some ⟨b3, o3, none⟩) ins.length k3, .slice (some ⟨b4, 0, none⟩) outs.length k4, .int .i64 count] 25)).alloc (.cells #[.int .i64 10, .int .i64 d, .int .i64 a, .int .i64 k] 38)).alloc (.cells #[.slice none 0 0, .int .i64 0, .slice none 0 0, .int .i64 0, .bool false, .bool false, .int .i64 0, .slice none 0 0, .slice none 0 0, .int .i64 0] 25)) := (((Below.refl _ _).alloc (Nat.le_refl _) _).alloc (by simp) _).alloc (by simp; omega) _
  have HX := h.below bX
  obtain ⟨x, ex⟩ : ∃ x, regs[a]? = some x := ⟨_, List.getElem?_eq_getElem la⟩
  obtain ⟨y, ey⟩ : ∃ y, regs[d]? = some y := ⟨_, List.getElem?_eq_getElem ld⟩
  have bx := rw_ a x ex
  obtain ⟨cx, fx⟩ := row_at HX.parts.1 ex
  have GX := getD_of ex
  have GY := getD_of ey
  have T := hide (Three.new w [.slice (some ⟨b1, o1, none⟩) regs.length k1, .int .i64 pc, .slice (some ⟨b2, o2, none⟩) mem.length k2, .int .i64 save, .bool lets, .bool waits, .int .i64 halt, .slice (some ⟨b3, o3, none⟩) ins.length k3, .slice (some ⟨b4, 0, none⟩) outs.length k4, .int .i64 count] [.int .i64 10, .int .i64 d, .int .i64 a, .int .i64 k] [.slice none 0 0, .int .i64 0, .slice none 0 0, .int .i64 0, .bool false, .bool false, .int .i64 0, .slice none 0 0, .slice none 0 0, .int .i64 0] 25 38 25)
  have ZT0 := IsT.new ((w.alloc (.cells #[.slice (some ⟨b1, o1, none⟩) regs.length k1, .int .i64 pc, .slice (some ⟨b2, o2, none⟩) mem.length k2, .int .i64 save, .bool lets, .bool waits, .int .i64 halt, .slice (some ⟨b3, o3, none⟩) ins.length k3, .slice (some ⟨b4, 0, none⟩) outs.length k4, .int .i64 count] 25)).alloc (.cells #[.int .i64 10, .int .i64 d, .int .i64 a, .int .i64 k] 38)) #[.slice none 0 0, .int .i64 0, .slice none 0 0, .int .i64 0, .bool false, .bool false, .int .i64 0, .slice none 0 0, .slice none 0 0, .int .i64 0] 25
  have e1 : ((w.alloc (.cells #[.slice (some ⟨b1, o1, none⟩) regs.length k1, .int .i64 pc, .slice (some ⟨b2, o2, none⟩) mem.length k2, .int .i64 save, .bool lets, .bool waits, .int .i64 halt, .slice (some ⟨b3, o3, none⟩) ins.length k3, .slice (some ⟨b4, 0, none⟩) outs.length k4, .int .i64 count] 25)).alloc (.cells #[.int .i64 10, .int .i64 d, .int .i64 a, .int .i64 k] 38)).heap.size = w.heap.size + 1 + 1 := by simp
  rw [e1] at ZT0
  have ZT := hide ZT0
  have kk : w.heap.size ≤ w.heap.size + 1 + 1 := by omega
  obtain ⟨t, et⟩ : ∃ t : Nat, (t : Int) = (x + k) % 65536 := ⟨((x + k) % 65536).toNat, by omega⟩
  simp only [] at hn
  rw [GX, ← et] at hn
  have lt' : ((t : Nat) : Int) < (mem.length : Int) := by rw [show mem.length = 64 from M64.out]; omega
  have ld' : ((d : Nat) : Int) < (regs.length : Int) := by omega
  obtain ⟨v, ev⟩ : ∃ v, mem[t]? = some v := ⟨_, List.getElem?_eq_getElem (by omega)⟩
  obtain ⟨cv, fv⟩ := row_at HX.parts.2.1 ev
  obtain ⟨cy, fy⟩ := row_at HX.parts.1 ey
  have hb2 : b2 < w.heap.size := h.parts.2.2.2.2.2.2.2.1.lt
  have HM : Hid (reachM ⟨regs, pc, mem, save, lets, waits, halt, ins, outs, count⟩ 10 d a k = nextM { (⟨regs, pc, mem, save, lets, waits, halt, ins, outs, count⟩ : M) with mem := mem.set t y } (pc + 1)) := show _ = _ by
    unfold reachM
    simp only []
    rw [GX, ← et, if_neg (by omega), if_neg (by decide), Int.toNat_natCast, GY]
  have H := hide HX
  have ET := hide et
  clear h HX ex ey ev ZT0 e1 bX GX GY rw_ mw_ et fy
  simp only [mv] at *
  go_enter Tryz.func77, Tryz.ntmps77
  go_wp2_with fail
  go_quiet ((go_at_call 51; refine Calls.quiet_of_same (Wrd.specWrap (x + k) _)))
  rw [← ET.out]
  have T1 := T.out.drewN nq
  have H1 := hide (H.out.drewN nq)
  have Z1 := hide (isT_drewN ZT.out nq)
  have cv1 : ((((w.alloc (.cells #[.slice (some ⟨b1, o1, none⟩) regs.length k1, .int .i64 pc, .slice (some ⟨b2, o2, none⟩) mem.length k2, .int .i64 save, .bool lets, .bool waits, .int .i64 halt, .slice (some ⟨b3, o3, none⟩) ins.length k3, .slice (some ⟨b4, 0, none⟩) outs.length k4, .int .i64 count] 25)).alloc (.cells #[.int .i64 10, .int .i64 d, .int .i64 a, .int .i64 k] 38)).alloc (.cells #[.slice none 0 0, .int .i64 0, .slice none 0 0, .int .i64 0, .bool false, .bool false, .int .i64 0, .slice none 0 0, .slice none 0 0, .int .i64 0] 25)).drewN nq).cell? ⟨b2, o2 + t, none⟩ = some (.int .i64 v) := cv
  have fv1 : ((((w.alloc (.cells #[.slice (some ⟨b1, o1, none⟩) regs.length k1, .int .i64 pc, .slice (some ⟨b2, o2, none⟩) mem.length k2, .int .i64 save, .bool lets, .bool waits, .int .i64 halt, .slice (some ⟨b3, o3, none⟩) ins.length k3, .slice (some ⟨b4, 0, none⟩) outs.length k4, .int .i64 count] 25)).alloc (.cells #[.int .i64 10, .int .i64 d, .int .i64 a, .int .i64 k] 38)).alloc (.cells #[.slice none 0 0, .int .i64 0, .slice none 0 0, .int .i64 0, .bool false, .bool false, .int .i64 0, .slice none 0 0, .slice none 0 0, .int .i64 0] 25)).drewN nq).frozen? ⟨b2, o2 + t, none⟩ = false := fv
  have cy1 : ((((w.alloc (.cells #[.slice (some ⟨b1, o1, none⟩) regs.length k1, .int .i64 pc, .slice (some ⟨b2, o2, none⟩) mem.length k2, .int .i64 save, .bool lets, .bool waits, .int .i64 halt, .slice (some ⟨b3, o3, none⟩) ins.length k3, .slice (some ⟨b4, 0, none⟩) outs.length k4, .int .i64 count] 25)).alloc (.cells #[.int .i64 10, .int .i64 d, .int .i64 a, .int .i64 k] 38)).alloc (.cells #[.slice none 0 0, .int .i64 0, .slice none 0 0, .int .i64 0, .bool false, .bool false, .int .i64 0, .slice none 0 0, .slice none 0 0, .int .i64 0] 25)).drewN nq).cell? ⟨b1, o1 + d, none⟩ = some (.int .i64 y) := cy
  clear T H ZT cx fx cv cy fv
  obtain ⟨V, eV⟩ : ∃ V, (((w.alloc (.cells #[.slice (some ⟨b1, o1, none⟩) regs.length k1, .int .i64 pc, .slice (some ⟨b2, o2, none⟩) mem.length k2, .int .i64 save, .bool lets, .bool waits, .int .i64 halt, .slice (some ⟨b3, o3, none⟩) ins.length k3, .slice (some ⟨b4, 0, none⟩) outs.length k4, .int .i64 count] 25)).alloc (.cells #[.int .i64 10, .int .i64 d, .int .i64 a, .int .i64 k] 38)).alloc (.cells #[.slice none 0 0, .int .i64 0, .slice none 0 0, .int .i64 0, .bool false, .bool false, .int .i64 0, .slice none 0 0, .slice none 0 0, .int .i64 0] 25)).drewN nq = V := ⟨_, rfl⟩
  rw [eV] at T1 H1 Z1 cv1 cy1 fv1 ⊢
  clear eV
  have a0 := T1.a.cell 0 _ rfl
  have a1 := T1.a.cell 1 _ rfl
  have a2 := T1.a.cell 2 _ rfl
  have a3 := T1.a.cell 3 _ rfl
  have a4 := T1.a.cell 4 _ rfl
  have a5 := T1.a.cell 5 _ rfl
  have a6 := T1.a.cell 6 _ rfl
  have a7 := T1.a.cell 7 _ rfl
  have a8 := T1.a.cell 8 _ rfl
  have a9 := T1.a.cell 9 _ rfl
  have i0 := T1.z.cell 0 _ rfl
  have i1 := T1.z.cell 1 _ rfl
  have i2 := T1.z.cell 2 _ rfl
  have i3 := T1.z.cell 3 _ rfl
  have T := hide T1
  clear T1
  have Y0 := CMach.setMem (m := ⟨regs, pc, mem, save, lets, waits, halt, ins, outs, count⟩) (CMach.drewN H1.out 1) t y (by show t < mem.length; omega)
  have P1 := CMach.parts (m := ⟨regs, pc, mem, save, lets, waits, halt, ins, outs, count⟩) (CMach.drewN H1.out 1)
  have Q1 := Ints.of_turn (lo := lo) ((Turn.refl b2 (V.drewN 1)).setCell (p := ⟨b2, o2 + t, none⟩) rfl (.int .i64 y)) P1.2.2.2.2.2.2.2.1 P1.2.2.2.2.1.2.1
  have Y1 := hide Y0
  have Q2 := hide Q1
  have R0 := hide ((T.out.o.drewN 1).other ⟨b2, o2 + t, none⟩ (.int .i64 y) (by show b2 ≠ w.heap.size + 1 + 1; omega))
  have ZS := hide ((isT_drewN Z1.out 1).set ⟨b2, o2 + t, none⟩ (.int .i64 y))
  clear Y0 P1 Q1
  simp only [mv] at Y1
  go_wp2_with fail
  refine region_tail 9 (by kernel_rfl) (by kernel_rfl) ?_
  simp only [List.take_succ_cons, List.take_zero, List.drop_succ_cons, List.drop_zero]
  repeat still_step
  refine wpStill_nil ?_
  go_wp2_with fail
  refine (l3Next _ _ _ _ _ _ _ _ _ _ _ _ _ _ _ _ _ _ (pc + 1) _ c0 c1).mono ?_
  rintro e u ⟨rfl, hb⟩
  have Yu := hide (Y1.out.below hb)
  have Zu := R0.out.below hb
  have ZTu := hide (ZS.out.below hb)
  have Bu := hide (((Ints.of_below (lo := lo) (T.out.drewN 1).bw).trans Q2.out).trans (Ints.of_below hb))
  have z0 := Zu.cell 0 _ rfl
  have y0 := Zu.soft 0
  have z1 := Zu.cell 1 _ rfl
  have y1 := Zu.soft 1
  have z2 := Zu.cell 2 _ rfl
  have y2 := Zu.soft 2
  have z3 := Zu.cell 3 _ rfl
  have y3 := Zu.soft 3
  have z4 := Zu.cell 4 _ rfl
  have y4 := Zu.soft 4
  have z5 := Zu.cell 5 _ rfl
  have y5 := Zu.soft 5
  have z6 := Zu.cell 6 _ rfl
  have y6 := Zu.soft 6
  have z7 := Zu.cell 7 _ rfl
  have y7 := Zu.soft 7
  have z8 := Zu.cell 8 _ rfl
  have y8 := Zu.soft 8
  have z9 := Zu.cell 9 _ rfl
  have y9 := Zu.soft 9
  clear T H1 Z1 hb Zu R0 ZS Q2 Y1 cv1 cy1 fv1 a0 a1 a2 a3 a4 a5 a6 a7 a8 a9 i0 i1 i2 i3
  go_wp2
  exact bodyPost_ret (v := .agg #[.slice (some ⟨b1, o1, none⟩) regs.length k1, .int .i64 ((pc + 1) % 65536), .slice (some ⟨b2, o2, none⟩) mem.length k2, .int .i64 save, .bool lets, .bool waits, .int .i64 halt, .slice (some ⟨b3, o3, none⟩) ins.length k3, .slice (some ⟨b4, 0, none⟩) outs.length k4, .int .i64 (count + 1)]) (by simp [results, Tryz.results77, go_sem, z0, z1, z2, z3, z4, z5, z6, z7, z8, z9]) rfl ⟨[.slice (some ⟨b1, o1, none⟩) regs.length k1, .int .i64 ((pc + 1) % 65536), .slice (some ⟨b2, o2, none⟩) mem.length k2, .int .i64 save, .bool lets, .bool waits, .int .i64 halt, .slice (some ⟨b3, o3, none⟩) ins.length k3, .slice (some ⟨b4, 0, none⟩) outs.length k4, .int .i64 (count + 1)], rfl, by rw [HM.out]; exact (CMach.plain Yu.out).ten ZTu.out mach_int _ _ _ _ _ _ _ _ _ _, ints_ten Bu.out kk _ _ _ _ _ _ _ _ _ _⟩
end Go.Proofs.YtnhpmbhphbphaaaGreat.Mch
namespace Go.Proofs.YtnhpmbhphbphaaaGreat.Mch
open Go.ChangeShapes Go.WideShapes Go.ChangeAt Go.RowKit IntS
def outM (m : M) (d : Nat) : M := nextM { m with outs := m.outs ++ [m.regs.getD d 0] } (m.pc + 1)
def inM (m : M) (d : Nat) : M := match m.ins with
  | [] => setM m d 0
  | n :: r => setM { m with ins := r } d n
theorem CMach.push {V V1 u4 : World} {lo b1 o1 k1 b2 o2 k2 b3 o3 k3 b4 k4 g4 c4 : Nat} {m : M} {y : Int} (h : CMach V lo (mv m (.slice (some ⟨b1, o1, none⟩) m.regs.length k1) (.slice (some ⟨b2, o2, none⟩) m.mem.length k2) (.slice (some ⟨b3, o3, none⟩) m.ins.length k3) (.slice (some ⟨b4, 0, none⟩) m.outs.length k4)) m) (hV : Below V.heap.size V V1)
    (ho : Own u4 lo (.slice (some ⟨g4, 0, none⟩) (m.outs ++ [y]).length c4) (m.outs ++ [y])) (hor : g4 = b4 ∨ V1.heap.size ≤ g4) (ht : Turn b4 V1 u4) (hlo : lo ≤ V1.heap.size) :
    CMach u4 lo (mv m (.slice (some ⟨b1, o1, none⟩) m.regs.length k1) (.slice (some ⟨b2, o2, none⟩) m.mem.length k2) (.slice (some ⟨b3, o3, none⟩) m.ins.length k3) (.slice (some ⟨g4, 0, none⟩) (m.outs ++ [y]).length c4)) { m with outs := m.outs ++ [y] } ∧ Ints lo V u4 := by
  obtain ⟨h1, h2, h3, h4, ⟨l1, l2, l3, l4⟩, ⟨d1, d2, d3, d4, d5, d6⟩, t1, t2, t3, t4⟩ := h.parts
  have z1 := t1.lt
  have z2 := t2.lt
  have z3 := t3.lt
  have z4 := hV.size
  refine ⟨⟨b1, b2, b3, g4, o1, o2, o3, k1, k2, k3, c4, rfl, (h1.below hV).turn ht d3, (h2.below hV).turn ht d5, (h3.below hV).turn ht d6, ho, ⟨l1, l2, l3, by omega⟩, ⟨d1, d2, by omega, d4, by omega, by omega⟩, (t1.below hV).turn ht d3, (t2.below hV).turn ht d5, (t3.below hV).turn ht d6, ho.isT⟩, ?_⟩
  exact (Ints.of_below hV).trans (Ints.of_turn ht (t4.below hV) l4)
set_option maxRecDepth 8000 in
set_option maxHeartbeats 4000000 in
theorem l3Port_out (m : M) (d : Nat) (a k : Int) (lo : Nat) (c : List Value) (w : World) (h : CMach w lo c m) (hlo : lo ≤ w.heap.size) (hf : Fit m) (hd : d < 4) (lo1 : m.outs.length ≤ 1000000000) :
    Calls Tryz.prog 79 #[.agg c.toArray, .agg #[.int .i64 14, .int .i64 d, .int .i64 a, .int .i64 k]] w fun e w' => ∃ c', e = .returned (.agg c'.toArray) ∧ CMach w' lo c' (outM m d) ∧ Ints lo w w' := by
  obtain ⟨b1, o1, k1, b2, o2, k2, b3, o3, k3, b4, k4, rfl⟩ := forms h
  obtain ⟨regs, pc, mem, save, lets, waits, halt, ins, outs, count⟩ := m
  obtain ⟨r4, m64, rw_, mw_, p0, p1, c0, c1⟩ := hf
  have ld : d < regs.length := by rw [show regs.length = 4 from r4]; exact hd
  have ld' : ((d : Nat) : Int) < (regs.length : Int) := by omega
  have lr : regs.length ≤ 1000 := by rw [show regs.length = 4 from r4]; omega
  clear r4 m64
  have bX : Below w.heap.size w (((w.alloc (.cells #[.slice (some ⟨b1, o1, none⟩) regs.length k1, .int .i64 pc, .slice (some ⟨b2, o2, none⟩) mem.length k2, .int .i64 save, .bool lets, .bool waits, .int .i64 halt, .slice (some ⟨b3, o3, none⟩) ins.length k3, .slice (some ⟨b4, 0, none⟩) outs.length k4, .int .i64 count] 25)).alloc (.cells #[.int .i64 14, .int .i64 d, .int .i64 a, .int .i64 k] 38)).alloc (.cells #[.slice none 0 0, .int .i64 0, .slice none 0 0, .int .i64 0, .bool false, .bool false, .int .i64 0, .slice none 0 0, .slice none 0 0, .int .i64 0] 25)) := (((Below.refl _ _).alloc (Nat.le_refl _) _).alloc (by simp) _).alloc (by simp; omega) _
  have HX := h.below bX
  obtain ⟨y, ey⟩ : ∃ y, regs[d]? = some y := ⟨_, List.getElem?_eq_getElem ld⟩
  obtain ⟨cy, fy⟩ := row_at HX.parts.1 ey
  have GY := getD_of ey
  have T := Three.new w [.slice (some ⟨b1, o1, none⟩) regs.length k1, .int .i64 pc, .slice (some ⟨b2, o2, none⟩) mem.length k2, .int .i64 save, .bool lets, .bool waits, .int .i64 halt, .slice (some ⟨b3, o3, none⟩) ins.length k3, .slice (some ⟨b4, 0, none⟩) outs.length k4, .int .i64 count] [.int .i64 14, .int .i64 d, .int .i64 a, .int .i64 k] [.slice none 0 0, .int .i64 0, .slice none 0 0, .int .i64 0, .bool false, .bool false, .int .i64 0, .slice none 0 0, .slice none 0 0, .int .i64 0] 25 38 25
  have ZT0 := IsT.new ((w.alloc (.cells #[.slice (some ⟨b1, o1, none⟩) regs.length k1, .int .i64 pc, .slice (some ⟨b2, o2, none⟩) mem.length k2, .int .i64 save, .bool lets, .bool waits, .int .i64 halt, .slice (some ⟨b3, o3, none⟩) ins.length k3, .slice (some ⟨b4, 0, none⟩) outs.length k4, .int .i64 count] 25)).alloc (.cells #[.int .i64 14, .int .i64 d, .int .i64 a, .int .i64 k] 38)) #[.slice none 0 0, .int .i64 0, .slice none 0 0, .int .i64 0, .bool false, .bool false, .int .i64 0, .slice none 0 0, .slice none 0 0, .int .i64 0] 25
  have e1 : ((w.alloc (.cells #[.slice (some ⟨b1, o1, none⟩) regs.length k1, .int .i64 pc, .slice (some ⟨b2, o2, none⟩) mem.length k2, .int .i64 save, .bool lets, .bool waits, .int .i64 halt, .slice (some ⟨b3, o3, none⟩) ins.length k3, .slice (some ⟨b4, 0, none⟩) outs.length k4, .int .i64 count] 25)).alloc (.cells #[.int .i64 14, .int .i64 d, .int .i64 a, .int .i64 k] 38)).heap.size = w.heap.size + 1 + 1 := by simp
  rw [e1] at ZT0
  have AT0 := ((IsT.new w #[.slice (some ⟨b1, o1, none⟩) regs.length k1, .int .i64 pc, .slice (some ⟨b2, o2, none⟩) mem.length k2, .int .i64 save, .bool lets, .bool waits, .int .i64 halt, .slice (some ⟨b3, o3, none⟩) ins.length k3, .slice (some ⟨b4, 0, none⟩) outs.length k4, .int .i64 count] 25).below (alloc_below _ (.cells #[.int .i64 14, .int .i64 d, .int .i64 a, .int .i64 k] 38))).below (alloc_below _ (.cells #[.slice none 0 0, .int .i64 0, .slice none 0 0, .int .i64 0, .bool false, .bool false, .int .i64 0, .slice none 0 0, .slice none 0 0, .int .i64 0] 25))
  have kk : w.heap.size ≤ w.heap.size + 1 + 1 := by omega
  have hV := bX.size
  obtain ⟨V, eV⟩ : ∃ V, (((w.alloc (.cells #[.slice (some ⟨b1, o1, none⟩) regs.length k1, .int .i64 pc, .slice (some ⟨b2, o2, none⟩) mem.length k2, .int .i64 save, .bool lets, .bool waits, .int .i64 halt, .slice (some ⟨b3, o3, none⟩) ins.length k3, .slice (some ⟨b4, 0, none⟩) outs.length k4, .int .i64 count] 25)).alloc (.cells #[.int .i64 14, .int .i64 d, .int .i64 a, .int .i64 k] 38)).alloc (.cells #[.slice none 0 0, .int .i64 0, .slice none 0 0, .int .i64 0, .bool false, .bool false, .int .i64 0, .slice none 0 0, .slice none 0 0, .int .i64 0] 25)) = V := ⟨_, rfl⟩
  rw [eV] at T ZT0 HX cy fy hV AT0
  have AT := hide AT0
  have HM : Hid (outM ⟨regs, pc, mem, save, lets, waits, halt, ins, outs, count⟩ d = nextM { (⟨regs, pc, mem, save, lets, waits, halt, ins, outs, count⟩ : M) with outs := outs ++ [y] } (pc + 1)) := show _ = _ by
    unfold outM
    simp only []
    rw [GY]
  have HB4 := hide h.parts.2.2.2.2.2.2.2.2.2.lt
  have H := hide HX
  have ZT := hide ZT0
  have EV := hide eV
  clear h HX ey ZT0 e1 bX GY rw_ mw_ eV AT0
  simp only [mv] at *
  have P := CMach.parts (m := ⟨regs, pc, mem, save, lets, waits, halt, ins, outs, count⟩) H.out
  have OW : Hid (Own (V.drew.alloc (.cells #[.int .i64 y] 3)) lo (.slice (some ⟨b4, 0, none⟩) outs.length k4) outs) := (show Own V.drew lo (.slice (some ⟨b4, 0, none⟩) outs.length k4) outs from P.2.2.2.1).turn (B := V.heap.size) (Turn.of_below (alloc_below V.drew _)) (Nat.ne_of_lt P.2.2.2.2.2.2.2.2.2.lt) P.2.2.2.2.2.2.2.2.2.lt
  have CN : Hid ((V.drew.alloc (.cells #[.int .i64 y] 3)).cell? ((⟨V.heap.size, 0, none⟩ : Addr).add 0) = some (.int .i64 y)) := show _ = _ by
    rw [Go.WideShapes.add_plain]
    exact World.cell?_alloc_new V.drew #[.int .i64 y] 3 0
  have LO : Hid (lo ≤ (V.drew.alloc (.cells #[.int .i64 y] 3)).heap.size) := show _ ≤ _ by
    simp
    omega
  have hb4 : b4 < w.heap.size := HB4.out
  clear P
  have a0 := T.a.cell 0 _ rfl
  have s0 := T.a.soft 0
  have a1 := T.a.cell 1 _ rfl
  have s1 := T.a.soft 1
  have a2 := T.a.cell 2 _ rfl
  have s2 := T.a.soft 2
  have a3 := T.a.cell 3 _ rfl
  have s3 := T.a.soft 3
  have a4 := T.a.cell 4 _ rfl
  have s4 := T.a.soft 4
  have a5 := T.a.cell 5 _ rfl
  have s5 := T.a.soft 5
  have a6 := T.a.cell 6 _ rfl
  have s6 := T.a.soft 6
  have a7 := T.a.cell 7 _ rfl
  have s7 := T.a.soft 7
  have a8 := T.a.cell 8 _ rfl
  have s8 := T.a.soft 8
  have a9 := T.a.cell 9 _ rfl
  have s9 := T.a.soft 9
  have i0 := T.z.cell 0 _ rfl
  have i1 := T.z.cell 1 _ rfl
  have i2 := T.z.cell 2 _ rfl
  have i3 := T.z.cell 3 _ rfl
  have nV : w.heap.size < V.heap.size := T.a.lt
  have nV1 : w.heap.size + 1 < V.heap.size := T.z.lt
  have TH := hide T
  clear T
  go_enter Tryz.func79, Tryz.ntmps79
  go_wp2_with fail
  rw [EV.out]
  go_region_law (refine step_push rfl _ _ rfl lo b4 k4 outs (by simp [Act.eval]) OW.out LO.out ⟨V.heap.size, 0, none⟩ y (by simp [Act.eval]) CN.out (by omega) ?_; intro g4 c4 u4 ho4 hor4 hlt4 ht4; have A4 := ((TH.out.a.drewN 1).alloc (.cells #[.int .i64 y] 3)).turn ht4 (by omega); have w0 := A4.cell 0 _ rfl; have w1 := A4.cell 1 _ rfl; have w2 := A4.cell 2 _ rfl; have w3 := A4.cell 3 _ rfl; have w4 := A4.cell 4 _ rfl; have w5 := A4.cell 5 _ rfl; have w6 := A4.cell 6 _ rfl; have w7 := A4.cell 7 _ rfl; have w8 := A4.cell 8 _ rfl; have w9 := A4.cell 9 _ rfl; have v8 := A4.soft 8)
  all_goals go_wp2_with fail
  all_goals
    refine (l3Next _ _ _ _ _ _ _ _ _ _ _ _ _ _ _ _ _ _ (pc + 1) _ c0 c1).mono ?_
    rintro e u ⟨rfl, hb⟩
    obtain ⟨CP, IP⟩ := CMach.push (m := ⟨regs, pc, mem, save, lets, waits, halt, ins, outs, count⟩) H.out (((Below.refl _ V).drew).alloc (Nat.le_refl _) (.cells #[.int .i64 y] 3)) ho4 hor4 ht4 LO.out
    rw [show (outs ++ [y]).length = outs.length + 1 from by simp] at CP
    have A5 := AT.out.ints mach_int IP
    have Z5 := ZT.out.ints mach_int IP
    have R5 := Rec.ints TH.out.o ZT.out mach_int IP
    have CQ := CP.other A5 mach_int 8 (.slice (some ⟨g4, 0, none⟩) (outs.length + 1) c4)
    have Yu := hide (CQ.below hb)
    have Zu := (R5.other ⟨w.heap.size, 8, none⟩ (.slice (some ⟨g4, 0, none⟩) (outs.length + 1) c4) (by show w.heap.size ≠ w.heap.size + 1 + 1; omega)).below hb
    have ZTu := hide ((Z5.set ⟨w.heap.size, 8, none⟩ (.slice (some ⟨g4, 0, none⟩) (outs.length + 1) c4)).below hb)
    have Bu := hide ((((Ints.of_below (lo := lo) TH.out.bw).trans IP).high (p := ⟨w.heap.size, 8, none⟩) (Nat.le_refl _) (.slice (some ⟨g4, 0, none⟩) (outs.length + 1) c4)).trans (Ints.of_below hb))
    have z0 := Zu.cell 0 _ rfl
    have y0 := Zu.soft 0
    have z1 := Zu.cell 1 _ rfl
    have y1 := Zu.soft 1
    have z2 := Zu.cell 2 _ rfl
    have y2 := Zu.soft 2
    have z3 := Zu.cell 3 _ rfl
    have y3 := Zu.soft 3
    have z4 := Zu.cell 4 _ rfl
    have y4 := Zu.soft 4
    have z5 := Zu.cell 5 _ rfl
    have y5 := Zu.soft 5
    have z6 := Zu.cell 6 _ rfl
    have y6 := Zu.soft 6
    have z7 := Zu.cell 7 _ rfl
    have y7 := Zu.soft 7
    have z8 := Zu.cell 8 _ rfl
    have y8 := Zu.soft 8
    have z9 := Zu.cell 9 _ rfl
    have y9 := Zu.soft 9
    clear CP IP A5 Z5 R5 CQ Zu hb H TH ZT AT OW CN LO ho4 hor4 ht4 hlt4 A4 v8 a0 s0 w0 a1 s1 w1 a2 s2 w2 a3 s3 w3 a4 s4 w4 a5 s5 w5 a6 s6 w6 a7 s7 w7 a8 s8 w8 a9 s9 w9 i0 i1 i2 i3
    go_wp2
    exact bodyPost_ret (v := .agg #[.slice (some ⟨b1, o1, none⟩) regs.length k1, .int .i64 ((pc + 1) % 65536), .slice (some ⟨b2, o2, none⟩) mem.length k2, .int .i64 save, .bool lets, .bool waits, .int .i64 halt, .slice (some ⟨b3, o3, none⟩) ins.length k3, .slice (some ⟨g4, 0, none⟩) (outs.length + 1) c4, .int .i64 (count + 1)]) (by simp [results, Tryz.results79, go_sem, z0, z1, z2, z3, z4, z5, z6, z7, z8, z9]) rfl ⟨[.slice (some ⟨b1, o1, none⟩) regs.length k1, .int .i64 ((pc + 1) % 65536), .slice (some ⟨b2, o2, none⟩) mem.length k2, .int .i64 save, .bool lets, .bool waits, .int .i64 halt, .slice (some ⟨b3, o3, none⟩) ins.length k3, .slice (some ⟨g4, 0, none⟩) (outs.length + 1) c4, .int .i64 (count + 1)], rfl, by rw [HM.out]; exact (CMach.plain Yu.out).ten ZTu.out mach_int _ _ _ _ _ _ _ _ _ _, ints_ten Bu.out kk _ _ _ _ _ _ _ _ _ _⟩
end Go.Proofs.YtnhpmbhphbphaaaGreat.Mch
