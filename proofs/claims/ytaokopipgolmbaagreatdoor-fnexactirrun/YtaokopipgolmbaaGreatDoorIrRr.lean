/-
  How a piece of code runs: the specification's l6Event, where a word goes out, and where one is loaded.
  How a piece of code runs: the specification's l6Event of an operation that is ok.
  How a piece of code runs: what stays so in the model.
  How a piece of code runs: what is known at a place of the specification's IrRun.
-/
import Derived.Test.YtaokopipgolmbaaGreatDoorIrRq
import Derived.Test.YtaokopipgolmbaaGreatDoorPhaseTw
import Derived.Test.YtaokopipgolmbaaGreatDoorPhaseC
namespace Go.Proofs.YtaokopipgolmbaaGreatDoor.Ir
set_option linter.unusedVariables false
set_option linter.unusedSimpArgs false
open Go.ChangeShapes Go.WideShapes Go.ChangeAt Go.RowKit IntS Mch
theorem Four.turn {w u u' : World} {n g : Nat} {A B O Z : List Value} (h : Four w n A B O Z u) (ht : Turn g u u') (hg : g < n) : Four4 n A B O Z u' :=
  ⟨h.a.turn ht (by omega), h.b.turn ht (by omega), h.o.turn ht (by omega), h.z.turn ht (by omega)⟩
theorem a_type (w : World) (a b o z : Array Value) (t1 t2 t3 t4 : TypeId) : IsT ((((w.alloc (.cells a t1)).alloc (.cells b t2)).alloc (.cells o t3)).alloc (.cells z t4)) w.heap.size t1 :=
  (((IsT.new w a t1).below (alloc_below _ _)).below (alloc_below _ _)).below (alloc_below _ _)
set_option maxRecDepth 8000 in
set_option maxHeartbeats 4000000 in
theorem l6Event_out (m : M) (b : Bk) (q : Option Addr) (nb jb : Nat) (x_ y_ k_ t_ x y : Int) (lo : Nat) (c : List Value) (w : World) (h : CMach w lo c m) (lo1 : m.outs.length ≤ 1000000000) :
    Calls Tryz.prog 20 #[.agg c.toArray, .agg #[.int .i64 b.pc, .int .i64 b.ln, .slice q nb jb, .int .i64 b.en, .int .i64 b.x, .int .i64 b.y, .int .i64 b.k], .agg #[.int .i64 7, .int .i64 x_, .int .i64 y_, .int .i64 k_, .int .i64 t_], .int .i64 x, .int .i64 y] w (Ev lo w c (evM b m ⟨7, x_, y_, k_, t_⟩ x y)) := by
  obtain ⟨b1, o1, k1, b2, o2, k2, b3, o3, k3, b4, k4, rfl⟩ := forms h
  obtain ⟨regs, pc, mem, save, lets, waits, halt, ins, outs, count⟩ := m
  obtain ⟨bp, ln, ops, en, bx, by_, bk⟩ := b
  simp only [] at lo1
  have bX : Below w.heap.size w ((((w.alloc (.cells #[.slice (some ⟨b1, o1, none⟩) regs.length k1, .int .i64 pc, .slice (some ⟨b2, o2, none⟩) mem.length k2, .int .i64 save, .bool lets, .bool waits, .int .i64 halt, .slice (some ⟨b3, o3, none⟩) ins.length k3, .slice (some ⟨b4, 0, none⟩) outs.length k4, .int .i64 count] 30)).alloc (.cells #[.int .i64 bp, .int .i64 ln, .slice q nb jb, .int .i64 en, .int .i64 bx, .int .i64 by_, .int .i64 bk] 35)).alloc (.cells #[.int .i64 7, .int .i64 x_, .int .i64 y_, .int .i64 k_, .int .i64 t_] 49)).alloc (.cells #[.slice none 0 0, .int .i64 0, .slice none 0 0, .int .i64 0, .bool false, .bool false, .int .i64 0, .slice none 0 0, .slice none 0 0, .int .i64 0] 30)) := ((((Below.refl _ _).alloc (Nat.le_refl _) _).alloc (by simp) _).alloc (by simp; omega) _).alloc (by simp; omega) _
  have F := Four.new w [.slice (some ⟨b1, o1, none⟩) regs.length k1, .int .i64 pc, .slice (some ⟨b2, o2, none⟩) mem.length k2, .int .i64 save, .bool lets, .bool waits, .int .i64 halt, .slice (some ⟨b3, o3, none⟩) ins.length k3, .slice (some ⟨b4, 0, none⟩) outs.length k4, .int .i64 count] [.int .i64 bp, .int .i64 ln, .slice q nb jb, .int .i64 en, .int .i64 bx, .int .i64 by_, .int .i64 bk] [.int .i64 7, .int .i64 x_, .int .i64 y_, .int .i64 k_, .int .i64 t_] [.slice none 0 0, .int .i64 0, .slice none 0 0, .int .i64 0, .bool false, .bool false, .int .i64 0, .slice none 0 0, .slice none 0 0, .int .i64 0] 30 35 49 30
  have ZT := hide (z_type w #[.slice (some ⟨b1, o1, none⟩) regs.length k1, .int .i64 pc, .slice (some ⟨b2, o2, none⟩) mem.length k2, .int .i64 save, .bool lets, .bool waits, .int .i64 halt, .slice (some ⟨b3, o3, none⟩) ins.length k3, .slice (some ⟨b4, 0, none⟩) outs.length k4, .int .i64 count] #[.int .i64 bp, .int .i64 ln, .slice q nb jb, .int .i64 en, .int .i64 bx, .int .i64 by_, .int .i64 bk] #[.int .i64 7, .int .i64 x_, .int .i64 y_, .int .i64 k_, .int .i64 t_] #[.slice none 0 0, .int .i64 0, .slice none 0 0, .int .i64 0, .bool false, .bool false, .int .i64 0, .slice none 0 0, .slice none 0 0, .int .i64 0] 30 35 49 30)
  have AT := hide (a_type w #[.slice (some ⟨b1, o1, none⟩) regs.length k1, .int .i64 pc, .slice (some ⟨b2, o2, none⟩) mem.length k2, .int .i64 save, .bool lets, .bool waits, .int .i64 halt, .slice (some ⟨b3, o3, none⟩) ins.length k3, .slice (some ⟨b4, 0, none⟩) outs.length k4, .int .i64 count] #[.int .i64 bp, .int .i64 ln, .slice q nb jb, .int .i64 en, .int .i64 bx, .int .i64 by_, .int .i64 bk] #[.int .i64 7, .int .i64 x_, .int .i64 y_, .int .i64 k_, .int .i64 t_] #[.slice none 0 0, .int .i64 0, .slice none 0 0, .int .i64 0, .bool false, .bool false, .int .i64 0, .slice none 0 0, .slice none 0 0, .int .i64 0] 30 35 49 30)
  have HX := h.below bX
  have SZ : ((((w.alloc (.cells #[.slice (some ⟨b1, o1, none⟩) regs.length k1, .int .i64 pc, .slice (some ⟨b2, o2, none⟩) mem.length k2, .int .i64 save, .bool lets, .bool waits, .int .i64 halt, .slice (some ⟨b3, o3, none⟩) ins.length k3, .slice (some ⟨b4, 0, none⟩) outs.length k4, .int .i64 count] 30)).alloc (.cells #[.int .i64 bp, .int .i64 ln, .slice q nb jb, .int .i64 en, .int .i64 bx, .int .i64 by_, .int .i64 bk] 35)).alloc (.cells #[.int .i64 7, .int .i64 x_, .int .i64 y_, .int .i64 k_, .int .i64 t_] 49)).alloc (.cells #[.slice none 0 0, .int .i64 0, .slice none 0 0, .int .i64 0, .bool false, .bool false, .int .i64 0, .slice none 0 0, .slice none 0 0, .int .i64 0] 30)).heap.size = w.heap.size + 1 + 1 + 1 + 1 := by simp
  have P := HX.parts
  have hb4 : b4 < w.heap.size := h.parts.2.2.2.2.2.2.2.2.2.lt
  have LW : lo ≤ w.heap.size := by have := P.2.2.2.2.1.2.2.2; omega
  have HI := hide (Ints.of_below (lo := lo) bX)
  have HN := hide (Onl.of_below (bs := [b1, b2, b3, b4]) bX)
  have SW : Hid (w.heap.size ≤ (((((w.alloc (.cells #[.slice (some ⟨b1, o1, none⟩) regs.length k1, .int .i64 pc, .slice (some ⟨b2, o2, none⟩) mem.length k2, .int .i64 save, .bool lets, .bool waits, .int .i64 halt, .slice (some ⟨b3, o3, none⟩) ins.length k3, .slice (some ⟨b4, 0, none⟩) outs.length k4, .int .i64 count] 30)).alloc (.cells #[.int .i64 bp, .int .i64 ln, .slice q nb jb, .int .i64 en, .int .i64 bx, .int .i64 by_, .int .i64 bk] 35)).alloc (.cells #[.int .i64 7, .int .i64 x_, .int .i64 y_, .int .i64 k_, .int .i64 t_] 49)).alloc (.cells #[.slice none 0 0, .int .i64 0, .slice none 0 0, .int .i64 0, .bool false, .bool false, .int .i64 0, .slice none 0 0, .slice none 0 0, .int .i64 0] 30)).alloc (.cells #[.int .i64 x] 3)).heap.size) := show _ ≤ _ by simp; omega
  have F1 := hide (F.below (alloc_below _ (.cells #[.int .i64 x] 3)))
  have OW : Hid (Own (((((w.alloc (.cells #[.slice (some ⟨b1, o1, none⟩) regs.length k1, .int .i64 pc, .slice (some ⟨b2, o2, none⟩) mem.length k2, .int .i64 save, .bool lets, .bool waits, .int .i64 halt, .slice (some ⟨b3, o3, none⟩) ins.length k3, .slice (some ⟨b4, 0, none⟩) outs.length k4, .int .i64 count] 30)).alloc (.cells #[.int .i64 bp, .int .i64 ln, .slice q nb jb, .int .i64 en, .int .i64 bx, .int .i64 by_, .int .i64 bk] 35)).alloc (.cells #[.int .i64 7, .int .i64 x_, .int .i64 y_, .int .i64 k_, .int .i64 t_] 49)).alloc (.cells #[.slice none 0 0, .int .i64 0, .slice none 0 0, .int .i64 0, .bool false, .bool false, .int .i64 0, .slice none 0 0, .slice none 0 0, .int .i64 0] 30)).alloc (.cells #[.int .i64 x] 3)) lo (.slice (some ⟨b4, 0, none⟩) outs.length k4) outs) := (show Own ((((w.alloc (.cells #[.slice (some ⟨b1, o1, none⟩) regs.length k1, .int .i64 pc, .slice (some ⟨b2, o2, none⟩) mem.length k2, .int .i64 save, .bool lets, .bool waits, .int .i64 halt, .slice (some ⟨b3, o3, none⟩) ins.length k3, .slice (some ⟨b4, 0, none⟩) outs.length k4, .int .i64 count] 30)).alloc (.cells #[.int .i64 bp, .int .i64 ln, .slice q nb jb, .int .i64 en, .int .i64 bx, .int .i64 by_, .int .i64 bk] 35)).alloc (.cells #[.int .i64 7, .int .i64 x_, .int .i64 y_, .int .i64 k_, .int .i64 t_] 49)).alloc (.cells #[.slice none 0 0, .int .i64 0, .slice none 0 0, .int .i64 0, .bool false, .bool false, .int .i64 0, .slice none 0 0, .slice none 0 0, .int .i64 0] 30)) lo (.slice (some ⟨b4, 0, none⟩) outs.length k4) outs from P.2.2.2.1).turn (B := ((((w.alloc (.cells #[.slice (some ⟨b1, o1, none⟩) regs.length k1, .int .i64 pc, .slice (some ⟨b2, o2, none⟩) mem.length k2, .int .i64 save, .bool lets, .bool waits, .int .i64 halt, .slice (some ⟨b3, o3, none⟩) ins.length k3, .slice (some ⟨b4, 0, none⟩) outs.length k4, .int .i64 count] 30)).alloc (.cells #[.int .i64 bp, .int .i64 ln, .slice q nb jb, .int .i64 en, .int .i64 bx, .int .i64 by_, .int .i64 bk] 35)).alloc (.cells #[.int .i64 7, .int .i64 x_, .int .i64 y_, .int .i64 k_, .int .i64 t_] 49)).alloc (.cells #[.slice none 0 0, .int .i64 0, .slice none 0 0, .int .i64 0, .bool false, .bool false, .int .i64 0, .slice none 0 0, .slice none 0 0, .int .i64 0] 30)).heap.size) (Turn.of_below (alloc_below _ _)) (Nat.ne_of_lt P.2.2.2.2.2.2.2.2.2.lt) P.2.2.2.2.2.2.2.2.2.lt
  have CN : Hid ((((((w.alloc (.cells #[.slice (some ⟨b1, o1, none⟩) regs.length k1, .int .i64 pc, .slice (some ⟨b2, o2, none⟩) mem.length k2, .int .i64 save, .bool lets, .bool waits, .int .i64 halt, .slice (some ⟨b3, o3, none⟩) ins.length k3, .slice (some ⟨b4, 0, none⟩) outs.length k4, .int .i64 count] 30)).alloc (.cells #[.int .i64 bp, .int .i64 ln, .slice q nb jb, .int .i64 en, .int .i64 bx, .int .i64 by_, .int .i64 bk] 35)).alloc (.cells #[.int .i64 7, .int .i64 x_, .int .i64 y_, .int .i64 k_, .int .i64 t_] 49)).alloc (.cells #[.slice none 0 0, .int .i64 0, .slice none 0 0, .int .i64 0, .bool false, .bool false, .int .i64 0, .slice none 0 0, .slice none 0 0, .int .i64 0] 30)).alloc (.cells #[.int .i64 x] 3)).cell? ((⟨w.heap.size + 1 + 1 + 1 + 1, 0, none⟩ : Addr).add 0) = some (.int .i64 x)) := show _ = _ by
    rw [Go.WideShapes.add_plain, ← SZ]
    exact World.cell?_alloc_new ((((w.alloc (.cells #[.slice (some ⟨b1, o1, none⟩) regs.length k1, .int .i64 pc, .slice (some ⟨b2, o2, none⟩) mem.length k2, .int .i64 save, .bool lets, .bool waits, .int .i64 halt, .slice (some ⟨b3, o3, none⟩) ins.length k3, .slice (some ⟨b4, 0, none⟩) outs.length k4, .int .i64 count] 30)).alloc (.cells #[.int .i64 bp, .int .i64 ln, .slice q nb jb, .int .i64 en, .int .i64 bx, .int .i64 by_, .int .i64 bk] 35)).alloc (.cells #[.int .i64 7, .int .i64 x_, .int .i64 y_, .int .i64 k_, .int .i64 t_] 49)).alloc (.cells #[.slice none 0 0, .int .i64 0, .slice none 0 0, .int .i64 0, .bool false, .bool false, .int .i64 0, .slice none 0 0, .slice none 0 0, .int .i64 0] 30)) #[.int .i64 x] 3 0
  have LO : Hid (lo ≤ (((((w.alloc (.cells #[.slice (some ⟨b1, o1, none⟩) regs.length k1, .int .i64 pc, .slice (some ⟨b2, o2, none⟩) mem.length k2, .int .i64 save, .bool lets, .bool waits, .int .i64 halt, .slice (some ⟨b3, o3, none⟩) ins.length k3, .slice (some ⟨b4, 0, none⟩) outs.length k4, .int .i64 count] 30)).alloc (.cells #[.int .i64 bp, .int .i64 ln, .slice q nb jb, .int .i64 en, .int .i64 bx, .int .i64 by_, .int .i64 bk] 35)).alloc (.cells #[.int .i64 7, .int .i64 x_, .int .i64 y_, .int .i64 k_, .int .i64 t_] 49)).alloc (.cells #[.slice none 0 0, .int .i64 0, .slice none 0 0, .int .i64 0, .bool false, .bool false, .int .i64 0, .slice none 0 0, .slice none 0 0, .int .i64 0] 30)).alloc (.cells #[.int .i64 x] 3)).heap.size) := show _ ≤ _ by
    simp
    omega
  have HM : Hid (evM ⟨bp, ln, ops, en, bx, by_, bk⟩ ⟨regs, pc, mem, save, lets, waits, halt, ins, outs, count⟩ ⟨7, x_, y_, k_, t_⟩ x y = (⟨regs, pc, mem, save, lets, waits, halt, ins, outs ++ [x], count⟩, 0, false)) := rfl
  have H := hide HX
  have kk : w.heap.size ≤ w.heap.size + 1 + 1 + 1 := by omega
  clear h HX bX P F SZ
  simp only [mv] at *
  go_enter Tryz.func20, Tryz.ntmps20
  go_wp2_with (at_builtin; refine wpList_push rfl _ _ rfl lo b4 k4 outs rfl OW.out LO.out _ x rfl CN.out (by omega) ?_; intro g4 c4 u4 ho4 hor4 hlt4 ht4; have F4 := F1.out.turn ht4 hb4; have w0 := F4.a.cell 0 _ rfl; have w1 := F4.a.cell 1 _ rfl; have w2 := F4.a.cell 2 _ rfl; have w3 := F4.a.cell 3 _ rfl; have w4 := F4.a.cell 4 _ rfl; have w5 := F4.a.cell 5 _ rfl; have w6 := F4.a.cell 6 _ rfl; have w7 := F4.a.cell 7 _ rfl; have w8 := F4.a.cell 8 _ rfl; have w9 := F4.a.cell 9 _ rfl; have v8 := F4.a.soft 8; have z0 := F4.z.cell 0 _ rfl; have y0 := F4.z.soft 0; have z1 := F4.z.cell 1 _ rfl; have y1 := F4.z.soft 1; have z2 := F4.z.cell 2 _ rfl; have y2 := F4.z.soft 2; have z3 := F4.z.cell 3 _ rfl; have y3 := F4.z.soft 3; have z4 := F4.z.cell 4 _ rfl; have y4 := F4.z.soft 4; have z5 := F4.z.cell 5 _ rfl; have y5 := F4.z.soft 5; have z6 := F4.z.cell 6 _ rfl; have y6 := F4.z.soft 6; have z7 := F4.z.cell 7 _ rfl; have y7 := F4.z.soft 7; have z8 := F4.z.cell 8 _ rfl; have y8 := F4.z.soft 8; have z9 := F4.z.cell 9 _ rfl; have y9 := F4.z.soft 9; have G4 := hide F4; clear F4)
  obtain ⟨CP, IP⟩ := CMach.push (m := ⟨regs, pc, mem, save, lets, waits, halt, ins, outs, count⟩) H.out (alloc_below _ (.cells #[.int .i64 x] 3)) ho4 (by first | exact hor4 | simpa using hor4) ht4 LO.out
  rw [show (outs ++ [x]).length = outs.length + 1 from by simp] at CP
  have A5 := AT.out.ints mach_int IP
  have Z5 := ZT.out.ints mach_int IP
  have CQ := CP.other A5 mach_int 8 (.slice (some ⟨g4, 0, none⟩) (outs.length + 1) c4)
  have Z6 := Z5.set ⟨w.heap.size, 8, none⟩ (.slice (some ⟨g4, 0, none⟩) (outs.length + 1) c4)
  have B6 := (HI.out.trans IP).high (p := ⟨w.heap.size, 8, none⟩) (Nat.le_refl _) (.slice (some ⟨g4, 0, none⟩) (outs.length + 1) c4)
  have N6 := ((HN.out.trans (Onl.of_below (alloc_below _ (.cells #[.int .i64 x] 3)))).trans (Onl.of_turn ht4 (by simp))).high (p := ⟨w.heap.size, 8, none⟩) (Nat.le_refl _) (.slice (some ⟨g4, 0, none⟩) (outs.length + 1) c4)
  have GG : ∀ g, g ∈ [b1, b2, b3, g4] → g ∈ [b1, b2, b3, b4] ∨ w.heap.size ≤ g := by
    intro g hg
    have := SW.out
    simp only [List.mem_cons, List.not_mem_nil, or_false] at hg ⊢
    rcases hor4 with e | e <;> rcases hg with rfl | rfl | rfl | rfl <;> first | (left; simp [e]; done) | (left; simp; done) | (right; omega)
  simp only [List.length_append, List.length_cons, List.length_nil, Nat.zero_add] at *
  exact bodyPost_ret (v := .tuple #[.agg #[.slice (some ⟨b1, o1, none⟩) regs.length k1, .int .i64 pc, .slice (some ⟨b2, o2, none⟩) mem.length k2, .int .i64 save, .bool lets, .bool waits, .int .i64 halt, .slice (some ⟨b3, o3, none⟩) ins.length k3, .slice (some ⟨g4, 0, none⟩) (outs.length + 1) c4, .int .i64 count], .int .i64 0, .bool false]) (by simp [results, Tryz.results20, go_sem, z0, z1, z2, z3, z4, z5, z6, z7, z8, z9]) rfl ⟨[.slice (some ⟨b1, o1, none⟩) regs.length k1, .int .i64 pc, .slice (some ⟨b2, o2, none⟩) mem.length k2, .int .i64 save, .bool lets, .bool waits, .int .i64 halt, .slice (some ⟨b3, o3, none⟩) ins.length k3, .slice (some ⟨g4, 0, none⟩) (outs.length + 1) c4, .int .i64 count], by rw [HM.out], by rw [HM.out]; exact CQ.ten Z6 mach_int _ _ _ _ _ _ _ _ _ _, ints_ten B6 kk _ _ _ _ _ _ _ _ _ _, onl_ten N6 kk _ _ _ _ _ _ _ _ _ _, GG⟩
set_option maxRecDepth 8000 in
set_option maxHeartbeats 4000000 in
theorem l6Event_load (m : M) (b : Bk) (q : Option Addr) (nb jb : Nat) (x_ y_ k_ t_ x y : Int) (lo : Nat) (c : List Value) (w : World) (h : CMach w lo c m) (t : Nat) (hx : x = (t : Int)) (h64 : t < 64) (hm : m.mem.length = 64) :
    Calls Tryz.prog 20 #[.agg c.toArray, .agg #[.int .i64 b.pc, .int .i64 b.ln, .slice q nb jb, .int .i64 b.en, .int .i64 b.x, .int .i64 b.y, .int .i64 b.k], .agg #[.int .i64 4, .int .i64 x_, .int .i64 y_, .int .i64 k_, .int .i64 t_], .int .i64 x, .int .i64 y] w (Ev lo w c (evM b m ⟨4, x_, y_, k_, t_⟩ x y)) := by
  obtain ⟨b1, o1, k1, b2, o2, k2, b3, o3, k3, b4, k4, rfl⟩ := forms h
  obtain ⟨regs, pc, mem, save, lets, waits, halt, ins, outs, count⟩ := m
  obtain ⟨bp, ln, ops, en, bx, by_, bk⟩ := b
  subst hx
  simp only [] at hm
  have lt' : ((t : Nat) : Int) < (mem.length : Int) := by omega
  have tt : t < mem.length := by omega
  have lm : mem.length ≤ 1000 := by omega
  have x64 : ¬ (64 : Int) ≤ (t : Int) := by omega
  have M64 := hide hm
  clear hm
  obtain ⟨v, ev⟩ : ∃ v, mem[t]? = some v := ⟨_, List.getElem?_eq_getElem tt⟩
  have bX : Below w.heap.size w ((((w.alloc (.cells #[.slice (some ⟨b1, o1, none⟩) regs.length k1, .int .i64 pc, .slice (some ⟨b2, o2, none⟩) mem.length k2, .int .i64 save, .bool lets, .bool waits, .int .i64 halt, .slice (some ⟨b3, o3, none⟩) ins.length k3, .slice (some ⟨b4, 0, none⟩) outs.length k4, .int .i64 count] 30)).alloc (.cells #[.int .i64 bp, .int .i64 ln, .slice q nb jb, .int .i64 en, .int .i64 bx, .int .i64 by_, .int .i64 bk] 35)).alloc (.cells #[.int .i64 4, .int .i64 x_, .int .i64 y_, .int .i64 k_, .int .i64 t_] 49)).alloc (.cells #[.slice none 0 0, .int .i64 0, .slice none 0 0, .int .i64 0, .bool false, .bool false, .int .i64 0, .slice none 0 0, .slice none 0 0, .int .i64 0] 30)) := ((((Below.refl _ _).alloc (Nat.le_refl _) _).alloc (by simp) _).alloc (by simp; omega) _).alloc (by simp; omega) _
  have HX := h.below bX
  have cv := hide (row_at HX.parts.2.1 ev).1
  have F := hide (Four.new w [.slice (some ⟨b1, o1, none⟩) regs.length k1, .int .i64 pc, .slice (some ⟨b2, o2, none⟩) mem.length k2, .int .i64 save, .bool lets, .bool waits, .int .i64 halt, .slice (some ⟨b3, o3, none⟩) ins.length k3, .slice (some ⟨b4, 0, none⟩) outs.length k4, .int .i64 count] [.int .i64 bp, .int .i64 ln, .slice q nb jb, .int .i64 en, .int .i64 bx, .int .i64 by_, .int .i64 bk] [.int .i64 4, .int .i64 x_, .int .i64 y_, .int .i64 k_, .int .i64 t_] [.slice none 0 0, .int .i64 0, .slice none 0 0, .int .i64 0, .bool false, .bool false, .int .i64 0, .slice none 0 0, .slice none 0 0, .int .i64 0] 30 35 49 30)
  have ZT := hide (z_type w #[.slice (some ⟨b1, o1, none⟩) regs.length k1, .int .i64 pc, .slice (some ⟨b2, o2, none⟩) mem.length k2, .int .i64 save, .bool lets, .bool waits, .int .i64 halt, .slice (some ⟨b3, o3, none⟩) ins.length k3, .slice (some ⟨b4, 0, none⟩) outs.length k4, .int .i64 count] #[.int .i64 bp, .int .i64 ln, .slice q nb jb, .int .i64 en, .int .i64 bx, .int .i64 by_, .int .i64 bk] #[.int .i64 4, .int .i64 x_, .int .i64 y_, .int .i64 k_, .int .i64 t_] #[.slice none 0 0, .int .i64 0, .slice none 0 0, .int .i64 0, .bool false, .bool false, .int .i64 0, .slice none 0 0, .slice none 0 0, .int .i64 0] 30 35 49 30)
  have hb2 : b2 < w.heap.size := h.parts.2.2.2.2.2.2.2.1.lt
  have HM : Hid (evM ⟨bp, ln, ops, en, bx, by_, bk⟩ ⟨regs, pc, mem, save, lets, waits, halt, ins, outs, count⟩ ⟨4, x_, y_, k_, t_⟩ (t : Int) y = (⟨regs, pc, mem, save, lets, waits, halt, ins, outs, count⟩, v, false)) := show _ = _ by
    unfold evM
    simp only []
    rw [if_neg (by decide), if_neg (by decide), if_neg x64, if_pos trivial, Int.toNat_natCast, getD_of ev]
  have H := hide HX
  have kk : w.heap.size ≤ w.heap.size + 1 + 1 + 1 := by omega
  clear h HX bX ev
  simp only [mv] at *
  go_enter Tryz.func20, Tryz.ntmps20
  go_wp2_with fail
  obtain ⟨V, eV⟩ : ∃ V, ((((w.alloc (.cells #[.slice (some ⟨b1, o1, none⟩) regs.length k1, .int .i64 pc, .slice (some ⟨b2, o2, none⟩) mem.length k2, .int .i64 save, .bool lets, .bool waits, .int .i64 halt, .slice (some ⟨b3, o3, none⟩) ins.length k3, .slice (some ⟨b4, 0, none⟩) outs.length k4, .int .i64 count] 30)).alloc (.cells #[.int .i64 bp, .int .i64 ln, .slice q nb jb, .int .i64 en, .int .i64 bx, .int .i64 by_, .int .i64 bk] 35)).alloc (.cells #[.int .i64 4, .int .i64 x_, .int .i64 y_, .int .i64 k_, .int .i64 t_] 49)).alloc (.cells #[.slice none 0 0, .int .i64 0, .slice none 0 0, .int .i64 0, .bool false, .bool false, .int .i64 0, .slice none 0 0, .slice none 0 0, .int .i64 0] 30)) = V := ⟨_, rfl⟩
  rw [eV] at cv F ZT H ⊢
  clear eV
  refine (wpIn_wide (n := 0)).1 ?_
  refine PhaseIn.region (S := fun w' => Rec w.heap.size [.slice (some ⟨b1, o1, none⟩) regs.length k1, .int .i64 pc, .slice (some ⟨b2, o2, none⟩) mem.length k2, .int .i64 save, .bool lets, .bool waits, .int .i64 halt, .slice (some ⟨b3, o3, none⟩) ins.length k3, .slice (some ⟨b4, 0, none⟩) outs.length k4, .int .i64 count] w' ∧ w'.cell? ⟨b2, o2 + t, none⟩ = some (.int .i64 v)) 9 (by kernel_rfl) ?_
  have bA : Below V.heap.size V V.drew := (Below.refl _ _).drew
  have RA := hide (F.out.a.below bA)
  have RZ := hide (F.out.z.below bA)
  have BD := hide (F.out.bw.drew)
  have CV : V.drew.cell? ⟨b2, o2 + t, none⟩ = some (.int .i64 v) := cv.out
  have HD := hide (H.out.below bA)
  have ZD := hide (ZT.out.below bA)
  clear F ZT H cv
  generalize V.drew = d1 at RA RZ BD CV HD ZD ⊢
  have hHeld : Rec w.heap.size [.slice (some ⟨b1, o1, none⟩) regs.length k1, .int .i64 pc, .slice (some ⟨b2, o2, none⟩) mem.length k2, .int .i64 save, .bool lets, .bool waits, .int .i64 halt, .slice (some ⟨b3, o3, none⟩) ins.length k3, .slice (some ⟨b4, 0, none⟩) outs.length k4, .int .i64 count] d1 ∧ d1.cell? ⟨b2, o2 + t, none⟩ = some (.int .i64 v) := ⟨RA.out, CV⟩
  clear bA
  refine PhaseIn.takeD (i := 0) (v := ?_) [0, 6, 7, 8] 51 rfl (by rfl) (by kernel_rfl) (by kernel_rfl) (by kernel_rfl) (by kernel_rfl) (by kernel_rfl) (fun _ _ _ h => h) (Or.inl ⟨by kernel_rfl, ?_⟩) hHeld ?_
  rotate_left
  · intro w' hSw
    (try dsimp only at hSw)
    have z0 := hSw.1.cell 0 _ rfl; have z1 := hSw.1.cell 1 _ rfl; have z2 := hSw.1.cell 2 _ rfl; have z3 := hSw.1.cell 3 _ rfl; have z4 := hSw.1.cell 4 _ rfl; have z5 := hSw.1.cell 5 _ rfl; have z6 := hSw.1.cell 6 _ rfl; have z7 := hSw.1.cell 7 _ rfl; have z8 := hSw.1.cell 8 _ rfl; have z9 := hSw.1.cell 9 _ rfl
    go_simp
    first | done | with_reducible rfl
  try simp only [Act.put, List.setIfInBounds_toArray, List.set]
  refine PhaseIn.takeD (i := 1) (v := ?_) [1, 2, 4, 5, 7, 8] 52 rfl (by rfl) (by kernel_rfl) (by kernel_rfl) (by kernel_rfl) (by kernel_rfl) (by kernel_rfl) (fun _ _ _ h => h) (Or.inl ⟨by kernel_rfl, ?_⟩) hHeld ?_
  rotate_left
  · intro w' hSw
    (try dsimp only at hSw)
    go_simp
    first | done | with_reducible rfl
  try simp only [Act.put, List.setIfInBounds_toArray, List.set]
  refine PhaseIn.takeD (i := 2) (v := ?_) [2, 4, 5, 7, 8] 53 rfl (by rfl) (by kernel_rfl) (by kernel_rfl) (by kernel_rfl) (by kernel_rfl) (by kernel_rfl) (fun _ _ _ h => h) (Or.inl ⟨by kernel_rfl, ?_⟩) hHeld ?_
  rotate_left
  · intro w' hSw
    (try dsimp only at hSw)
    have z2 := hSw.1.cell 2 _ rfl
    go_simp
    first | done | with_reducible rfl
  try simp only [Act.put, List.setIfInBounds_toArray, List.set]
  refine PhaseIn.takeD (i := 3) (v := ?_) [3, 4, 5, 7, 8] 54 rfl (by rfl) (by kernel_rfl) (by kernel_rfl) (by kernel_rfl) (by kernel_rfl) (by kernel_rfl) (fun _ _ _ h => h) (Or.inl ⟨by kernel_rfl, ?_⟩) hHeld ?_
  rotate_left
  · intro w' hSw
    (try dsimp only at hSw)
    go_simp
    first | done | with_reducible rfl
  try simp only [Act.put, List.setIfInBounds_toArray, List.set]
  refine PhaseIn.takeD (i := 4) (v := ?_) [4, 5, 7, 8] 55 rfl (by rfl) (by kernel_rfl) (by kernel_rfl) (by kernel_rfl) (by kernel_rfl) (by kernel_rfl) (fun _ _ _ h => h) (Or.inl ⟨by kernel_rfl, ?_⟩) hHeld ?_
  rotate_left
  · intro w' hSw
    (try dsimp only at hSw)
    go_simp
    first | done | with_reducible rfl
  try simp only [Act.put, List.setIfInBounds_toArray, List.set]
  refine PhaseIn.takeD (i := 5) (v := ?_) [5, 7, 8] 56 rfl (by rfl) (by kernel_rfl) (by kernel_rfl) (by kernel_rfl) (by kernel_rfl) (by kernel_rfl) (fun _ _ _ h => h) (Or.inl ⟨by kernel_rfl, ?_⟩) hHeld ?_
  rotate_left
  · intro w' hSw
    (try dsimp only at hSw)
    have z5 := hSw.2
    go_simp
    first | done | with_reducible rfl
  try simp only [Act.put, List.setIfInBounds_toArray, List.set]
  have z0 := RZ.out.cell 0 _ rfl
  have s0 := RZ.out.soft 0
  have z1 := RZ.out.cell 1 _ rfl
  have s1 := RZ.out.soft 1
  have z2 := RZ.out.cell 2 _ rfl
  have s2 := RZ.out.soft 2
  have z3 := RZ.out.cell 3 _ rfl
  have s3 := RZ.out.soft 3
  have z4 := RZ.out.cell 4 _ rfl
  have s4 := RZ.out.soft 4
  have z5 := RZ.out.cell 5 _ rfl
  have s5 := RZ.out.soft 5
  have z6 := RZ.out.cell 6 _ rfl
  have s6 := RZ.out.soft 6
  have z7 := RZ.out.cell 7 _ rfl
  have s7 := RZ.out.soft 7
  have z8 := RZ.out.cell 8 _ rfl
  have s8 := RZ.out.soft 8
  have z9 := RZ.out.cell 9 _ rfl
  have s9 := RZ.out.soft 9
  refine PhaseIn.one (i := 6) (by kernel_rfl) rfl (by kernel_rfl) (fun K hK => ?_)
  unfold Oper.wpIn
  refine ⟨fun _ _ => trivial, ?_⟩
  go_simp
  have t10 : Turn (w.heap.size + 1 + 1 + 1) d1 ((((((((((d1.setCell ⟨w.heap.size + 1 + 1 + 1, 0, none⟩ (.slice (some ⟨b1, o1, none⟩) regs.length k1)).setCell ⟨w.heap.size + 1 + 1 + 1, 1, none⟩ (.int .i64 pc)).setCell ⟨w.heap.size + 1 + 1 + 1, 2, none⟩ (.slice (some ⟨b2, o2, none⟩) mem.length k2)).setCell ⟨w.heap.size + 1 + 1 + 1, 3, none⟩ (.int .i64 save)).setCell ⟨w.heap.size + 1 + 1 + 1, 4, none⟩ (.bool lets)).setCell ⟨w.heap.size + 1 + 1 + 1, 5, none⟩ (.bool waits)).setCell ⟨w.heap.size + 1 + 1 + 1, 6, none⟩ (.int .i64 halt)).setCell ⟨w.heap.size + 1 + 1 + 1, 7, none⟩ (.slice (some ⟨b3, o3, none⟩) ins.length k3)).setCell ⟨w.heap.size + 1 + 1 + 1, 8, none⟩ (.slice (some ⟨b4, 0, none⟩) outs.length k4)).setCell ⟨w.heap.size + 1 + 1 + 1, 9, none⟩ (.int .i64 count)) := (((((((((((Turn.refl (w.heap.size + 1 + 1 + 1) d1).setCell (p := ⟨w.heap.size + 1 + 1 + 1, 0, none⟩) rfl (.slice (some ⟨b1, o1, none⟩) regs.length k1)).setCell (p := ⟨w.heap.size + 1 + 1 + 1, 1, none⟩) rfl (.int .i64 pc)).setCell (p := ⟨w.heap.size + 1 + 1 + 1, 2, none⟩) rfl (.slice (some ⟨b2, o2, none⟩) mem.length k2)).setCell (p := ⟨w.heap.size + 1 + 1 + 1, 3, none⟩) rfl (.int .i64 save)).setCell (p := ⟨w.heap.size + 1 + 1 + 1, 4, none⟩) rfl (.bool lets)).setCell (p := ⟨w.heap.size + 1 + 1 + 1, 5, none⟩) rfl (.bool waits)).setCell (p := ⟨w.heap.size + 1 + 1 + 1, 6, none⟩) rfl (.int .i64 halt)).setCell (p := ⟨w.heap.size + 1 + 1 + 1, 7, none⟩) rfl (.slice (some ⟨b3, o3, none⟩) ins.length k3)).setCell (p := ⟨w.heap.size + 1 + 1 + 1, 8, none⟩) rfl (.slice (some ⟨b4, 0, none⟩) outs.length k4)).setCell (p := ⟨w.heap.size + 1 + 1 + 1, 9, none⟩) rfl (.int .i64 count))
  have hHeld2 : Rec w.heap.size [.slice (some ⟨b1, o1, none⟩) regs.length k1, .int .i64 pc, .slice (some ⟨b2, o2, none⟩) mem.length k2, .int .i64 save, .bool lets, .bool waits, .int .i64 halt, .slice (some ⟨b3, o3, none⟩) ins.length k3, .slice (some ⟨b4, 0, none⟩) outs.length k4, .int .i64 count] ((((((((((d1.setCell ⟨w.heap.size + 1 + 1 + 1, 0, none⟩ (.slice (some ⟨b1, o1, none⟩) regs.length k1)).setCell ⟨w.heap.size + 1 + 1 + 1, 1, none⟩ (.int .i64 pc)).setCell ⟨w.heap.size + 1 + 1 + 1, 2, none⟩ (.slice (some ⟨b2, o2, none⟩) mem.length k2)).setCell ⟨w.heap.size + 1 + 1 + 1, 3, none⟩ (.int .i64 save)).setCell ⟨w.heap.size + 1 + 1 + 1, 4, none⟩ (.bool lets)).setCell ⟨w.heap.size + 1 + 1 + 1, 5, none⟩ (.bool waits)).setCell ⟨w.heap.size + 1 + 1 + 1, 6, none⟩ (.int .i64 halt)).setCell ⟨w.heap.size + 1 + 1 + 1, 7, none⟩ (.slice (some ⟨b3, o3, none⟩) ins.length k3)).setCell ⟨w.heap.size + 1 + 1 + 1, 8, none⟩ (.slice (some ⟨b4, 0, none⟩) outs.length k4)).setCell ⟨w.heap.size + 1 + 1 + 1, 9, none⟩ (.int .i64 count)) ∧ ((((((((((d1.setCell ⟨w.heap.size + 1 + 1 + 1, 0, none⟩ (.slice (some ⟨b1, o1, none⟩) regs.length k1)).setCell ⟨w.heap.size + 1 + 1 + 1, 1, none⟩ (.int .i64 pc)).setCell ⟨w.heap.size + 1 + 1 + 1, 2, none⟩ (.slice (some ⟨b2, o2, none⟩) mem.length k2)).setCell ⟨w.heap.size + 1 + 1 + 1, 3, none⟩ (.int .i64 save)).setCell ⟨w.heap.size + 1 + 1 + 1, 4, none⟩ (.bool lets)).setCell ⟨w.heap.size + 1 + 1 + 1, 5, none⟩ (.bool waits)).setCell ⟨w.heap.size + 1 + 1 + 1, 6, none⟩ (.int .i64 halt)).setCell ⟨w.heap.size + 1 + 1 + 1, 7, none⟩ (.slice (some ⟨b3, o3, none⟩) ins.length k3)).setCell ⟨w.heap.size + 1 + 1 + 1, 8, none⟩ (.slice (some ⟨b4, 0, none⟩) outs.length k4)).setCell ⟨w.heap.size + 1 + 1 + 1, 9, none⟩ (.int .i64 count)).cell? ⟨b2, o2 + t, none⟩ = some (.int .i64 v) := ⟨RA.out.turn t10 (by omega), (World.cell?_of_block (w := d1) (a := ⟨b2, o2 + t, none⟩) (t10.block b2 (by have := RA.out.lt; omega) (by omega))).trans CV⟩
  refine hK _ _ (fun _ => hHeld2) ?_
  have RZ2 := hide ((((((((((RZ.out.set 0 (.slice (some ⟨b1, o1, none⟩) regs.length k1) (by simp) (show _ = ([.slice (some ⟨b1, o1, none⟩) regs.length k1, .int .i64 0, .slice none 0 0, .int .i64 0, .bool false, .bool false, .int .i64 0, .slice none 0 0, .slice none 0 0, .int .i64 0] : List Value) from rfl)).set 1 (.int .i64 pc) (by simp) (show _ = ([.slice (some ⟨b1, o1, none⟩) regs.length k1, .int .i64 pc, .slice none 0 0, .int .i64 0, .bool false, .bool false, .int .i64 0, .slice none 0 0, .slice none 0 0, .int .i64 0] : List Value) from rfl)).set 2 (.slice (some ⟨b2, o2, none⟩) mem.length k2) (by simp) (show _ = ([.slice (some ⟨b1, o1, none⟩) regs.length k1, .int .i64 pc, .slice (some ⟨b2, o2, none⟩) mem.length k2, .int .i64 0, .bool false, .bool false, .int .i64 0, .slice none 0 0, .slice none 0 0, .int .i64 0] : List Value) from rfl)).set 3 (.int .i64 save) (by simp) (show _ = ([.slice (some ⟨b1, o1, none⟩) regs.length k1, .int .i64 pc, .slice (some ⟨b2, o2, none⟩) mem.length k2, .int .i64 save, .bool false, .bool false, .int .i64 0, .slice none 0 0, .slice none 0 0, .int .i64 0] : List Value) from rfl)).set 4 (.bool lets) (by simp) (show _ = ([.slice (some ⟨b1, o1, none⟩) regs.length k1, .int .i64 pc, .slice (some ⟨b2, o2, none⟩) mem.length k2, .int .i64 save, .bool lets, .bool false, .int .i64 0, .slice none 0 0, .slice none 0 0, .int .i64 0] : List Value) from rfl)).set 5 (.bool waits) (by simp) (show _ = ([.slice (some ⟨b1, o1, none⟩) regs.length k1, .int .i64 pc, .slice (some ⟨b2, o2, none⟩) mem.length k2, .int .i64 save, .bool lets, .bool waits, .int .i64 0, .slice none 0 0, .slice none 0 0, .int .i64 0] : List Value) from rfl)).set 6 (.int .i64 halt) (by simp) (show _ = ([.slice (some ⟨b1, o1, none⟩) regs.length k1, .int .i64 pc, .slice (some ⟨b2, o2, none⟩) mem.length k2, .int .i64 save, .bool lets, .bool waits, .int .i64 halt, .slice none 0 0, .slice none 0 0, .int .i64 0] : List Value) from rfl)).set 7 (.slice (some ⟨b3, o3, none⟩) ins.length k3) (by simp) (show _ = ([.slice (some ⟨b1, o1, none⟩) regs.length k1, .int .i64 pc, .slice (some ⟨b2, o2, none⟩) mem.length k2, .int .i64 save, .bool lets, .bool waits, .int .i64 halt, .slice (some ⟨b3, o3, none⟩) ins.length k3, .slice none 0 0, .int .i64 0] : List Value) from rfl)).set 8 (.slice (some ⟨b4, 0, none⟩) outs.length k4) (by simp) (show _ = ([.slice (some ⟨b1, o1, none⟩) regs.length k1, .int .i64 pc, .slice (some ⟨b2, o2, none⟩) mem.length k2, .int .i64 save, .bool lets, .bool waits, .int .i64 halt, .slice (some ⟨b3, o3, none⟩) ins.length k3, .slice (some ⟨b4, 0, none⟩) outs.length k4, .int .i64 0] : List Value) from rfl)).set 9 (.int .i64 count) (by simp) (show _ = ([.slice (some ⟨b1, o1, none⟩) regs.length k1, .int .i64 pc, .slice (some ⟨b2, o2, none⟩) mem.length k2, .int .i64 save, .bool lets, .bool waits, .int .i64 halt, .slice (some ⟨b3, o3, none⟩) ins.length k3, .slice (some ⟨b4, 0, none⟩) outs.length k4, .int .i64 count] : List Value) from rfl))
  have H2 := hide (HD.out.ten ZD.out mach_int (.slice (some ⟨b1, o1, none⟩) regs.length k1) (.int .i64 pc) (.slice (some ⟨b2, o2, none⟩) mem.length k2) (.int .i64 save) (.bool lets) (.bool waits) (.int .i64 halt) (.slice (some ⟨b3, o3, none⟩) ins.length k3) (.slice (some ⟨b4, 0, none⟩) outs.length k4) (.int .i64 count))
  have N2 := hide (onl_ten (Onl.of_below (bs := [b1, b2, b3, b4]) BD.out) kk (.slice (some ⟨b1, o1, none⟩) regs.length k1) (.int .i64 pc) (.slice (some ⟨b2, o2, none⟩) mem.length k2) (.int .i64 save) (.bool lets) (.bool waits) (.int .i64 halt) (.slice (some ⟨b3, o3, none⟩) ins.length k3) (.slice (some ⟨b4, 0, none⟩) outs.length k4) (.int .i64 count))
  have I2 := hide (ints_ten (Ints.of_below (lo := lo) BD.out) kk (.slice (some ⟨b1, o1, none⟩) regs.length k1) (.int .i64 pc) (.slice (some ⟨b2, o2, none⟩) mem.length k2) (.int .i64 save) (.bool lets) (.bool waits) (.int .i64 halt) (.slice (some ⟨b3, o3, none⟩) ins.length k3) (.slice (some ⟨b4, 0, none⟩) outs.length k4) (.int .i64 count))
  clear hK K hHeld t10 RA RZ BD HD ZD CV z0 s0 z1 s1 z2 s2 z3 s3 z4 s4 z5 s5 z6 s6 z7 s7 z8 s8 z9 s9
  try simp only [Act.put, List.setIfInBounds_toArray, List.set]
  generalize ((((((((((d1.setCell ⟨w.heap.size + 1 + 1 + 1, 0, none⟩ (.slice (some ⟨b1, o1, none⟩) regs.length k1)).setCell ⟨w.heap.size + 1 + 1 + 1, 1, none⟩ (.int .i64 pc)).setCell ⟨w.heap.size + 1 + 1 + 1, 2, none⟩ (.slice (some ⟨b2, o2, none⟩) mem.length k2)).setCell ⟨w.heap.size + 1 + 1 + 1, 3, none⟩ (.int .i64 save)).setCell ⟨w.heap.size + 1 + 1 + 1, 4, none⟩ (.bool lets)).setCell ⟨w.heap.size + 1 + 1 + 1, 5, none⟩ (.bool waits)).setCell ⟨w.heap.size + 1 + 1 + 1, 6, none⟩ (.int .i64 halt)).setCell ⟨w.heap.size + 1 + 1 + 1, 7, none⟩ (.slice (some ⟨b3, o3, none⟩) ins.length k3)).setCell ⟨w.heap.size + 1 + 1 + 1, 8, none⟩ (.slice (some ⟨b4, 0, none⟩) outs.length k4)).setCell ⟨w.heap.size + 1 + 1 + 1, 9, none⟩ (.int .i64 count)) = d2 at RZ2 H2 I2 N2 hHeld2 ⊢
  refine PhaseIn.takeD (i := 7) (v := ?_) [7, 8] 11 rfl (by rfl) (by kernel_rfl) (by kernel_rfl) (by kernel_rfl) (by kernel_rfl) (by kernel_rfl) (fun _ _ _ h => h) (Or.inl ⟨by kernel_rfl, ?_⟩) hHeld2 ?_
  rotate_left
  · intro w' hSw
    (try dsimp only at hSw)
    go_simp
    first | done | with_reducible rfl
  try simp only [Act.put, List.setIfInBounds_toArray, List.set]
  refine PhaseIn.takeD (i := 8) (v := ?_) [8] 12 rfl (by rfl) (by kernel_rfl) (by kernel_rfl) (by kernel_rfl) (by kernel_rfl) (by kernel_rfl) (fun _ _ _ h => h) (Or.inl ⟨by kernel_rfl, ?_⟩) hHeld2 ?_
  rotate_left
  · intro w' hSw
    (try dsimp only at hSw)
    go_simp
    first | done | with_reducible rfl
  try simp only [Act.put, List.setIfInBounds_toArray, List.set]
  refine PhaseIn.done (by kernel_rfl) ?_ _
  clear hHeld2
  have z0 := RZ2.out.cell 0 _ rfl
  have z1 := RZ2.out.cell 1 _ rfl
  have z2 := RZ2.out.cell 2 _ rfl
  have z3 := RZ2.out.cell 3 _ rfl
  have z4 := RZ2.out.cell 4 _ rfl
  have z5 := RZ2.out.cell 5 _ rfl
  have z6 := RZ2.out.cell 6 _ rfl
  have z7 := RZ2.out.cell 7 _ rfl
  have z8 := RZ2.out.cell 8 _ rfl
  have z9 := RZ2.out.cell 9 _ rfl
  go_wp2
  exact bodyPost_ret (v := .tuple #[.agg #[.slice (some ⟨b1, o1, none⟩) regs.length k1, .int .i64 pc, .slice (some ⟨b2, o2, none⟩) mem.length k2, .int .i64 save, .bool lets, .bool waits, .int .i64 halt, .slice (some ⟨b3, o3, none⟩) ins.length k3, .slice (some ⟨b4, 0, none⟩) outs.length k4, .int .i64 count], .int .i64 v, .bool false]) (by simp [results, Tryz.results20, go_sem, z0, z1, z2, z3, z4, z5, z6, z7, z8, z9]) rfl ⟨[.slice (some ⟨b1, o1, none⟩) regs.length k1, .int .i64 pc, .slice (some ⟨b2, o2, none⟩) mem.length k2, .int .i64 save, .bool lets, .bool waits, .int .i64 halt, .slice (some ⟨b3, o3, none⟩) ins.length k3, .slice (some ⟨b4, 0, none⟩) outs.length k4, .int .i64 count], by rw [HM.out], by rw [HM.out]; exact H2.out, I2.out, N2.out, fun g hg => Or.inl hg⟩
end Go.Proofs.YtaokopipgolmbaaGreatDoor.Ir
namespace Go.Proofs.YtaokopipgolmbaaGreatDoor.Ir
set_option linter.unusedVariables false
set_option linter.unusedSimpArgs false
open Go.ChangeShapes Go.WideShapes Go.ChangeAt Go.RowKit IntS Mch
theorem l6Event_in (m : M) (b : Bk) (q : Option Addr) (nb jb : Nat) (x_ y_ k_ t_ x y : Int) (lo : Nat) (c : List Value) (w : World) (h : CMach w lo c m) :
    Calls Tryz.prog 20 #[.agg c.toArray, .agg #[.int .i64 b.pc, .int .i64 b.ln, .slice q nb jb, .int .i64 b.en, .int .i64 b.x, .int .i64 b.y, .int .i64 b.k], .agg #[.int .i64 6, .int .i64 x_, .int .i64 y_, .int .i64 k_, .int .i64 t_], .int .i64 x, .int .i64 y] w (Ev lo w c (evM b m ⟨6, x_, y_, k_, t_⟩ x y)) := by
  cases he : m.ins with
  | nil => exact l6Event_in0 m b q nb jb x_ y_ k_ t_ x y lo c w h he
  | cons x0 r =>
    obtain ⟨b1, o1, k1, b2, o2, k2, b3, o3, k3, b4, k4, hc⟩ := forms h
    have inj : ∀ q1 n1 q2 n2 q3 n3 k3' q4 n4 k1' k2' k4', c = mv m (.slice q1 n1 k1') (.slice q2 n2 k2') (.slice q3 n3 k3') (.slice q4 n4 k4') → k3' = k3 := fun q1 n1 q2 n2 q3 n3 k3' q4 n4 k1' k2' k4' e => by
      rw [hc] at e
      simp only [mv, List.cons.injEq, Value.slice.injEq, and_true, true_and] at e
      exact e.2.2.1.2.2.symm
    by_cases hk : k3 = 1
    · have hr : r = [] := by
        rw [hc] at h
        have := (ins_capI h).1
        rw [he, hk] at this
        exact List.length_eq_zero_iff.1 (by simpa using this)
      subst hr
      exact l6Event_in1 m b q nb jb x_ y_ k_ t_ x y lo c w h x0 he (fun q1 n1 q2 n2 q3 n3 k3' q4 n4 k1' k2' k4' e => (inj _ _ _ _ _ _ _ _ _ _ _ _ e).trans hk)
    · exact l6Event_in2 m b q nb jb x_ y_ k_ t_ x y lo c w h x0 r he (fun q1 n1 q2 n2 q3 n3 k3' q4 n4 k1' k2' k4' e => by rw [inj _ _ _ _ _ _ _ _ _ _ _ _ e]; exact hk)
/-- What the machine and the code must be. -/
structure Go1 (m : M) (b : Bk) : Prop where
  regs : m.regs.length = 4
  mem : m.mem.length = 64
  c0 : 0 ≤ m.count
  c1 : m.count ≤ 1000000
  p0 : 0 ≤ b.pc
  p1 : b.pc ≤ 64
  l0 : 0 ≤ b.ln
  l1 : b.ln ≤ 8
theorem l6Event (m : M) (b : Bk) (q : Option Addr) (nb jb : Nat) (o : Opn) (x y : Int) (lo : Nat) (c : List Value) (w : World) (h : CMach w lo c m) (hg : Go1 m b) (ho : m.outs.length ≤ 1000000000) (hk : 4 ≤ o.kd ∧ o.kd ≤ 7) (x0 : 0 ≤ x) (t0 : 0 ≤ o.t) (t7 : o.t ≤ 7) :
    Calls Tryz.prog 20 #[.agg c.toArray, .agg #[.int .i64 b.pc, .int .i64 b.ln, .slice q nb jb, .int .i64 b.en, .int .i64 b.x, .int .i64 b.y, .int .i64 b.k], .agg #[.int .i64 o.kd, .int .i64 o.x, .int .i64 o.y, .int .i64 o.k, .int .i64 o.t], .int .i64 x, .int .i64 y] w (Ev lo w c (evM b m o x y)) := by
  obtain ⟨kd, x_, y_, k_, t_⟩ := o
  obtain ⟨g1, g2, c0, c1, p0, p1, l0, l1⟩ := hg
  simp only [] at hk t0 t7 ⊢
  have hk2 : kd = 4 ∨ kd = 5 ∨ kd = 6 ∨ kd = 7 := by omega
  by_cases hx : 64 ≤ x
  · rcases hk2 with rfl | rfl | rfl | rfl
    · exact l6Event_miss4 m b q nb jb x_ y_ k_ t_ x y lo c w h c0 c1 p0 p1 l0 l1 t0 t7 hx
    · exact l6Event_miss5 m b q nb jb x_ y_ k_ t_ x y lo c w h c0 c1 p0 p1 l0 l1 t0 t7 hx
    · exact l6Event_in m b q nb jb x_ y_ k_ t_ x y lo c w h
    · exact l6Event_out m b q nb jb x_ y_ k_ t_ x y lo c w h ho
  · obtain ⟨t, rfl⟩ := Int.eq_ofNat_of_zero_le x0
    rcases hk2 with rfl | rfl | rfl | rfl
    · exact l6Event_load m b q nb jb x_ y_ k_ t_ (t : Int) y lo c w h t rfl (by omega) g2
    · cases hov : overB b.pc b.ln (t : Int) t_ with
      | true => exact l6Event_over m b q nb jb x_ y_ k_ t_ (t : Int) y lo c w h c0 c1 p0 p1 l0 l1 t0 t7 t rfl (by omega) g2 hov
      | false => exact l6Event_store m b q nb jb x_ y_ k_ t_ (t : Int) y lo c w h c0 c1 p0 p1 l0 l1 t0 t7 t rfl (by omega) g2 hov
    · exact l6Event_in m b q nb jb x_ y_ k_ t_ (t : Int) y lo c w h
    · exact l6Event_out m b q nb jb x_ y_ k_ t_ (t : Int) y lo c w h ho
end Go.Proofs.YtaokopipgolmbaaGreatDoor.Ir
namespace Go.Proofs.YtaokopipgolmbaaGreatDoor.Ir
set_option linter.unusedVariables false
set_option linter.unusedSimpArgs false
open Go.ChangeShapes Go.WideShapes Go.ChangeAt Go.RowKit IntS Mch
def isW (x : Int) : Prop := 0 ≤ x ∧ x < 65536
/-- Machines on their way, and the words that are made. -/
structure Inv (m : M) (vs : List Int) : Prop where
  regs : m.regs.length = 4
  mem : m.mem.length = 64
  rw : ∀ x ∈ m.regs, isW x
  mw : ∀ x ∈ m.mem, isW x
  iw : ∀ x ∈ m.ins, isW x
  vw : ∀ x ∈ vs, isW x
theorem getD_w {xs : List Int} (h : ∀ x ∈ xs, isW x) (k : Nat) : isW (xs.getD k 0) := by
  rw [List.getD_eq_getElem?_getD]
  cases e : xs[k]? with
  | none => exact ⟨by simp, by simp⟩
  | some x => exact h x (List.mem_of_getElem? e)
theorem at_w {xs : List Int} (h : ∀ x ∈ xs, isW x) (k : Int) : isW (atI xs k) := by
  unfold atI
  split
  · exact getD_w h _
  · exact ⟨by simp, by simp⟩
theorem set_w {xs : List Int} (h : ∀ x ∈ xs, isW x) (k : Nat) {y : Int} (hy : isW y) : ∀ x ∈ xs.set k y, isW x := fun x hx => by
  rcases List.mem_or_eq_of_mem_set hx with h1 | h1
  · exact h x h1
  · rw [h1]; exact hy
theorem app_w {xs : List Int} (h : ∀ x ∈ xs, isW x) {y : Int} (hy : isW y) : ∀ x ∈ xs ++ [y], isW x := fun x hx => by
  rcases List.mem_append.1 hx with h1 | h1
  · exact h x h1
  · rw [List.mem_singleton.1 h1]; exact hy
theorem val_lt {ah : List Opn} {k : Int} (h : valB ah k = true) : 0 ≤ k ∧ k < ah.length := by
  by_cases h0 : k < 0
  · rw [val_neg h0] at h; cases h
  · by_cases h1 : (ah.length : Int) ≤ k
    · rw [val_far h1] at h; cases h
    · omega
/-- What is known of an operation that is ok. -/
structure OpF (n : Nat) (o : Opn) : Prop where
  kd : 1 ≤ o.kd ∧ o.kd ≤ 8
  x : 0 ≤ o.x ∧ o.x ≤ 48
  y : 0 ≤ o.y ∧ o.y ≤ 48
  k1 : o.kd = 1 → 0 ≤ o.k ∧ o.k ≤ 65535
  k2 : o.kd = 2 ∨ o.kd = 8 → 0 ≤ o.k ∧ o.k ≤ 3
  t : 0 ≤ o.t ∧ o.t ≤ 7
  x8 : o.kd = 8 → o.x < n
  xv : o.kd = 3 ∨ o.kd = 4 ∨ o.kd = 5 ∨ o.kd = 7 → o.x < n
  yv : o.kd = 3 ∨ o.kd = 5 → o.y < n
  k3 : o.kd = 3 → 1 ≤ o.k ∧ o.k ≤ 5
theorem op_facts {ah : List Opn} {o : Opn} {size : Int} (h : opB ah o size = true) (hl : ah.length ≤ 48) (hs : size ≤ 8) (hs1 : 1 ≤ size) : OpF ah.length o := by
  unfold opB inI at h
  have e (k : Int) : valB ah k = true → 0 ≤ k ∧ k < ah.length := val_lt
  split at h
  · simp only [Bool.and_eq_true, decide_eq_true_eq] at h
    constructor <;> omega
  split at h
  · simp only [Bool.and_eq_true, decide_eq_true_eq] at h
    constructor <;> omega
  split at h
  · simp only [Bool.and_eq_true, decide_eq_true_eq] at h
    have := e _ h.1.1.1
    have := e _ h.1.1.2
    constructor <;> omega
  split at h
  · simp only [Bool.and_eq_true, decide_eq_true_eq] at h
    have := e _ h.1.1.1
    constructor <;> omega
  split at h
  · simp only [Bool.and_eq_true, decide_eq_true_eq] at h
    have := e _ h.1.1.1
    have := e _ h.1.1.2
    constructor <;> omega
  split at h
  · simp only [Bool.and_eq_true, decide_eq_true_eq] at h
    constructor <;> omega
  split at h
  · simp only [Bool.and_eq_true, decide_eq_true_eq] at h
    have := e _ h.1.1.1
    constructor <;> omega
  · cases h
theorem wdo_w (op a b : Int) : isW (Wrd.wdo op a b) := Wrd.wdo_bd op a b
theorem ev_inv {b : Bk} {m : M} {vs : List Int} {o : Opn} {x y : Int} (h : Inv m vs) (hy : isW y) (hx : isW x) : Inv (evM b m o x y).1 (vs ++ [(evM b m o x y).2.1]) ∧ (evM b m o x y).1.outs.length ≤ m.outs.length + 1 ∧ ((evM b m o x y).2.2 = false → (evM b m o x y).1.count = m.count) := by
  obtain ⟨h1, h2, h3, h4, h5, h6⟩ := h
  have z : isW 0 := ⟨by omega, by omega⟩
  unfold evM
  split
  · exact ⟨⟨h1, h2, h3, h4, h5, app_w h6 z⟩, by simp, fun _ => rfl⟩
  split
  · cases e : m.ins with
    | nil => exact ⟨⟨h1, h2, h3, h4, h5, app_w h6 z⟩, by simp, fun _ => rfl⟩
    | cons n r =>
      rw [e] at h5
      exact ⟨⟨h1, h2, h3, h4, fun x hx => h5 x (List.mem_cons_of_mem _ hx), app_w h6 (h5 n (by simp))⟩, by simp, fun _ => rfl⟩
  split
  · exact ⟨⟨h1, h2, h3, h4, h5, app_w h6 z⟩, by simp [leaveM], fun e => by cases e⟩
  split
  · exact ⟨⟨h1, h2, h3, h4, h5, app_w h6 (getD_w h4 _)⟩, by simp, fun _ => rfl⟩
  split
  · exact ⟨⟨h1, by simpa [leaveM] using h2, h3, set_w h4 _ hy, h5, app_w h6 z⟩, by simp [leaveM], fun e => by cases e⟩
  · exact ⟨⟨h1, by simpa using h2, h3, set_w h4 _ hy, h5, app_w h6 z⟩, by simp, fun _ => rfl⟩
theorem step_inv {b : Bk} {m : M} {vs : List Int} {o : Opn} {n : Nat} (h : Inv m vs) (ho : OpF n o) : Inv (stepM b m vs o).1 (vs ++ [(stepM b m vs o).2.1]) ∧ (stepM b m vs o).1.outs.length ≤ m.outs.length + 1 ∧ ((stepM b m vs o).2.2 = false → (stepM b m vs o).1.count = m.count) := by
  have z : isW 0 := ⟨by omega, by omega⟩
  unfold stepM
  split
  · exact ⟨⟨by simpa using h.regs, h.mem, set_w h.rw _ (at_w h.vw _), h.mw, h.iw, app_w h.vw z⟩, by simp, fun _ => rfl⟩
  split
  · exact ev_inv h (at_w h.vw _) (at_w h.vw _)
  · refine ⟨⟨h.regs, h.mem, h.rw, h.mw, h.iw, app_w h.vw ?_⟩, by simp, fun _ => rfl⟩
    show isW (wordM m o _ _)
    unfold wordM
    split
    · rename_i e
      have := ho.k1 e
      exact ⟨by omega, by omega⟩
    split
    · exact getD_w h.rw _
    split
    · exact wdo_w _ _ _
    · exact z
end Go.Proofs.YtaokopipgolmbaaGreatDoor.Ir
namespace Go.Proofs.YtaokopipgolmbaaGreatDoor.Ir
set_option linter.unusedVariables false
set_option linter.unusedSimpArgs false
open Go.ChangeShapes Go.WideShapes Go.ChangeAt Go.RowKit IntS Mch
theorem op_int : 49 ≠ 3 := by decide
theorem block_int : 35 ≠ 3 := by decide
theorem own_blk {w w' : World} {base g n cap : Nat} {xs : List Int} (h : Own w base (.slice (some ⟨g, 0, none⟩) n cap) xs) (hk : w'.heap[g]? = w.heap[g]?) : Own w' base (.slice (some ⟨g, 0, none⟩) n cap) xs := by
  obtain ⟨hl, h0 | ⟨g', cap', cur, hv, hb, hh, rest⟩⟩ := h
  · exact absurd h0.1 (by simp)
  · cases hv
    exact ⟨hl, Or.inr ⟨g, cap, cur, rfl, hb, hk.trans hh, rest⟩⟩
theorem _root_.Go.Proofs.YtaokopipgolmbaaGreatDoor.Mch.CMach.turnI {w w' : World} {lo B : Nat} {c : List Value} {m : M} (h : CMach w lo c m) (ht : Turn B w w') (hn : B ∉ mb c) : CMach w' lo c m := by
  obtain ⟨b1, b2, b3, b4, o1, o2, o3, k1, k2, k3, k4, hc, h1, h2, h3, h4, hlo, hd, t1, t2, t3, t4⟩ := h
  subst hc
  have h5 : B ∉ [b1, b2, b3, b4] := hn
  simp only [List.mem_cons, List.not_mem_nil, or_false, not_or] at h5
  exact ⟨b1, b2, b3, b4, o1, o2, o3, k1, k2, k3, k4, rfl, h1.turn ht (by omega), h2.turn ht (by omega), h3.turn ht (by omega), h4.turn ht (by omega) t4.lt, hlo, hd, t1.turn ht (by omega), t2.turn ht (by omega), t3.turn ht (by omega), t4.turn ht (by omega)⟩
theorem _root_.Go.Proofs.YtaokopipgolmbaaGreatDoor.Mch.CMach.mb_int {w : World} {lo : Nat} {c : List Value} {m : M} (h : CMach w lo c m) : ∀ g, g ∈ mb c → IsT w g 3 := by
  obtain ⟨b1, b2, b3, b4, o1, o2, o3, k1, k2, k3, k4, hc, h1, h2, h3, h4, hlo, hd, t1, t2, t3, t4⟩ := h
  subst hc
  intro g hg
  have h5 : g ∈ [b1, b2, b3, b4] := hg
  simp only [List.mem_cons, List.not_mem_nil, or_false] at h5
  rcases h5 with rfl | rfl | rfl | rfl
  · exact t1
  · exact t2
  · exact t3
  · exact t4
theorem rec_ten {Z : Nat} {x0 x1 x2 x3 x4 x5 x6 x7 x8 x9 : Value} {w : World} (h : Rec Z [x0, x1, x2, x3, x4, x5, x6, x7, x8, x9] w) (v0 v1 v2 v3 v4 v5 v6 v7 v8 v9 : Value) : Rec Z [v0, v1, v2, v3, v4, v5, v6, v7, v8, v9] ((((((((((w.setCell ⟨Z, 0, none⟩ v0).setCell ⟨Z, 1, none⟩ v1).setCell ⟨Z, 2, none⟩ v2).setCell ⟨Z, 3, none⟩ v3).setCell ⟨Z, 4, none⟩ v4).setCell ⟨Z, 5, none⟩ v5).setCell ⟨Z, 6, none⟩ v6).setCell ⟨Z, 7, none⟩ v7).setCell ⟨Z, 8, none⟩ v8).setCell ⟨Z, 9, none⟩ v9) :=
  (((((((((h.set 0 v0 (by simp) rfl).set 1 v1 (by simp) rfl).set 2 v2 (by simp) rfl).set 3 v3 (by simp) rfl).set 4 v4 (by simp) rfl).set 5 v5 (by simp) rfl).set 6 v6 (by simp) rfl).set 7 v7 (by simp) rfl).set 8 v8 (by simp) rfl).set 9 v9 (by simp) rfl
theorem turn_ten (Z : Nat) (w : World) (v0 v1 v2 v3 v4 v5 v6 v7 v8 v9 : Value) : Turn Z w ((((((((((w.setCell ⟨Z, 0, none⟩ v0).setCell ⟨Z, 1, none⟩ v1).setCell ⟨Z, 2, none⟩ v2).setCell ⟨Z, 3, none⟩ v3).setCell ⟨Z, 4, none⟩ v4).setCell ⟨Z, 5, none⟩ v5).setCell ⟨Z, 6, none⟩ v6).setCell ⟨Z, 7, none⟩ v7).setCell ⟨Z, 8, none⟩ v8).setCell ⟨Z, 9, none⟩ v9) :=
  ((((((((((Turn.refl Z w).setCell (p := ⟨Z, 0, none⟩) rfl v0).setCell (p := ⟨Z, 1, none⟩) rfl v1).setCell (p := ⟨Z, 2, none⟩) rfl v2).setCell (p := ⟨Z, 3, none⟩) rfl v3).setCell (p := ⟨Z, 4, none⟩) rfl v4).setCell (p := ⟨Z, 5, none⟩) rfl v5).setCell (p := ⟨Z, 6, none⟩) rfl v6).setCell (p := ⟨Z, 7, none⟩) rfl v7).setCell (p := ⟨Z, 8, none⟩) rfl v8).setCell (p := ⟨Z, 9, none⟩) rfl v9
theorem type_ten {Z b : Nat} {w : World} {t : TypeId} (h : IsT w b t) (v0 v1 v2 v3 v4 v5 v6 v7 v8 v9 : Value) : IsT ((((((((((w.setCell ⟨Z, 0, none⟩ v0).setCell ⟨Z, 1, none⟩ v1).setCell ⟨Z, 2, none⟩ v2).setCell ⟨Z, 3, none⟩ v3).setCell ⟨Z, 4, none⟩ v4).setCell ⟨Z, 5, none⟩ v5).setCell ⟨Z, 6, none⟩ v6).setCell ⟨Z, 7, none⟩ v7).setCell ⟨Z, 8, none⟩ v8).setCell ⟨Z, 9, none⟩ v9) b t :=
  (((((((((h.set ⟨Z, 0, none⟩ v0).set ⟨Z, 1, none⟩ v1).set ⟨Z, 2, none⟩ v2).set ⟨Z, 3, none⟩ v3).set ⟨Z, 4, none⟩ v4).set ⟨Z, 5, none⟩ v5).set ⟨Z, 6, none⟩ v6).set ⟨Z, 7, none⟩ v7).set ⟨Z, 8, none⟩ v8).set ⟨Z, 9, none⟩ v9
/-- What is known: the words made so far, the machine, the three boxes. -/
structure Sit (w u : World) (n X lo g cp : Nat) (bv zc xc c : List Value) (m : M) (vs : List Int) : Prop where
  own : Own u lo (.slice (some ⟨g, 0, none⟩) vs.length cp) vs
  mach : CMach u lo c m
  gn : g ∉ mb c
  x : Rec X xc u ∧ IsT u X 30
  b : Rec n bv u ∧ IsT u n 35
  z : Rec (n + 1 + 1) zc u ∧ IsT u (n + 1 + 1) 30
  bw : Below n w u
  lu : lo ≤ u.heap.size
theorem Sit.row {w u : World} {n X lo g cp : Nat} {bv zc xc c : List Value} {m : M} {vs : List Int} (h : Sit w u n X lo g cp bv zc xc c m vs) : Row u g (.slice (some ⟨g, 0, none⟩) vs.length cp) vs := by
  obtain ⟨g', cp', ev, _, _, VW⟩ := h.own.form (by simp)
  cases ev
  exact VW.row
theorem Sit.below {w u u' : World} {n X lo g cp : Nat} {bv zc xc c : List Value} {m : M} {vs : List Int} (h : Sit w u n X lo g cp bv zc xc c m vs) (hb : Below u.heap.size u u') : Sit w u' n X lo g cp bv zc xc c m vs :=
  ⟨own_blk h.own (hb.block g h.own.isT.lt), h.mach.below hb, h.gn, ⟨h.x.1.below hb, h.x.2.below hb⟩, ⟨h.b.1.below hb, h.b.2.below hb⟩, ⟨h.z.1.below hb, h.z.2.below hb⟩, h.bw.trans (hb.mono (Nat.le_of_lt h.b.2.lt)), Nat.le_trans h.lu hb.size⟩
theorem Sit.event {w u u' : World} {n X lo g cp : Nat} {bv zc xc c c' : List Value} {m m' : M} {vs : List Int} (h : Sit w u n X lo g cp bv zc xc c m vs) (hn : n ≤ lo) (hi : Ints lo u u') (ho : Onl (mb c) u u') (hc : CMach u' lo c' m') (hg : ∀ j, j ∈ mb c' → j ∈ mb c ∨ u.heap.size ≤ j) : Sit w u' n X lo g cp bv zc xc c' m' vs :=
  ⟨own_blk h.own (ho.block g h.own.isT.lt h.gn), hc, fun e => (hg g e).elim h.gn (fun e2 => by have := h.own.isT.lt; omega), ⟨Rec.ints h.x.1 h.x.2 mach_int hi, h.x.2.ints mach_int hi⟩, ⟨Rec.ints h.b.1 h.b.2 block_int hi, h.b.2.ints block_int hi⟩, ⟨Rec.ints h.z.1 h.z.2 mach_int hi, h.z.2.ints mach_int hi⟩, h.bw.trans ((hi.below h.lu).mono hn), Nat.le_trans h.lu hi.size⟩
theorem Sit.box {w u u' : World} {n X lo g cp Y : Nat} {bv zc xc c : List Value} {m : M} {vs : List Int} (h : Sit w u n X lo g cp bv zc xc c m vs) (ht : Turn Y u u') (hY : IsT u Y 30) (h1 : X ≠ Y) (h2 : n + 1 + 1 < Y) : Sit w u' n X lo g cp bv zc xc c m vs := by
  have hg : g ≠ Y := fun e => (hY.ne h.own.isT mach_int) e.symm
  have hm : Y ∉ mb c := fun e => (hY.ne (h.mach.mb_int Y e) mach_int) rfl
  exact ⟨own_blk h.own (ht.block g h.own.isT.lt hg), h.mach.turnI ht hm, h.gn, ⟨h.x.1.turn ht h1, h.x.2.turn ht h1⟩, ⟨h.b.1.turn ht (by omega), h.b.2.turn ht (by omega)⟩, ⟨h.z.1.turn ht (by omega), h.z.2.turn ht (by omega)⟩, h.bw.trans (ht.below (by omega) (Nat.le_of_lt h.b.2.lt)), Nat.le_trans h.lu ht.size⟩
theorem Sit.self {w u u' : World} {n X lo g cp : Nat} {bv zc xc xc' c : List Value} {m : M} {vs : List Int} (h : Sit w u n X lo g cp bv zc xc c m vs) (ht : Turn X u u') (hX : n + 1 + 1 < X) (hr : Rec X xc' u') (hT : IsT u' X 30) : Sit w u' n X lo g cp bv zc xc' c m vs := by
  have hg : g ≠ X := fun e => (h.x.2.ne h.own.isT mach_int) e.symm
  have hm : X ∉ mb c := fun e => (h.x.2.ne (h.mach.mb_int X e) mach_int) rfl
  exact ⟨own_blk h.own (ht.block g h.own.isT.lt hg), h.mach.turnI ht hm, h.gn, ⟨hr, hT⟩, ⟨h.b.1.turn ht (by omega), h.b.2.turn ht (by omega)⟩, ⟨h.z.1.turn ht (by omega), h.z.2.turn ht (by omega)⟩, h.bw.trans (ht.below (by omega) (Nat.le_of_lt h.b.2.lt)), Nat.le_trans h.lu ht.size⟩
end Go.Proofs.YtaokopipgolmbaaGreatDoor.Ir
