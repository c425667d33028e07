/-
  Draws: a machine that was gone on with (l20Mach).
-/
import Derived.Test.YtnhpmbhphbphaaaGreatDrawY
import Derived.Test.YtnhpmbhphbphaaaGreatMchLL
import Derived.Test.YtnhpmbhphbphaaaGreatMpA
namespace Go.Proofs.YtnhpmbhphbphaaaGreat.Draw
set_option linter.unusedVariables false
set_option linter.unusedSimpArgs false
open Go.ChangeShapes Go.WideShapes Go.ChangeAt Go.RowKit Flat
open IntS (Turn hide cell_below Row WRow IsT)
open Mch (Rec Box M mv RMach WMach CMach AMach IsR okM okM_of newOf newM runOf runM wordsB words_of mach_int Near)
open Blk (OwnN)
set_option maxRecDepth 8000 in
set_option maxHeartbeats 4000000 in
/-- A machine stored in a drawn region. -/
theorem layInM {w : World} {o : Oper} {a : Act} {K : Act → World → Prop} {Q : Exit → Act → World → Prop} (x y : Operand) (ho : o.op = .store 25 x y)
    (Z : Nat) (x0 x1 x2 x3 x4 x5 x6 x7 x8 x9 : Value) (hB : Box Z 25 [x0, x1, x2, x3, x4, x5, x6, x7, x8, x9] w) (hx : a.eval x = .pointer (some ⟨Z, 0, none⟩))
    (q1 q2 q3 q4 : Option Addr) (n1 n2 n3 n4 k1 k2 k3 k4 : Nat) (pc save halt count : Int) (lets waits : Bool)
    (hy : a.eval y = .agg #[.slice q1 n1 k1, .int .i64 pc, .slice q2 n2 k2, .int .i64 save, .bool lets, .bool waits, .int .i64 halt, .slice q3 n3 k3, .slice q4 n4 k4, .int .i64 count])
    (h : ∀ w' : World, Hid (Box Z 25 [.slice q1 n1 k1, .int .i64 pc, .slice q2 n2 k2, .int .i64 save, .bool lets, .bool waits, .int .i64 halt, .slice q3 n3 k3, .slice q4 n4 k4, .int .i64 count] w') → Hid (Turn Z w w') → K (a.put o.dst undef) w') : Oper.wpIn Fence.wide 0 Tryz.prog o a w K Q := by
  have z0 := hB.r.cell 0 _ rfl
  have y0 := hB.r.soft 0
  have z1 := hB.r.cell 1 _ rfl
  have y1 := hB.r.soft 1
  have z2 := hB.r.cell 2 _ rfl
  have y2 := hB.r.soft 2
  have z3 := hB.r.cell 3 _ rfl
  have y3 := hB.r.soft 3
  have z4 := hB.r.cell 4 _ rfl
  have y4 := hB.r.soft 4
  have z5 := hB.r.cell 5 _ rfl
  have y5 := hB.r.soft 5
  have z6 := hB.r.cell 6 _ rfl
  have y6 := hB.r.soft 6
  have z7 := hB.r.cell 7 _ rfl
  have y7 := hB.r.soft 7
  have z8 := hB.r.cell 8 _ rfl
  have y8 := hB.r.soft 8
  have z9 := hB.r.cell 9 _ rfl
  have y9 := hB.r.soft 9
  have key := h _ (hB.ten (.slice q1 n1 k1) (.int .i64 pc) (.slice q2 n2 k2) (.int .i64 save) (.bool lets) (.bool waits) (.int .i64 halt) (.slice q3 n3 k3) (.slice q4 n4 k4) (.int .i64 count)) (Mch.Turn.ten Z _ _ _ _ _ _ _ _ _ _)
  obtain ⟨dst, op, ty, pos, aft, gd⟩ := o
  simp only [] at ho key
  subst ho
  clear h
  unfold Oper.wpIn
  refine ⟨fun _ _ => trivial, ?_⟩
  rw [show Fence.wide.round = none from rfl, Oper.semAt_none]
  simp only [execOp, hx, hy]
  go_simp
  exact key
/-- How great a machine is that was drawn. -/
structure Fits (m : M) : Prop where
  r : m.regs.length = 4
  e : m.mem.length = 64
  i : m.ins.length ≤ 100
  o : m.outs.length ≤ 100
theorem Fits.near {m : M} (h : Fits m) : Near m := ⟨by have := h.r; omega, by have := h.e; omega, by have := h.i; omega, by have := h.o; omega⟩
theorem new_ok {ws is : List Int} (h1 : ws.length ≤ 64) (h2 : ∀ x ∈ ws, 0 ≤ x ∧ x < 65536) (h3 : ∀ x ∈ is, 0 ≤ x ∧ x < 65536) : newOf ws is = newM ws is ∧ okM (newM ws is) = true := by
  refine ⟨Mch.new_yes h1 (words_of h2) (words_of h3), Mch.OkM.back ⟨rfl, by unfold newM; simp; omega, words_of (by unfold newM; simp), words_of (fun x hx => ?_), words_of h3, words_of (by unfold newM; simp), by unfold newM; simp, by unfold newM; simp, by unfold newM; simp, by unfold newM; simp⟩⟩
  unfold newM at hx
  simp only [List.mem_append, List.mem_replicate] at hx
  rcases hx with hx | ⟨_, rfl⟩
  · exact h2 x hx
  · omega
theorem run_fits {ws is irqs : List Int} {n : Nat} (ok : okM (newM ws is) = true) (hi : is.length ≤ 100) (hn : n ≤ 100) : Fits (runM irqs n (newM ws is)) ∧ okM (runM irqs n (newM ws is)) = true := by
  obtain ⟨o, a, b⟩ := Mch.led_run irqs n _ ok
  exact ⟨⟨o.regs, o.mem, Nat.le_trans b hi, by have : (newM ws is).outs.length = 0 := rfl; omega⟩, o.back⟩
/-- A machine in a box of its own, its lists in blocks of the call's. -/
structure Mq (R X Z : Nat) (w : World) (q : Nat) (u : World) : Prop where
  ex : ∃ (c : List Value) (m : M), CMach u w.heap.size c m ∧ Box X 25 c u ∧ Fits m
  z : Box Z 25 [.slice none 0 0, .int .i64 0, .slice none 0 0, .int .i64 0, .bool false, .bool false, .int .i64 0, .slice none 0 0, .slice none 0 0, .int .i64 0] u
  rd : Rd R q u
  kp : Keep R w u
theorem cm_keep {R lo : Nat} {c : List Value} {m : M} {u u' : World} (h : CMach u lo c m) (hR : R < lo) (hk : Keep R u u') : CMach u' lo c m := h.away hk.turn hR
theorem box_keep {R X : Nat} {t : TypeId} {c : List Value} {u u' : World} (h : Box X t c u) (hk : Keep R u u') (hX : X ≠ R) : Box X t c u' := h.turn hk.turn hX
theorem Mq.step {R X Z q q' : Nat} {w u u' : World} (h : Mq R X Z w q u) (hR : R < w.heap.size) (hX : X ≠ R) (hZ : Z ≠ R) (hr : Rd R q' u') (hk : Keep R u u') : Mq R X Z w q' u' := by
  obtain ⟨⟨c, m, hc, hb, hf⟩, hz, _, k⟩ := h
  exact ⟨⟨c, m, cm_keep hc hR hk, box_keep hb hk hX, hf⟩, box_keep hz hk hZ, hr, k.trans hk⟩
theorem Mq.open {R X Z q : Nat} {w u : World} (h : Mq R X Z w q u) : ∃ (q1 q2 q3 q4 : Option Addr) (n1 n2 n3 n4 k1 k2 k3 k4 : Nat) (m : M), CMach u w.heap.size (mv m (.slice q1 n1 k1) (.slice q2 n2 k2) (.slice q3 n3 k3) (.slice q4 n4 k4)) m ∧ Box X 25 (mv m (.slice q1 n1 k1) (.slice q2 n2 k2) (.slice q3 n3 k3) (.slice q4 n4 k4)) u ∧ Fits m := by
  obtain ⟨⟨c, m, hc, hb, hf⟩, _⟩ := h
  obtain ⟨b1, o1, k1, b2, o2, k2, b3, o3, k3, b4, k4, rfl⟩ := Mch.forms hc
  exact ⟨_, _, _, _, _, _, _, _, _, _, _, _, m, hc, hb, hf⟩
/-- Registers put in. -/
theorem cm_regs {u u' : World} {lo g n cap : Nat} {v1 v2 v3 v4 : Value} {m : M} {xs : List Int} (h : CMach u lo (mv m v1 v2 v3 v4) m) (h' : CMach u' lo (mv m v1 v2 v3 v4) m) (hlo : lo ≤ u.heap.size) (ho : OwnN u' u.heap.size (.slice (some ⟨g, 0, none⟩) n cap) xs) (hn : xs.length = n) :
    CMach u' lo (mv { m with regs := xs } (.slice (some ⟨g, 0, none⟩) n cap) v2 v3 v4) { m with regs := xs } := by
  subst hn
  obtain ⟨b1, b2, b3, b4, o1, o2, o3, k1, k2, k3, k4, hc, h1, h2, h3, h4, ⟨e1, e2, e3, e4⟩, ⟨d1, d2, d3, d4, d5, d6⟩, t1, t2, t3, t4⟩ := h
  have l2 := t2.lt
  have l3 := t3.lt
  have l4 := t4.lt
  have hc0 := hc
  simp only [mv, List.cons.injEq, and_true, true_and] at hc
  obtain ⟨rfl, rfl, rfl, rfl⟩ := hc
  obtain ⟨p1, p2, p3, p4, ⟨f1, f2, f3, f4⟩, _, s1, s2, s3, s4⟩ := CMach.parts h'
  have ho' : IntS.Own u' u.heap.size (.slice (some ⟨g, 0, none⟩) xs.length cap) xs := ho
  obtain ⟨g', cap', hv, l1, _, hr⟩ := ho'.form (by simp)
  cases hv
  exact ⟨g, b2, b3, b4, 0, o2, o3, cap, k2, k3, k4, rfl, hr, p2, p3, p4, ⟨by omega, e2, e3, e4⟩, ⟨by omega, by omega, by omega, d4, d5, d6⟩, IsR.of_own ho', s2, s3, s4⟩
theorem mq_set {R X Z q : Nat} {w u : World} {c c' : List Value} {m m' : M} (hc : CMach u w.heap.size c m → CMach u w.heap.size c' m') (h0 : CMach u w.heap.size c m) (hb : Box X 25 c u) (hf : Fits m') (hz : Box Z 25 [.slice none 0 0, .int .i64 0, .slice none 0 0, .int .i64 0, .bool false, .bool false, .int .i64 0, .slice none 0 0, .slice none 0 0, .int .i64 0] u) (hr : Rd R q u) (hk : Keep R w u) (hX : w.heap.size ≤ X) (hR : R < w.heap.size) (hZ : Z ≠ X) (i : Nat) (v : Value) (hi : i < c.length) (he : c.set i v = c') : Mq R X Z w q (u.setCell ⟨X, i, none⟩ v) := by
  have T : Turn X u (u.setCell ⟨X, i, none⟩ v) := (Turn.refl X u).setCell rfl _
  exact ⟨⟨c', m', CMach.turn (hc h0) hb.t mach_int T, hb.set i v hi he, hf⟩, hz.turn T hZ, rd_turn hr T (by omega) hr.lt, keep_up hk T hX⟩
theorem Mq.pc {R X Z q : Nat} {w u : World} (h : Mq R X Z w q u) (hX : w.heap.size ≤ X) (hR : R < w.heap.size) (hZ : Z ≠ X) : ∃ y, u.cell? ⟨X, 1, none⟩ = some (.int .i64 y) ∧ u.frozen? ⟨X, 1, none⟩ = false ∧ ∀ v : Int, Mq R X Z w q (u.setCell ⟨X, 1, none⟩ (.int .i64 v)) := by
  obtain ⟨q1, q2, q3, q4, n1, n2, n3, n4, k1, k2, k3, k4, m, hc, hb, hf⟩ := h.open
  obtain ⟨regs, pc, mem, save, lets, waits, halt, ins, outs, count⟩ := m
  exact ⟨_, hb.r.cell 1 _ rfl, hb.r.soft 1, fun v => mq_set (fun h => CMach.plain (pc' := v) (save' := save) (lets' := lets) (waits' := waits) (halt' := halt) (count' := count) h) hc hb ⟨hf.r, hf.e, hf.i, hf.o⟩ h.z h.rd h.kp hX hR hZ 1 _ (by simp [mv]) rfl⟩
theorem Mq.lets {R X Z q : Nat} {w u : World} (h : Mq R X Z w q u) (hX : w.heap.size ≤ X) (hR : R < w.heap.size) (hZ : Z ≠ X) : ∃ y, u.cell? ⟨X, 4, none⟩ = some (.bool y) ∧ u.frozen? ⟨X, 4, none⟩ = false ∧ ∀ v : Bool, Mq R X Z w q (u.setCell ⟨X, 4, none⟩ (.bool v)) := by
  obtain ⟨q1, q2, q3, q4, n1, n2, n3, n4, k1, k2, k3, k4, m, hc, hb, hf⟩ := h.open
  obtain ⟨regs, pc, mem, save, lets, waits, halt, ins, outs, count⟩ := m
  exact ⟨_, hb.r.cell 4 _ rfl, hb.r.soft 4, fun v => mq_set (fun h => CMach.plain (pc' := pc) (save' := save) (lets' := v) (waits' := waits) (halt' := halt) (count' := count) h) hc hb ⟨hf.r, hf.e, hf.i, hf.o⟩ h.z h.rd h.kp hX hR hZ 4 _ (by simp [mv]) rfl⟩
theorem Mq.waits {R X Z q : Nat} {w u : World} (h : Mq R X Z w q u) (hX : w.heap.size ≤ X) (hR : R < w.heap.size) (hZ : Z ≠ X) : ∃ y, u.cell? ⟨X, 5, none⟩ = some (.bool y) ∧ u.frozen? ⟨X, 5, none⟩ = false ∧ ∀ v : Bool, Mq R X Z w q (u.setCell ⟨X, 5, none⟩ (.bool v)) := by
  obtain ⟨q1, q2, q3, q4, n1, n2, n3, n4, k1, k2, k3, k4, m, hc, hb, hf⟩ := h.open
  obtain ⟨regs, pc, mem, save, lets, waits, halt, ins, outs, count⟩ := m
  exact ⟨_, hb.r.cell 5 _ rfl, hb.r.soft 5, fun v => mq_set (fun h => CMach.plain (pc' := pc) (save' := save) (lets' := lets) (waits' := v) (halt' := halt) (count' := count) h) hc hb ⟨hf.r, hf.e, hf.i, hf.o⟩ h.z h.rd h.kp hX hR hZ 5 _ (by simp [mv]) rfl⟩
theorem Mq.halt {R X Z q : Nat} {w u : World} (h : Mq R X Z w q u) (hX : w.heap.size ≤ X) (hR : R < w.heap.size) (hZ : Z ≠ X) : ∃ y, u.cell? ⟨X, 6, none⟩ = some (.int .i64 y) ∧ u.frozen? ⟨X, 6, none⟩ = false ∧ ∀ v : Int, Mq R X Z w q (u.setCell ⟨X, 6, none⟩ (.int .i64 v)) := by
  obtain ⟨q1, q2, q3, q4, n1, n2, n3, n4, k1, k2, k3, k4, m, hc, hb, hf⟩ := h.open
  obtain ⟨regs, pc, mem, save, lets, waits, halt, ins, outs, count⟩ := m
  exact ⟨_, hb.r.cell 6 _ rfl, hb.r.soft 6, fun v => mq_set (fun h => CMach.plain (pc' := pc) (save' := save) (lets' := lets) (waits' := waits) (halt' := v) (count' := count) h) hc hb ⟨hf.r, hf.e, hf.i, hf.o⟩ h.z h.rd h.kp hX hR hZ 6 _ (by simp [mv]) rfl⟩
theorem Mq.mono {R X Z q q' : Nat} {w u : World} (h : Mq R X Z w q u) (hq : q ≤ q') : Mq R X Z w q' u := ⟨h.ex, h.z, h.rd.mono hq, h.kp⟩
theorem Mq.drop {R X Z q : Nat} {w u : World} (h : Mq R X Z w q u) : Keep R w u := h.kp
set_option maxRecDepth 8000 in
set_option maxHeartbeats 16000000 in
theorem mach (R q : Nat) (w : World) (h : Rd R q w) (hq : q ≤ 400000) :
    Calls Tryz.prog 52 #[.pointer (some ⟨R, 0, none⟩)] w fun e w' => ∃ (c : List Value) (m : M), e = .returned (.agg c.toArray) ∧ CMach w' w.heap.size c m ∧ Fits m ∧ Rd R (q + 3000) w' ∧ Keep R w w' := by
  have hR := h.lt
  have Z0 := hide (Box.new w [.slice none 0 0, .int .i64 0, .slice none 0 0, .int .i64 0, .bool false, .bool false, .int .i64 0, .slice none 0 0, .slice none 0 0, .int .i64 0] 25)
  have K0 : Hid (Keep R w (w.alloc (.cells #[.slice none 0 0, .int .i64 0, .slice none 0 0, .int .i64 0, .bool false, .bool false, .int .i64 0, .slice none 0 0, .slice none 0 0, .int .i64 0] 25))) := (Keep.refl R w).alloc _
  have H0 := hide (h.alloc (.cells #[.slice none 0 0, .int .i64 0, .slice none 0 0, .int .i64 0, .bool false, .bool false, .int .i64 0, .slice none 0 0, .slice none 0 0, .int .i64 0] 25))
  have S0 : Hid (w.heap.size < (w.alloc (.cells #[.slice none 0 0, .int .i64 0, .slice none 0 0, .int .i64 0, .bool false, .bool false, .int .i64 0, .slice none 0 0, .slice none 0 0, .int .i64 0] 25)).heap.size) := by simp [Hid]
  clear h
  go_enter Tryz.func52, Tryz.ntmps52
  go_wp2_with fail
  generalize (w.alloc (.cells #[.slice none 0 0, .int .i64 0, .slice none 0 0, .int .i64 0, .bool false, .bool false, .int .i64 0, .slice none 0 0, .slice none 0 0, .int .i64 0] 25)) = va at Z0 K0 H0 S0 ⊢
  refine (image R q va H0.out (by omega)).mono ?_
  rintro e vb ⟨vi, n, rfl, n0, n1, WI⟩
  obtain ⟨⟨gi, ci, ws, hvi, lws, OI, BI⟩, h1, k1⟩ := WI
  subst hvi
  replace Z0 := hide (box_keep Z0.out k1 (by omega))
  replace K0 := hide (K0.out.trans k1)
  have H1 := hide h1
  replace OI := hide OI
  have BI := hide BI
  clear h1 k1 H0
  go_wp2_with fail
  refine (pick R (q + 2000) 5 vb H1.out (by omega)).mono ?_
  rintro e vc ⟨x, rfl, x0, x1, -, h1, k1⟩
  obtain ⟨X, rfl⟩ : ∃ X : Nat, x = X := ⟨x.toNat, by omega⟩
  have X4 : X ≤ 4 := by have := x1 (by omega); omega
  have hRa : R < va.heap.size := Nat.lt_trans hR S0.out
  replace OI := hide (OwnF.turn OI.out k1.turn (Or.inl hRa))
  replace Z0 := hide (box_keep Z0.out k1 (by omega))
  replace K0 := hide (K0.out.trans k1)
  replace H1 := hide h1
  clear h1 k1 x0 x1
  go_wp2_with fail
  refine (words R (q + 2000 + 1) X vc H1.out (by omega) (by omega)).mono ?_
  rintro e vd ⟨qs, cs, is, rfl, lis, OS, BS, h1, k1⟩
  replace OI := hide (OwnF.turn OI.out k1.turn (Or.inl hRa))
  replace Z0 := hide (box_keep Z0.out k1 (by omega))
  replace K0 := hide (K0.out.trans k1)
  replace H1 := hide (h1.mono (q' := q + 2100) (by omega))
  clear h1 k1
  have RI : ∃ B, Row vd B (.slice (some ⟨gi, 0, none⟩) n ci) ws := by
    obtain ⟨B, hw, _⟩ := OwnF.wrow OI.out _ (Nat.le_refl _)
    have := (Blk.row_of_flat hw).row
    exact ⟨B, this⟩
  have RS : ∃ B, Row vd B (.slice qs X cs) is := by
    obtain ⟨B, hw, _⟩ := OwnF.wrow OS _ (Nat.le_refl _)
    exact ⟨B, (Blk.row_of_flat hw).row⟩
  have LV : Hid (R < vd.heap.size) := H1.out.lt
  obtain ⟨Bi, RI⟩ := RI
  obtain ⟨Bs, RS⟩ := RS
  obtain ⟨NE, OK⟩ := new_ok (ws := ws) (is := is) (by omega) BI.out BS
  have NE := hide NE
  have OK := hide OK
  clear BI BS OI OS
  go_wp2_with fail
  refine (Mch.specNew ws is Bi Bs _ _ vd RI RS (by omega)).mono ?_
  rintro e ve ⟨c, rfl, MW, hb⟩
  rw [NE.out] at MW
  clear RI RS NE
  replace Z0 := hide (Z0.out.below hb)
  replace K0 := hide (K0.out.trans (Keep.of_below hb))
  replace H1 := hide (H1.out.below (hb.mono (by have := H1.out.lt; omega)))
  clear hb
  have FR : Hid (∀ (irqs : List Int) (n : Nat), n ≤ 100 → Fits (runM irqs n (newM ws is)) ∧ okM (runM irqs n (newM ws is)) = true) := fun irqs n hn => run_fits OK.out (by omega) hn
  have FN : Hid (Fits (newM ws is)) := (FR.out [] 0 (by omega)).1
  obtain ⟨m, em⟩ : ∃ m, newM ws is = m := ⟨_, rfl⟩
  have EM := hide em
  rw [em] at MW OK FR FN
  clear em
  obtain ⟨q1, q2, q3, q4, n1, n2, n3, n4, k1, k2, k3, k4, rfl⟩ := Mch.WMach.forms MW
  obtain ⟨regs, pc, mem, save, lets, waits, halt, ins, outs, count⟩ := m
  simp only [mv] at MW ⊢
  have SX : Hid (w.heap.size < ve.heap.size) := Z0.out.r.lt
  have bX : Below ve.heap.size ve (ve.alloc (.cells #[.slice q1 n1 k1, .int .i64 pc, .slice q2 n2 k2, .int .i64 save, .bool lets, .bool waits, .int .i64 halt, .slice q3 n3 k3, .slice q4 n4 k4, .int .i64 count] 25)) := (Below.refl _ _).alloc (Nat.le_refl _) _
  have XB := hide (Box.new ve [.slice q1 n1 k1, .int .i64 pc, .slice q2 n2 k2, .int .i64 save, .bool lets, .bool waits, .int .i64 halt, .slice q3 n3 k3, .slice q4 n4 k4, .int .i64 count] 25)
  replace MW := hide (MW.below bX)
  replace Z0 := hide (Z0.out.below bX)
  replace K0 := hide (K0.out.trans (Keep.of_below bX))
  replace H1 := hide (H1.out.below (bX.mono (by have := H1.out.lt; omega)))
  clear bX
  go_wp2_with fail
  generalize ve.heap.size = X0 at XB SX ⊢
  generalize (ve.alloc (.cells #[.slice q1 n1 k1, .int .i64 pc, .slice q2 n2 k2, .int .i64 save, .bool lets, .bool waits, .int .i64 halt, .slice q3 n3 k3, .slice q4 n4 k4, .int .i64 count] 25)) = vf at XB MW Z0 K0 H1 ⊢
  refine (wpIn_wide (n := 0)).1 ?_
  have bA : Below vf.heap.size vf vf.drew := (Below.refl _ _).drew
  replace XB := hide (XB.out.below bA)
  replace MW := hide (MW.out.below bA)
  replace Z0 := hide (Z0.out.below bA)
  replace K0 := hide (K0.out.trans (Keep.of_below bA))
  replace H1 := hide (H1.out.below (bA.mono (by have := H1.out.lt; omega)))
  clear bA
  refine PhaseIn.region (S := fun v => Box X0 25 [.slice q1 n1 k1, .int .i64 pc, .slice q2 n2 k2, .int .i64 save, .bool lets, .bool waits, .int .i64 halt, .slice q3 n3 k3, .slice q4 n4 k4, .int .i64 count] v) 6 (by kernel_rfl) ?_
  generalize vf.drew = d1 at XB MW Z0 K0 H1 ⊢
  have hHeld : Box X0 25 [.slice q1 n1 k1, .int .i64 pc, .slice q2 n2 k2, .int .i64 save, .bool lets, .bool waits, .int .i64 halt, .slice q3 n3 k3, .slice q4 n4 k4, .int .i64 count] d1 := XB.out
  clear XB
  refine PhaseIn.takeD (i := 0) (v := ?_) [0, 5, 6] 11 rfl (by rfl) (by kernel_rfl) (by kernel_rfl) (by kernel_rfl) (by kernel_rfl) (by kernel_rfl) (fun _ _ _ h => h) (Or.inl ⟨by kernel_rfl, ?_⟩) hHeld ?_
  rotate_left
  · intro w' hSw
    (try dsimp only at hSw)
    have z0 := hSw.r.cell 0 _ rfl
    have z1 := hSw.r.cell 1 _ rfl
    have z2 := hSw.r.cell 2 _ rfl
    have z3 := hSw.r.cell 3 _ rfl
    have z4 := hSw.r.cell 4 _ rfl
    have z5 := hSw.r.cell 5 _ rfl
    have z6 := hSw.r.cell 6 _ rfl
    have z7 := hSw.r.cell 7 _ rfl
    have z8 := hSw.r.cell 8 _ rfl
    have z9 := hSw.r.cell 9 _ rfl
    go_simp
    first | done | with_reducible rfl
  try simp only [Act.put, List.setIfInBounds_toArray, List.set]
  refine PhaseIn.takeD (i := 1) (v := ?_) [1, 2, 4, 5, 6] 12 rfl (by rfl) (by kernel_rfl) (by kernel_rfl) (by kernel_rfl) (by kernel_rfl) (by kernel_rfl) (fun _ _ _ h => h) (Or.inl ⟨by kernel_rfl, ?_⟩) hHeld ?_
  rotate_left
  · intro w' hSw
    (try dsimp only at hSw)
    go_simp
    first | done | with_reducible rfl
  try simp only [Act.put, List.setIfInBounds_toArray, List.set]
  refine PhaseIn.takeD (i := 3) (v := ?_) [3, 4, 5, 6] 14 rfl (by rfl) (by kernel_rfl) (by kernel_rfl) (by kernel_rfl) (by kernel_rfl) (by kernel_rfl) (fun _ _ _ h => h) (Or.inl ⟨by kernel_rfl, ?_⟩) hHeld ?_
  rotate_left
  · intro w' hSw
    (try dsimp only at hSw)
    go_simp
    first | done | with_reducible rfl
  try simp only [Act.put, List.setIfInBounds_toArray, List.set]
  refine PhaseIn.one (i := 2) (by kernel_rfl) rfl (by kernel_rfl) (fun K hK => ?_)
  unfold Oper.wpIn
  refine ⟨fun _ _ => trivial, ?_⟩
  go_simp
  refine ⟨rfl, (callsIn_wide.2 (irqs R (q + 2100) d1 H1.out (by omega))).mono ?_⟩
  rintro e d2 ⟨qi, ki, li, xi, rfl, xl, xn, OI, h2, k2⟩
  replace hHeld := box_keep hHeld k2 (by have := SX.out; omega)
  have LZ : Hid (R < d1.heap.size) := H1.out.lt
  replace MW := hide (Mch.BMach.write (Mch.BMach.keep MW.out.bound (Mch.Keep.of_turn k2.turn) (fun b hb _ (e : b = R) => by have := LV.out; omega)))
  replace Z0 := hide (box_keep Z0.out k2 (by omega))
  replace K0 := hide (K0.out.trans k2)
  have H2 := hide h2
  replace OI := hide OI
  clear h2 k2 H1
  refine hK _ _ (fun _ => hHeld) ?_
  clear hK K
  try simp only [Act.put, List.setIfInBounds_toArray, List.set]
  refine PhaseIn.one (i := 4) (by kernel_rfl) rfl (by kernel_rfl) (fun K hK => ?_)
  unfold Oper.wpIn
  refine ⟨fun _ _ => trivial, ?_⟩
  go_simp
  refine ⟨rfl, (callsIn_wide.2 (pick R (q + 2100 + 5) 40 d2 H2.out (by omega))).mono ?_⟩
  rintro e d3 ⟨y, rfl, y0, y1, -, h2, k2⟩
  replace y1 := y1 (by omega)
  replace hHeld := box_keep hHeld k2 (by have := SX.out; omega)
  replace Z0 := hide (box_keep Z0.out k2 (by omega))
  replace K0 := hide (K0.out.trans k2)
  replace OI := hide (OwnF.turn OI.out k2.turn (Or.inl LZ.out))
  have MW3 := hide (Mch.BMach.write (Mch.BMach.keep MW.out.bound (Mch.Keep.of_turn k2.turn) (fun b hb _ (e : b = R) => by have := LV.out; omega)))
  clear MW
  have H3 := hide h2
  clear H2 h2 k2
  refine hK _ _ (fun _ => hHeld) ?_
  clear hK K
  try simp only [Act.put, List.setIfInBounds_toArray, List.set]
  obtain ⟨Y, rfl⟩ : ∃ Y : Nat, y = Y := ⟨y.toNat, by omega⟩
  have OIR : ∃ B, Row d3 B (.slice qi li ki) xi := by
    obtain ⟨B, hw, _⟩ := OwnF.wrow OI.out _ (Nat.le_refl _)
    exact ⟨B, (Blk.row_of_flat hw).row⟩
  refine PhaseIn.one (i := 5) (by kernel_rfl) rfl (by kernel_rfl) (fun K hK => ?_)
  unfold Oper.wpIn
  refine ⟨fun _ _ => trivial, ?_⟩
  go_simp
  obtain ⟨BI, OIR2⟩ := OIR
  refine ⟨rfl, (callsIn_wide.2 (Mch.specRunA _ xi Y _ _ _ d3 MW3.out.read OIR2 FN.out.near)).mono ?_⟩
  rintro e d4 ⟨c4, rfl, M4, hb⟩
  have Y39 : Y ≤ 100 := by omega
  rw [Mch.run_yes OK.out (by omega), Int.toNat_natCast] at M4
  obtain ⟨m4, e4⟩ : ∃ m4, runM xi Y ⟨regs, pc, mem, save, lets, waits, halt, ins, outs, count⟩ = m4 := ⟨_, rfl⟩
  have FO := FR.out xi Y Y39
  rw [e4] at M4 FO
  have S3 : w.heap.size ≤ d3.heap.size := K0.out.size
  have C4 : CMach d4 w.heap.size c4 m4 := by
    rcases M4 with h | ⟨_, h⟩
    · exact h.lowA S3
    · have := FO.2
      rw [h] at this
      exact absurd this (by decide)
  have F4 := hide FO.1
  clear M4 FO e4 OI OIR2 MW3 OK FR FN EM
  replace hHeld := hHeld.below hb
  replace Z0 := hide (Z0.out.below hb)
  replace K0 := hide (K0.out.trans (Keep.of_below hb))
  have H4 := hide (H3.out.below (hb.mono (by have := H3.out.lt; omega)))
  clear hb H3
  refine hK _ _ (fun _ => hHeld) ?_
  clear hK K
  try simp only [Act.put, List.setIfInBounds_toArray, List.set]
  obtain ⟨f1, g1, h1, f2, g2, h2, f3, g3, h3, f4, h4, rfl⟩ := Mch.forms C4
  obtain ⟨regs', pc', mem', save', lets', waits', halt', ins', outs', count'⟩ := m4
  simp only [mv] at C4 ⊢
  have HC := hide C4
  have HB := hide hHeld
  clear C4 hHeld
  refine PhaseIn.one (i := 6) (by kernel_rfl) rfl (by kernel_rfl) (fun K hK => ?_)
  refine layInM _ _ rfl X0 _ _ _ _ _ _ _ _ _ _ HB.out rfl _ _ _ _ _ _ _ _ _ _ _ _ _ _ _ _ _ _ rfl ?_
  intro ug XN TX
  have MQ : Hid (Mq R X0 w.heap.size w (q + 2106) ug) := ⟨⟨_, _, CMach.turn HC.out HB.out.t mach_int TX.out, XN.out, F4.out⟩, Z0.out.turn TX.out (by have := SX.out; omega), (rd_turn H4.out TX.out (by have := SX.out; omega) H4.out.lt), keep_up K0.out TX.out (by have := SX.out; omega)⟩
  clear HC HB TX XN F4 Z0 H4 K0
  refine hK _ _ (fun h => absurd h (by decide)) ?_
  clear hK K
  try simp only [Act.put, List.setIfInBounds_toArray, List.set]
  refine PhaseIn.done (by kernel_rfl) ?_ _
  have RX : Hid (w.heap.size ≤ X0 ∧ w.heap.size ≠ X0 ∧ X0 ≠ R ∧ w.heap.size ≠ R) := ⟨by have := SX.out; omega, by have := SX.out; omega, by have := SX.out; omega, by omega⟩
  clear S3 LV LZ SX hRa
  go_wp2_with fail
  refine (pick R (q + 2106) 4 ug MQ.out.rd (by omega)).mono ?_
  rintro e xa ⟨x, rfl, x0, x1, -, h1, k1⟩
  replace MQ := hide (MQ.out.step hR RX.out.2.2.1 RX.out.2.2.2 h1 k1)
  clear h1 k1
  go_upto_if 19 with fail
  go_cut [] (fun wx => Hid (Mq R X0 w.heap.size w (q + 2200) wx))
  case first =>
    by_cases hx : x = 0
    · subst hx
      go_wp2_with fail
      refine (words R (q + 2106 + 1) 4 xa MQ.out.rd (by omega) (by omega)).mono ?_
      rintro e xb ⟨qr, cr, rs, rfl, rl, RO, _, h1, k1⟩
      obtain ⟨q1, q2, q3, q4, n1, n2, n3, n4, k1_, k2_, k3_, k4_, m, hc, hb, hf⟩ := MQ.out.open
      obtain ⟨regs, pc, mem, save, lets, waits, halt, ins, outs, count⟩ := m
      obtain ⟨gr, rfl⟩ : ∃ gr, qr = some ⟨gr, 0, none⟩ := by
        have RO2 := RO
        unfold OwnN at RO2
        rw [rl] at RO2
        rcases OwnF.q_form RO2 with ⟨_, _, e0, _⟩ | h
        · omega
        · exact h
      have C2 := cm_regs hc (cm_keep hc hR k1) MQ.out.kp.size RO rl
      have hb2 := box_keep hb k1 RX.out.2.2.1
      have c0 := hb2.r.cell 0 _ rfl
      have f0 := hb2.r.soft 0
      have FIN := hide (mq_set (fun _ => C2) (cm_keep hc hR k1) hb2 ⟨rl, hf.e, hf.i, hf.o⟩ (box_keep MQ.out.z k1 RX.out.2.2.2) (h1.mono (q' := q + 2200) (by omega)) (MQ.out.kp.trans k1) RX.out.1 hR RX.out.2.1 0 (.slice (some ⟨gr, 0, none⟩) 4 cr) (by simp [mv]) rfl)
      clear MQ hc hb hf C2 hb2 h1 k1 RO
      go_wp2_with fail
      go_meet
      exact FIN
    · have hx0 : (x == 0) = false := beq_eq_false_iff_ne.2 hx
      go_wp2_with fail
      go_meet
      exact hide (MQ.out.mono (by omega))
  case rest =>
  replace MQ := hcut
  clear x0 x1 x
  go_wp2_with fail
  refine (pick R (q + 2200) 6 wc MQ.out.rd (by omega)).mono ?_
  rintro e ya ⟨x, rfl, x0, x1, -, h1, k1⟩
  replace MQ := hide (MQ.out.step hR RX.out.2.2.1 RX.out.2.2.2 h1 k1)
  clear h1 k1
  go_upto_if 25 with fail
  go_cut [] (fun wx => Hid (Mq R X0 w.heap.size w (q + 2300) wx))
  case first =>
    by_cases hx : x = 0
    · subst hx
      obtain ⟨y6, c6, f6, n6⟩ := MQ.out.halt RX.out.1 hR RX.out.2.1
      have M6 := hide (n6 0)
      clear MQ n6
      go_wp2_with fail
      generalize ya.setCell ⟨X0, 6, none⟩ (.int .i64 0) = yb at M6 ⊢
      refine (pick R (q + 2200 + 1) 66 yb M6.out.rd (by omega)).mono ?_
      rintro e yc ⟨z, rfl, -, -, -, h1, k1⟩
      replace M6 := hide (M6.out.step hR RX.out.2.2.1 RX.out.2.2.2 h1 k1)
      clear h1 k1
      obtain ⟨y1, c1, f1, n1⟩ := M6.out.pc RX.out.1 hR RX.out.2.1
      have M1 := hide ((n1 z).mono (q' := q + 2300) (by omega))
      clear M6 n1
      go_wp2_with fail
      go_meet
      exact M1
    · have hx0 : (x == 0) = false := beq_eq_false_iff_ne.2 hx
      go_wp2_with fail
      go_meet
      exact hide (MQ.out.mono (by omega))
  case rest =>
  replace MQ := hcut
  clear x0 x1 x
  go_wp2_with fail
  refine (odd R (q + 2300) 9 wc MQ.out.rd (by omega) (by omega) (by omega)).mono ?_
  rintro e za ⟨b, rfl, h1, k1⟩
  replace MQ := hide (MQ.out.step hR RX.out.2.2.1 RX.out.2.2.2 h1 k1)
  clear h1 k1
  go_upto_if 31 with fail
  go_cut [] (fun wx => Hid (Mq R X0 w.heap.size w (q + 2400) wx))
  case first =>
    cases b with
    | true =>
      obtain ⟨y5, c5, f5, n5⟩ := MQ.out.waits RX.out.1 hR RX.out.2.1
      have M5 := hide ((n5 true).mono (q' := q + 2400) (by omega))
      clear MQ n5
      go_wp2_with fail
      go_meet
      exact M5
    | false =>
      go_wp2_with fail
      go_meet
      exact hide (MQ.out.mono (by omega))
  case rest =>
  replace MQ := hcut
  clear b
  go_wp2_with fail
  refine (odd R (q + 2400) 9 wc MQ.out.rd (by omega) (by omega) (by omega)).mono ?_
  rintro e zb ⟨b, rfl, h1, k1⟩
  replace MQ := hide (MQ.out.step hR RX.out.2.2.1 RX.out.2.2.2 h1 k1)
  clear h1 k1
  go_upto_if 34 with fail
  go_cut [] (fun wx => Hid (Mq R X0 w.heap.size w (q + 2500) wx))
  case first =>
    cases b with
    | true =>
      obtain ⟨y4, c4, f4, n4⟩ := MQ.out.lets RX.out.1 hR RX.out.2.1
      have M4 := hide ((n4 (!y4)).mono (q' := q + 2500) (by omega))
      clear MQ n4
      go_wp2_with fail
      go_meet
      exact M4
    | false =>
      go_wp2_with fail
      go_meet
      exact hide (MQ.out.mono (by omega))
  case rest =>
  replace MQ := hcut
  clear b
  obtain ⟨q1, q2, q3, q4, n1, n2, n3, n4, k1_, k2_, k3_, k4_, m, hc, hb, hf⟩ := MQ.out.open
  obtain ⟨regs, pc, mem, save, lets, waits, halt, ins, outs, count⟩ := m
  simp only [mv] at hc hb
  have Z0 := hide MQ.out.z
  have H1 := hide MQ.out.rd
  have K0 := hide MQ.out.kp
  have HF := hide hf
  have HC := hide hc
  have NE : Hid (Box w.heap.size 25 [.slice none 0 0, .int .i64 0, .slice none 0 0, .int .i64 0, .bool false, .bool false, .int .i64 0, .slice none 0 0, .slice none 0 0, .int .i64 0] wc) := Z0
  clear MQ hf hc
  have x0 := hb.r.cell 0 _ rfl
  have x1 := hb.r.cell 1 _ rfl
  have x2 := hb.r.cell 2 _ rfl
  have x3 := hb.r.cell 3 _ rfl
  have x4 := hb.r.cell 4 _ rfl
  have x5 := hb.r.cell 5 _ rfl
  have x6 := hb.r.cell 6 _ rfl
  have x7 := hb.r.cell 7 _ rfl
  have x8 := hb.r.cell 8 _ rfl
  have x9 := hb.r.cell 9 _ rfl
  clear hb
  go_wp2_with (refine Mch.wpList_lay rfl rfl _ _ rfl w.heap.size _ _ _ _ _ _ _ _ _ _ Z0.out rfl _ _ _ _ _ _ _ _ _ _ _ _ _ _ _ _ _ _ rfl ?_; intro u9 RB TB; refine Hid.out ?_)
  have FIN : Hid (CMach u9 w.heap.size [.slice q1 n1 k1_, .int .i64 pc, .slice q2 n2 k2_, .int .i64 save, .bool lets, .bool waits, .int .i64 halt, .slice q3 n3 k3_, .slice q4 n4 k4_, .int .i64 count] ⟨regs, pc, mem, save, lets, waits, halt, ins, outs, count⟩ ∧ Rd R (q + 3000) u9 ∧ Keep R w u9) := ⟨CMach.turn HC.out Z0.out.t mach_int TB.out, (rd_turn H1.out TB.out (by omega) H1.out.lt).mono (by omega), keep_up K0.out TB.out (Nat.le_refl _)⟩
  clear x0 x1 x2 x3 x4 x5 x6 x7 x8 x9 HC H1 K0 Z0 NE TB
  refine hide ?_
  have z0 := RB.out.r.cell 0 _ rfl
  have z1 := RB.out.r.cell 1 _ rfl
  have z2 := RB.out.r.cell 2 _ rfl
  have z3 := RB.out.r.cell 3 _ rfl
  have z4 := RB.out.r.cell 4 _ rfl
  have z5 := RB.out.r.cell 5 _ rfl
  have z6 := RB.out.r.cell 6 _ rfl
  have z7 := RB.out.r.cell 7 _ rfl
  have z8 := RB.out.r.cell 8 _ rfl
  have z9 := RB.out.r.cell 9 _ rfl
  clear RB
  go_wp2_with fail
  exact bodyPost_ret (v := .agg #[.slice q1 n1 k1_, .int .i64 pc, .slice q2 n2 k2_, .int .i64 save, .bool lets, .bool waits, .int .i64 halt, .slice q3 n3 k3_, .slice q4 n4 k4_, .int .i64 count]) (by simp [results, Tryz.results52, go_sem, z0, z1, z2, z3, z4, z5, z6, z7, z8, z9]) rfl ⟨_, _, rfl, FIN.out.1, HF.out, FIN.out.2.1, FIN.out.2.2⟩
end Go.Proofs.YtnhpmbhphbphaaaGreat.Draw
