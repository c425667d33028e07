/-
  Draws: a machine, one in so many with something wrong (l20MachOr).
-/
import Derived.Test.YtnhpmbhphbphaaaGreatDrawZ
namespace Go.Proofs.YtnhpmbhphbphaaaGreat.Draw
set_option linter.unusedVariables false
set_option linter.unusedSimpArgs false
open Go.ChangeShapes Go.WideShapes Go.ChangeAt Go.RowKit Flat
open IntS (Turn hide cell_below Row WRow IsT Own)
open Mch (Rec Box M mv RMach WMach CMach AMach IsR okM mach_int Near)
open Blk (OwnN)
structure Fit2 (m : M) : Prop where
  r : m.regs.length ≤ 5
  e : m.mem.length ≤ 64
  i : m.ins.length ≤ 100
  o : m.outs.length ≤ 101
theorem Fits.two {m : M} (h : Fits m) : Fit2 m := ⟨by have := h.r; omega, by have := h.e; omega, h.i, by have := h.o; omega⟩
theorem Fit2.near {m : M} (h : Fit2 m) : Near m := ⟨by have := h.r; omega, by have := h.e; omega, by have := h.i; omega, by have := h.o; omega⟩
/-- A machine in a box of its own, with something wrong perhaps. -/
structure Mo (R X Z : Nat) (w : World) (q : Nat) (u : World) : Prop where
  ex : ∃ (c : List Value) (m : M), CMach u w.heap.size c m ∧ Box X 25 c u ∧ Fit2 m
  z : Box Z 25 [.slice none 0 0, .int .i64 0, .slice none 0 0, .int .i64 0, .bool false, .bool false, .int .i64 0, .slice none 0 0, .slice none 0 0, .int .i64 0] u
  rd : Rd R q u
  kp : Keep R w u
theorem Mq.two {R X Z q q' : Nat} {w u : World} (h : Mq R X Z w q u) (hq : q ≤ q') : Mo R X Z w q' u := by
  obtain ⟨⟨c, m, hc, hb, hf⟩, hz, hr, hk⟩ := h
  exact ⟨⟨c, m, hc, hb, hf.two⟩, hz, hr.mono hq, hk⟩
theorem mo_set {R X Z q : Nat} {w u : World} {c c' : List Value} {m' : M} (hc : CMach u w.heap.size c' m') (hb : Box X 25 c u) (hf : Fit2 m') (hz : Box Z 25 [.slice none 0 0, .int .i64 0, .slice none 0 0, .int .i64 0, .bool false, .bool false, .int .i64 0, .slice none 0 0, .slice none 0 0, .int .i64 0] u) (hr : Rd R q u) (hk : Keep R w u) (hX : w.heap.size ≤ X) (hR : R < w.heap.size) (hZ : Z ≠ X) (i : Nat) (v : Value) (hi : i < c.length) (he : c.set i v = c') : Mo R X Z w q (u.setCell ⟨X, i, none⟩ v) := by
  have T : Turn X u (u.setCell ⟨X, i, none⟩ v) := (Turn.refl X u).setCell rfl _
  exact ⟨⟨c', m', CMach.turn hc hb.t mach_int T, hb.set i v hi he, hf⟩, hz.turn T hZ, rd_turn hr T (by omega) hr.lt, keep_up hk T hX⟩
/-- Opened, lengths that are known written out. -/
theorem Mq.shape {R X Z q : Nat} {w u : World} (h : Mq R X Z w q u) : ∃ (b1 o1 k1 b2 o2 k2 b3 o3 k3 b4 k4 : Nat) (m : M), m.regs.length = 4 ∧ m.mem.length = 64 ∧ m.ins.length ≤ 100 ∧ m.outs.length ≤ 100 ∧
    WRow u b1 (.slice (some ⟨b1, o1, none⟩) 4 k1) m.regs ∧ WRow u b2 (.slice (some ⟨b2, o2, none⟩) 64 k2) m.mem ∧ WRow u b3 (.slice (some ⟨b3, o3, none⟩) m.ins.length k3) m.ins ∧ Own u w.heap.size (.slice (some ⟨b4, 0, none⟩) m.outs.length k4) m.outs ∧
    (w.heap.size ≤ b1 ∧ w.heap.size ≤ b2 ∧ w.heap.size ≤ b3 ∧ w.heap.size ≤ b4) ∧ (b1 ≠ b2 ∧ b1 ≠ b3 ∧ b1 ≠ b4 ∧ b2 ≠ b3 ∧ b2 ≠ b4 ∧ b3 ≠ b4) ∧ (IsR u b1 o1 k1 ∧ IsT u b2 3 ∧ IsT u b3 3 ∧ IsT u b4 3) ∧
    Box X 25 (mv m (.slice (some ⟨b1, o1, none⟩) 4 k1) (.slice (some ⟨b2, o2, none⟩) 64 k2) (.slice (some ⟨b3, o3, none⟩) m.ins.length k3) (.slice (some ⟨b4, 0, none⟩) m.outs.length k4)) u := by
  obtain ⟨⟨c, m, hc, hb, hf⟩, _⟩ := h
  obtain ⟨b1, b2, b3, b4, o1, o2, o3, k1, k2, k3, k4, rfl, h1, h2, h3, h4, hl, hd, ht⟩ := hc
  rw [hf.r] at h1 hb
  rw [hf.e] at h2 hb
  exact ⟨b1, o1, k1, b2, o2, k2, b3, o3, k3, b4, k4, m, hf.r, hf.e, hf.i, hf.o, h1, h2, h3, h4, hl, hd, ht, hb⟩
/-- One more int behind a row that has room, or has not. -/
theorem run_pushR {u : World} {ty : TypeId} {b o k n S : Nat} {xs : List Int} {y : Int} (hw : WRow u b (.slice (some ⟨b, o, none⟩) n k) xs) (hr : IsR u b o k) (hl : xs.length = n) (n1 : 1 ≤ n) (n2 : n ≤ 1000) (hc : u.cell? ⟨S, 0, none⟩ = some (.int .i64 y)) :
    ∃ g' o' k' w', (Builtin.append_ #[23, 23] ty #[.slice (some ⟨b, o, none⟩) n k, .slice (some ⟨S, 0, none⟩) 1 1]).run Tryz.prog u = .ok (.slice (some ⟨g', o', none⟩) (n + 1) k') w' ∧ WRow w' g' (.slice (some ⟨g', o', none⟩) (n + 1) k') (xs ++ [y]) ∧ IsR w' g' o' k' ∧ (g' = b ∨ u.heap.size ≤ g') ∧ Turn b u w' := by
  subst hl
  obtain ⟨i0, hi, hz, hsz, hby⟩ := IntS.info_int
  obtain ⟨a, cap, off, hv, q1, q2, _, q4⟩ := hw
  cases hv
  rcases q4 with q4 | ⟨e, hlt, hcell⟩
  · subst q4
    simp at n1
  cases e
  have hnews : ∀ j v, ([.int .i64 y] : List Value)[j]? = some v → u.cell? ((⟨S, 0, none⟩ : Addr).add j) = some v := fun j v hv => by
    match j, hv with
    | 0, hv => cases hv; exact hc
    | j + 1, hv => simp at hv
  have hone : ∀ v ∈ ([.int .i64 y] : List Value), v.oneCell' = true := fun v hv => by simp at hv; subst hv; rfl
  by_cases room : xs.length + 1 ≤ k
  · have hrun := run_append_room_cells (P := Tryz.prog) u 23 ty 3 i0 Tryz.underlying23 hi b o xs.length k ⟨S, 0, none⟩ 1 1 [.int .i64 y] (by rw [hsz]; rfl) hnews hone room (fun j hj => by
      have hj0 : j = 0 := by simpa using hj
      subst hj0
      have := (hr.room xs.length (by omega)).1
      rw [hsz]
      simpa using this) (fun j hj => by
      have hj0 : j = 0 := by simpa using hj
      subst hj0
      have := (hr.room xs.length (by omega)).2
      rw [hsz]
      simpa using this)
    rw [hsz, Nat.mul_one] at hrun
    have T : Turn b u (u.setCell ⟨b, o + xs.length, none⟩ (.int .i64 y)) := (Turn.refl b u).setCell rfl _
    refine ⟨b, o, k, _, hrun, ?_, hr.set _ _, Or.inl rfl, T⟩
    refine ⟨some ⟨b, o, none⟩, k, o, by rw [List.length_append]; rfl, by rw [List.length_append]; exact room, q2, (fun h => by cases h), Or.inr ⟨rfl, Nat.lt_of_lt_of_le hlt T.size, fun i x hx => ?_⟩⟩
    by_cases e : i = xs.length
    · subst e
      rw [List.getElem?_append_right (Nat.le_refl _)] at hx
      simp at hx
      subst hx
      obtain ⟨z, hz⟩ := Option.isSome_iff_exists.1 (hr.room xs.length (by omega)).1
      exact ⟨World.cell?_setCell_same u _ _ hz, (World.frozen?_setCell ..).trans (hr.room xs.length (by omega)).2⟩
    · have hi' : i < xs.length := by
        have := (List.getElem?_eq_some_iff.1 hx).1
        simp at this
        omega
      rw [List.getElem?_append_left hi'] at hx
      obtain ⟨c1, c2⟩ := hcell i x hx
      exact ⟨(World.cell?_setCell_other u _ _ _ (by intro e2; injection e2 with _ e3; omega)).trans c1, (World.frozen?_setCell ..).trans c2⟩
  · obtain ⟨v', w', hrun, g1, g2⟩ := run_append_arg_grows (P := Tryz.prog) u 23 ty 3 i0 (.int .i64 0) 1 8 Tryz.underlying23 hi hz hsz hby rfl (by decide) ⟨b, o, none⟩ xs.length k (IntS.vals xs) (by rw [IntS.vals_len]; omega) (fun j v hj => by
      simp only [IntS.vals, List.getElem?_map, Option.map_eq_some_iff] at hj
      obtain ⟨x, hx, rfl⟩ := hj
      rw [Addr.add_lit]
      exact (hcell j x hx).1) ⟨S, 0, none⟩ 1 1 [.int .i64 y] rfl hnews (by omega) (by unfold maxLen; omega) (by omega)
    have e3 : xs.length + 1 = (xs ++ [y]).length := by simp
    have g1' : Own w' u.heap.size v' (xs ++ [y]) := by
      unfold Own
      rw [← e3, show IntS.vals (xs ++ [y]) = IntS.vals xs ++ [.int .i64 y] by simp [IntS.vals]]
      exact g1
    have hne : ¬ v' = .slice none 0 0 := fun e => by
      obtain ⟨hl0, h0 | ⟨g, c, _, hv, _⟩⟩ := g1
      · exact absurd h0.2 (by omega)
      · rw [hv] at e; cases e
    obtain ⟨g', cap', rfl, z1, z2, z3⟩ := g1'.form hne
    rw [← e3] at hrun z3
    rw [← e3] at g1'
    exact ⟨g', 0, cap', w', hrun, z3, IsR.of_own g1', Or.inr z1, Turn.of_below ⟨g2.os, g2.tape, g2.output, g2.size, fun k hk => g2.block k hk (by simp)⟩⟩
theorem Mq.save {R X Z q : Nat} {w u : World} (h : Mq R X Z w q u) (hX : w.heap.size ≤ X) (hR : R < w.heap.size) (hZ : Z ≠ X) : ∃ y, u.cell? ⟨X, 3, none⟩ = some (.int .i64 y) ∧ u.frozen? ⟨X, 3, none⟩ = false ∧ ∀ v : Int, Mq R X Z w q (u.setCell ⟨X, 3, none⟩ (.int .i64 v)) := by
  obtain ⟨q1, q2, q3, q4, n1, n2, n3, n4, k1, k2, k3, k4, m, hc, hb, hf⟩ := h.open
  obtain ⟨regs, pc, mem, save, lets, waits, halt, ins, outs, count⟩ := m
  exact ⟨_, hb.r.cell 3 _ rfl, hb.r.soft 3, fun v => mq_set (fun h => CMach.plain (pc' := pc) (save' := v) (lets' := lets) (waits' := waits) (halt' := halt) (count' := count) h) hc hb ⟨hf.r, hf.e, hf.i, hf.o⟩ h.z h.rd h.kp hX hR hZ 3 _ (by simp [mv]) rfl⟩
theorem Mq.count {R X Z q : Nat} {w u : World} (h : Mq R X Z w q u) (hX : w.heap.size ≤ X) (hR : R < w.heap.size) (hZ : Z ≠ X) : ∃ y, u.cell? ⟨X, 9, none⟩ = some (.int .i64 y) ∧ u.frozen? ⟨X, 9, none⟩ = false ∧ ∀ v : Int, Mq R X Z w q (u.setCell ⟨X, 9, none⟩ (.int .i64 v)) := by
  obtain ⟨q1, q2, q3, q4, n1, n2, n3, n4, k1, k2, k3, k4, m, hc, hb, hf⟩ := h.open
  obtain ⟨regs, pc, mem, save, lets, waits, halt, ins, outs, count⟩ := m
  exact ⟨_, hb.r.cell 9 _ rfl, hb.r.soft 9, fun v => mq_set (fun h => CMach.plain (pc' := pc) (save' := save) (lets' := lets) (waits' := waits) (halt' := halt) (count' := v) h) hc hb ⟨hf.r, hf.e, hf.i, hf.o⟩ h.z h.rd h.kp hX hR hZ 9 _ (by simp [mv]) rfl⟩
theorem row_tail {u : World} {b o k : Nat} {xs : List Int} (h : WRow u b (.slice (some ⟨b, o, none⟩) 64 k) xs) (hl : xs.length = 64) : WRow u b (.slice (some ⟨b, o + 1, none⟩) 63 (k - 1)) xs.tail ∧ 64 ≤ k := by
  obtain ⟨a, cap, off, hv, q1, q2, _, q4⟩ := h
  have ht : xs.tail.length = 63 := by rw [List.length_tail, hl]
  rw [hl] at hv q1
  cases hv
  rcases q4 with q4 | ⟨e, hlt, hcell⟩
  · rw [q4] at hl
    cases hl
  cases e
  refine ⟨⟨some ⟨b, o + 1, none⟩, k - 1, o + 1, by rw [ht], by rw [ht]; omega, by omega, (fun h => by cases h), Or.inr ⟨rfl, hlt, fun i x hx => ?_⟩⟩, q1⟩
  rw [show o + 1 + i = o + (i + 1) by omega]
  exact hcell (i + 1) x (by rw [List.getElem?_tail] at hx; exact hx)
set_option maxRecDepth 8000 in
set_option maxHeartbeats 16000000 in
theorem machOr (R q : Nat) (n : Int) (w : World) (h : Rd R q w) (hq : q ≤ 300000) (hn : 1 ≤ n) (hn2 : n ≤ 1000) :
    Calls Tryz.prog 30 #[.pointer (some ⟨R, 0, none⟩), .int .i64 n] w fun e w' => ∃ (c : List Value) (m : M), e = .returned (.agg c.toArray) ∧ CMach w' w.heap.size c m ∧ Fit2 m ∧ Rd R (q + 4000) w' ∧ Keep R w w' := by
  have hR := h.lt
  have Z0 := hide (Box.new w [.slice none 0 0, .int .i64 0, .slice none 0 0, .int .i64 0, .bool false, .bool false, .int .i64 0, .slice none 0 0, .slice none 0 0, .int .i64 0] 25)
  have K0 : Hid (Keep R w (w.alloc (.cells #[.slice none 0 0, .int .i64 0, .slice none 0 0, .int .i64 0, .bool false, .bool false, .int .i64 0, .slice none 0 0, .slice none 0 0, .int .i64 0] 25))) := (Keep.refl R w).alloc _
  have H0 := hide (h.alloc (.cells #[.slice none 0 0, .int .i64 0, .slice none 0 0, .int .i64 0, .bool false, .bool false, .int .i64 0, .slice none 0 0, .slice none 0 0, .int .i64 0] 25))
  have S0 : Hid (w.heap.size < (w.alloc (.cells #[.slice none 0 0, .int .i64 0, .slice none 0 0, .int .i64 0, .bool false, .bool false, .int .i64 0, .slice none 0 0, .slice none 0 0, .int .i64 0] 25)).heap.size) := by simp [Hid]
  clear h
  go_enter Tryz.func30, Tryz.ntmps30
  go_wp2_with fail
  generalize (w.alloc (.cells #[.slice none 0 0, .int .i64 0, .slice none 0 0, .int .i64 0, .bool false, .bool false, .int .i64 0, .slice none 0 0, .slice none 0 0, .int .i64 0] 25)) = va at Z0 K0 H0 S0 ⊢
  refine (mach R q va H0.out (by omega)).mono ?_
  rintro e vb ⟨c, m, rfl, MC, MF, h1, k1⟩
  replace Z0 := hide (box_keep Z0.out k1 (by omega))
  replace K0 := hide (K0.out.trans k1)
  have H1 := hide h1
  have LA : w.heap.size ≤ va.heap.size := Nat.le_of_lt S0.out
  replace MC := MC.lowA LA
  clear h1 k1 H0
  obtain ⟨b1, o1, k1, b2, o2, k2, b3, o3, k3, b4, k4, rfl⟩ := Mch.forms MC
  obtain ⟨regs, pc, mem, save, lets, waits, halt, ins, outs, count⟩ := m
  simp only [mv] at MC ⊢
  have SX : Hid (w.heap.size < vb.heap.size) := Z0.out.r.lt
  have MQ : Hid (Mq R vb.heap.size w.heap.size w (q + 3000) (vb.alloc (.cells #[.slice (some ⟨b1, o1, none⟩) regs.length k1, .int .i64 pc, .slice (some ⟨b2, o2, none⟩) mem.length k2, .int .i64 save, .bool lets, .bool waits, .int .i64 halt, .slice (some ⟨b3, o3, none⟩) ins.length k3, .slice (some ⟨b4, 0, none⟩) outs.length k4, .int .i64 count] 25))) := by
    have bX : Below vb.heap.size vb (vb.alloc (.cells #[.slice (some ⟨b1, o1, none⟩) regs.length k1, .int .i64 pc, .slice (some ⟨b2, o2, none⟩) mem.length k2, .int .i64 save, .bool lets, .bool waits, .int .i64 halt, .slice (some ⟨b3, o3, none⟩) ins.length k3, .slice (some ⟨b4, 0, none⟩) outs.length k4, .int .i64 count] 25)) := (Below.refl _ _).alloc (Nat.le_refl _) _
    exact ⟨⟨_, _, MC.below bX, Box.new vb [.slice (some ⟨b1, o1, none⟩) regs.length k1, .int .i64 pc, .slice (some ⟨b2, o2, none⟩) mem.length k2, .int .i64 save, .bool lets, .bool waits, .int .i64 halt, .slice (some ⟨b3, o3, none⟩) ins.length k3, .slice (some ⟨b4, 0, none⟩) outs.length k4, .int .i64 count] 25, MF⟩, Z0.out.below bX, H1.out.below (bX.mono (by have := H1.out.lt; omega)), K0.out.trans (Keep.of_below bX)⟩
  have RX : Hid (w.heap.size ≤ vb.heap.size ∧ w.heap.size ≠ vb.heap.size ∧ vb.heap.size ≠ R ∧ w.heap.size ≠ R) := ⟨by have := SX.out; omega, by have := SX.out; omega, by have := SX.out; omega, by omega⟩
  clear MC MF Z0 K0 H1 S0 SX LA
  go_wp2_with fail
  generalize (vb.alloc (.cells #[.slice (some ⟨b1, o1, none⟩) regs.length k1, .int .i64 pc, .slice (some ⟨b2, o2, none⟩) mem.length k2, .int .i64 save, .bool lets, .bool waits, .int .i64 halt, .slice (some ⟨b3, o3, none⟩) ins.length k3, .slice (some ⟨b4, 0, none⟩) outs.length k4, .int .i64 count] 25)) = vc at MQ ⊢
  generalize vb.heap.size = X at MQ RX ⊢
  refine (odd R (q + 3000) n vc MQ.out.rd (by omega) hn hn2).mono ?_
  rintro e vd ⟨b, rfl, h1, k1⟩
  replace MQ := hide (MQ.out.step hR RX.out.2.2.1 RX.out.2.2.2 h1 k1)
  clear h1 k1
  go_upto_if 10 with fail
  go_cut [] (fun wx => Hid (Mo R X w.heap.size w (q + 3100) wx))
  case first =>
    cases b with
    | false =>
      go_wp2_with fail
      go_meet
      exact hide (MQ.out.two (by omega))
    | true =>
      go_wp2_with fail
      refine (pick R (q + 3000 + 1) 8 vd MQ.out.rd (by omega)).mono ?_
      rintro e ve ⟨x, rfl, x0, x1, -, h1, k1⟩
      replace x1 := x1 (by omega)
      replace MQ := hide (MQ.out.step hR RX.out.2.2.1 RX.out.2.2.2 h1 k1)
      clear h1 k1
      by_cases c0 : x = 0
      · subst c0
        obtain ⟨b1, o1, k1, b2, o2, k2, b3, o3, k3, b4, k4, m, lr, le, li, lo, r1, r2, r3, r4, ⟨e1, e2, e3, e4⟩, ⟨d1, d2, d3, d4, d5, d6⟩, ⟨t1, t2, t3, t4⟩, hb⟩ := MQ.out.shape
        obtain ⟨regs, pc, mem, save, lets, waits, halt, ins, outs, count⟩ := m
        simp only [mv] at hb lr le li lo r1 r2 r3 r4
        have bo : Below ve.heap.size ve (ve.alloc (.cells #[.int .i64 1] 3)) := (Below.refl _ _).alloc (Nat.le_refl _) _
        obtain ⟨g', o', k', w', hrun, RN, IN, hg, TT⟩ := run_pushR (ty := 23) (S := ve.heap.size) (y := 1) (r1.below bo) (t1.below bo) lr (by omega) (by omega) (by simp)
        have x0' := hb.r.cell 0 _ rfl
        have BN := (hb.below bo).turn TT (by have := hb.t.ne t1.t mach_int; omega)
        have s2 := t2.lt
        have s3 := t3.lt
        have s4 := t4.lt
        have s1 := t1.lt
        have bsz := bo.size
        have nb := hb.t.ne t1.t mach_int
        have nz := MQ.out.z.t.ne t1.t mach_int
        have CN : CMach w' w.heap.size (mv ⟨regs ++ [1], pc, mem, save, lets, waits, halt, ins, outs, count⟩ (.slice (some ⟨g', o', none⟩) 5 k') (.slice (some ⟨b2, o2, none⟩) 64 k2) (.slice (some ⟨b3, o3, none⟩) ins.length k3) (.slice (some ⟨b4, 0, none⟩) outs.length k4)) ⟨regs ++ [1], pc, mem, save, lets, waits, halt, ins, outs, count⟩ := by
          have lg : w.heap.size ≤ g' := by have := MQ.out.kp.size; omega
          refine ⟨g', b2, b3, b4, o', o2, o3, k', k2, k3, k4, ?_, ?_, ?_, (r3.below bo).turn TT (by omega), (r4.turn (Turn.of_below bo) (B := b4 + 1) (by omega) s4).turn TT (by omega) (by omega), ⟨lg, e2, e3, e4⟩, ⟨by omega, by omega, by omega, d4, d5, d6⟩, IN, (t2.below bo).turn TT (by omega), (t3.below bo).turn TT (by omega), (t4.below bo).turn TT (by omega)⟩
          · simp only [List.length_append, lr, le, List.length_cons, List.length_nil]
          · have h5 : (regs ++ [1]).length = 5 := by simp [lr]
            simp only [h5]
            exact RN
          · have := (r2.below bo).turn TT (B := b2) (by omega)
            simp only [le]
            exact this
        have f0 := BN.r.soft 0
        have c0 := BN.r.cell 0 _ rfl
        have FIN := hide (mo_set (R := R) (Z := w.heap.size) (q := q + 3100) CN BN ⟨by simp [lr], by simp [le], li, by show outs.length ≤ 101; omega⟩ ((MQ.out.z.below bo).turn TT nz) ((rd_turn (MQ.out.rd.below (bo.mono (by have := MQ.out.rd.lt; omega))) TT (by omega) (by have := MQ.out.rd.lt; omega)).mono (by omega)) (keep_up (MQ.out.kp.trans (Keep.of_below bo)) TT e1) RX.out.1 hR RX.out.2.1 0 (.slice (some ⟨g', o', none⟩) 5 k') (by simp) rfl)
        clear MQ RN IN hg TT r1 r2 r3 r4 t1 t2 t3 t4 hb bo BN CN lr le li lo s1 s2 s3 s4 bsz nb nz e1 e2 e3 e4 d1 d2 d3 d4 d5 d6
        go_wp2_with (at_builtin; refine push_list rfl _ _ rfl rfl rfl hrun ?_; refine Hid.out ?_)
        clear hrun
        refine hide ?_
        go_wp2_with fail
        go_meet
        exact FIN
      have m0 : (x == 0) = false := beq_eq_false_iff_ne.2 c0
      by_cases c1 : x = 1
      · subst c1
        clear m0
        have SE : Hid (R < ve.heap.size) := MQ.out.rd.lt
        have bo : Below ve.heap.size ve (ve.alloc (.cells #[.int .i64 (-1), .int .i64 65536, .int .i64 65535] 3)) := (Below.refl _ _).alloc (Nat.le_refl _) _
        replace MQ := hide (MQ.out.step hR RX.out.2.2.1 RX.out.2.2.2 (MQ.out.rd.below (bo.mono (by have := MQ.out.rd.lt; omega))) (Keep.of_below bo))
        clear bo
        go_wp2_with fail
        refine (pick R (q + 3000 + 1 + 1) 3 _ MQ.out.rd (by omega)).mono ?_
        rintro e vf ⟨y, rfl, y0, y1, -, h1, k1⟩
        replace y1 := y1 (by omega)
        obtain ⟨z, hz⟩ := cellsAny ve [-1, 65536, 65535] 3 y y0 y1
        replace hz : vf.cell? ⟨ve.heap.size, y.toNat, none⟩ = some (.int .i64 z) := (k1.cell (p := ⟨ve.heap.size, y.toNat, none⟩) (by simp) (by have := SE.out; show ve.heap.size ≠ R; omega)).trans hz
        replace MQ := hide (MQ.out.step hR RX.out.2.2.1 RX.out.2.2.2 h1 k1)
        clear h1 k1
        obtain ⟨yo, co, fo, no⟩ := MQ.out.pc RX.out.1 hR RX.out.2.1
        have FIN := hide ((no z).two (q' := q + 3100) (by omega))
        clear MQ no
        go_wp2_with fail
        go_meet
        exact FIN
      have m1 : (x == 1) = false := beq_eq_false_iff_ne.2 c1
      by_cases c2 : x = 2
      · subst c2
        clear m0 m1
        obtain ⟨b1, o1, k1, b2, o2, k2, b3, o3, k3, b4, k4, m, lr, le, li, lo, r1, r2, r3, r4, ⟨e1, e2, e3, e4⟩, ⟨d1, d2, d3, d4, d5, d6⟩, ⟨t1, t2, t3, t4⟩, hb⟩ := MQ.out.shape
        obtain ⟨regs, pc, mem, save, lets, waits, halt, ins, outs, count⟩ := m
        simp only [mv] at hb lr le li lo r1 r2 r3 r4
        have s1 := t1.lt
        have s2 := t2.lt
        obtain ⟨RT, K2⟩ := row_tail r2 le
        have CN : CMach ve w.heap.size (mv ⟨regs, pc, mem.tail, save, lets, waits, halt, ins, outs, count⟩ (.slice (some ⟨b1, o1, none⟩) 4 k1) (.slice (some ⟨b2, o2 + 1, none⟩) 63 (k2 - 1)) (.slice (some ⟨b3, o3, none⟩) ins.length k3) (.slice (some ⟨b4, 0, none⟩) outs.length k4)) ⟨regs, pc, mem.tail, save, lets, waits, halt, ins, outs, count⟩ := by
          have h3 : mem.tail.length = 63 := by rw [List.length_tail, le]
          refine ⟨b1, b2, b3, b4, o1, o2 + 1, o3, k1, k2 - 1, k3, k4, ?_, ?_, ?_, r3, r4, ⟨e1, e2, e3, e4⟩, ⟨d1, d2, d3, d4, d5, d6⟩, t1, t2, t3, t4⟩
          · simp only [lr, h3]
          · simp only [lr]
            exact r1
          · simp only [h3]
            exact RT
        have f2 := hb.r.soft 2
        have x2 := hb.r.cell 2 _ rfl
        have FIN := hide (mo_set (R := R) (Z := w.heap.size) (q := q + 3100) CN hb ⟨by show regs.length ≤ 5; omega, by show mem.tail.length ≤ 64; rw [List.length_tail]; omega, li, by show outs.length ≤ 101; omega⟩ MQ.out.z (MQ.out.rd.mono (by omega)) MQ.out.kp RX.out.1 hR RX.out.2.1 2 (.slice (some ⟨b2, o2 + 1, none⟩) 63 (k2 - 1)) (by simp) rfl)
        have nk : ¬ k2 = 1 := by omega
        have ik : (64 : Int) ≤ (k2 : Int) := by omega
        clear MQ RT r1 r2 r3 r4 t1 t2 t3 t4 hb CN lr le li lo s1 s2 e1 e2 e3 e4 d1 d2 d3 d4 d5 d6
        go_wp2_with fail
        go_meet
        exact FIN
      have m2 : (x == 2) = false := beq_eq_false_iff_ne.2 c2
      by_cases c3 : x = 3
      · subst c3
        clear m0 m1 m2
        obtain ⟨b1, o1, k1, b2, o2, k2, b3, o3, k3, b4, k4, m, lr, le, li, lo, r1, r2, r3, r4, ⟨e1, e2, e3, e4⟩, ⟨d1, d2, d3, d4, d5, d6⟩, ⟨t1, t2, t3, t4⟩, hb⟩ := MQ.out.shape
        obtain ⟨regs, pc, mem, save, lets, waits, halt, ins, outs, count⟩ := m
        simp only [mv] at hb lr le li lo r1 r2 r3 r4
        have s1 := t1.lt
        have s2 := t2.lt
        have nb2 := hb.t.ne t2 mach_int
        have nz2 := MQ.out.z.t.ne t2 mach_int
        have HB := hide hb
        have C0 : Hid (CMach ve w.heap.size (mv ⟨regs, pc, mem, save, lets, waits, halt, ins, outs, count⟩ (.slice (some ⟨b1, o1, none⟩) 4 k1) (.slice (some ⟨b2, o2, none⟩) 64 k2) (.slice (some ⟨b3, o3, none⟩) ins.length k3) (.slice (some ⟨b4, 0, none⟩) outs.length k4)) ⟨regs, pc, mem, save, lets, waits, halt, ins, outs, count⟩) := by
          refine ⟨b1, b2, b3, b4, o1, o2, o3, k1, k2, k3, k4, ?_, ?_, ?_, r3, r4, ⟨e1, e2, e3, e4⟩, ⟨d1, d2, d3, d4, d5, d6⟩, t1, t2, t3, t4⟩
          · simp only [lr, le]
          · simp only [lr]
            exact r1
          · simp only [le]
            exact r2
        have HE : Hid (mem.length = 64 ∧ regs.length = 4 ∧ ins.length ≤ 100 ∧ outs.length ≤ 100) := ⟨le, lr, li, lo⟩
        have N2 : Hid (X ≠ b2 ∧ w.heap.size ≠ b2 ∧ w.heap.size ≤ b2) := ⟨nb2, nz2, e2⟩
        clear r1 r2 r3 r4 t1 t2 t3 t4 hb s1 s2 e1 e2 e3 e4 d1 d2 d3 d4 d5 d6 lr le li lo nb2 nz2
        go_wp2_with fail
        refine (wpIn_wide (n := 0)).1 ?_
        have bA : Below ve.heap.size ve ve.drew := (Below.refl _ _).drew
        have MR := hide (MQ.out.rd.below (bA.mono (by have := MQ.out.rd.lt; omega)))
        have MZ := hide (MQ.out.z.below bA)
        have MK := hide (MQ.out.kp.trans (Keep.of_below bA))
        replace HB := hide (HB.out.below bA)
        replace C0 := hide (C0.out.below bA)
        clear bA MQ
        refine PhaseIn.region (S := fun v => Box X 25 [.slice (some ⟨b1, o1, none⟩) 4 k1, .int .i64 pc, .slice (some ⟨b2, o2, none⟩) 64 k2, .int .i64 save, .bool lets, .bool waits, .int .i64 halt, .slice (some ⟨b3, o3, none⟩) ins.length k3, .slice (some ⟨b4, 0, none⟩) outs.length k4, .int .i64 count] v) 7 (by kernel_rfl) ?_
        generalize ve.drew = d1 at HB C0 MR MZ MK ⊢
        have hHeld := HB.out
        clear HB
        refine PhaseIn.takeD (i := 0) (v := ?_) [0, 1, 7, 8] 42 rfl (by rfl) (by kernel_rfl) (by kernel_rfl) (by kernel_rfl) (by kernel_rfl) (by kernel_rfl) (fun _ _ _ h => h) (Or.inl ⟨by kernel_rfl, ?_⟩) hHeld ?_
        rotate_left
        · intro w' hSw
          (try dsimp only at hSw)
          go_simp
          first | done | with_reducible rfl
        try simp only [Act.put, List.setIfInBounds_toArray, List.set]
        refine PhaseIn.takeD (i := 1) (v := ?_) [1, 7, 8] 43 rfl (by rfl) (by kernel_rfl) (by kernel_rfl) (by kernel_rfl) (by kernel_rfl) (by kernel_rfl) (fun _ _ _ h => h) (Or.inl ⟨by kernel_rfl, ?_⟩) hHeld ?_
        rotate_left
        · intro w' hSw
          (try dsimp only at hSw)
          have z := hSw.r.cell 2 _ rfl
          go_simp
          first | done | with_reducible rfl
        try simp only [Act.put, List.setIfInBounds_toArray, List.set]
        refine PhaseIn.takeD (i := 2) (v := ?_) [2, 6, 7, 8] 44 rfl (by rfl) (by kernel_rfl) (by kernel_rfl) (by kernel_rfl) (by kernel_rfl) (by kernel_rfl) (fun _ _ _ h => h) (Or.inl ⟨by kernel_rfl, ?_⟩) hHeld ?_
        rotate_left
        · intro w' hSw
          (try dsimp only at hSw)
          go_simp
          first | done | with_reducible rfl
        try simp only [Act.put, List.setIfInBounds_toArray, List.set]
        refine PhaseIn.takeD (i := 3) (v := ?_) [3, 4, 5, 6, 7, 8] 45 rfl (by rfl) (by kernel_rfl) (by kernel_rfl) (by kernel_rfl) (by kernel_rfl) (by kernel_rfl) (fun _ _ _ h => h) (Or.inl ⟨by kernel_rfl, ?_⟩) hHeld ?_
        rotate_left
        · intro w' hSw
          (try dsimp only at hSw)
          go_simp
          first | done | with_reducible rfl
        try simp only [Act.put, List.setIfInBounds_toArray, List.set]
        refine PhaseIn.takeD (i := 4) (v := ?_) [4, 5, 6, 7, 8] 46 rfl (by rfl) (by kernel_rfl) (by kernel_rfl) (by kernel_rfl) (by kernel_rfl) (by kernel_rfl) (fun _ _ _ h => h) (Or.inl ⟨by kernel_rfl, ?_⟩) hHeld ?_
        rotate_left
        · intro w' hSw
          (try dsimp only at hSw)
          have z := hSw.r.cell 2 _ rfl
          go_simp
          first | done | with_reducible rfl
        try simp only [Act.put, List.setIfInBounds_toArray, List.set]
        refine PhaseIn.takeD (i := 5) (v := ?_) [5, 6, 7, 8] 47 rfl (by rfl) (by kernel_rfl) (by kernel_rfl) (by kernel_rfl) (by kernel_rfl) (by kernel_rfl) (fun _ _ _ h => h) (Or.inl ⟨by kernel_rfl, ?_⟩) hHeld ?_
        rotate_left
        · intro w' hSw
          (try dsimp only at hSw)
          go_simp
          first | done | with_reducible rfl
        try simp only [Act.put, List.setIfInBounds_toArray, List.set]
        refine PhaseIn.one (i := 6) (by kernel_rfl) rfl (by kernel_rfl) (fun K hK => ?_)
        unfold Oper.wpIn
        refine ⟨fun _ _ => trivial, ?_⟩
        go_simp
        refine ⟨rfl, (callsIn_wide.2 (pick R (q + 3000 + 1 + 1) 64 d1 MR.out (by omega))).mono ?_⟩
        rintro e d2 ⟨y, rfl, y0, y1, -, h1, k1⟩
        replace y1 := y1 (by omega)
        obtain ⟨Y, rfl⟩ : ∃ Y : Nat, y = Y := ⟨y.toNat, by omega⟩
        replace hHeld := box_keep hHeld k1 RX.out.2.2.1
        replace C0 := hide (cm_keep C0.out hR k1)
        replace MZ := hide (box_keep MZ.out k1 RX.out.2.2.2)
        replace MK := hide (MK.out.trans k1)
        replace MR := hide h1
        clear h1 k1
        refine hK _ _ (fun _ => hHeld) ?_
        clear hK K
        try simp only [Act.put, List.setIfInBounds_toArray, List.set]
        refine PhaseIn.late (i := 7) (v := ?_) (by kernel_rfl) rfl 49 (by rfl) (by omega) (Or.inl ⟨by kernel_rfl, ?_⟩) ?_
        rotate_left
        · intro w' hSw
          go_simp
          first | done | with_reducible rfl
        try simp only [Act.put, List.setIfInBounds_toArray, List.set]
        have HB := hide hHeld
        clear hHeld
        have YL : Y < mem.length := by have := HE.out.1; omega
        have C1 : CMach d2 w.heap.size (mv ⟨regs, pc, mem, save, lets, waits, halt, ins, outs, count⟩ (.slice (some ⟨b1, o1, none⟩) regs.length k1) (.slice (some ⟨b2, o2, none⟩) mem.length k2) (.slice (some ⟨b3, o3, none⟩) ins.length k3) (.slice (some ⟨b4, 0, none⟩) outs.length k4)) ⟨regs, pc, mem, save, lets, waits, halt, ins, outs, count⟩ := by
          have := C0.out
          rw [HE.out.1, HE.out.2.1]
          exact this
        obtain ⟨cy, fy⟩ := Mch.row_at (CMach.parts (m := ⟨regs, pc, mem, save, lets, waits, halt, ins, outs, count⟩) C1).2.1 (show mem[Y]? = some mem[Y] from List.getElem?_eq_getElem YL)
        have CN := CMach.setMem (m := ⟨regs, pc, mem, save, lets, waits, halt, ins, outs, count⟩) C1 Y 65536 YL
        have TT : Turn b2 d2 (d2.setCell ⟨b2, o2 + Y, none⟩ (.int .i64 65536)) := (Turn.refl b2 d2).setCell rfl _
        simp only [mv, HE.out.1, HE.out.2.1] at CN
        have FIN : Hid (Mo R X w.heap.size w (q + 3100) (d2.setCell ⟨b2, o2 + Y, none⟩ (.int .i64 65536))) := ⟨⟨_, _, CN, HB.out.turn TT N2.out.1, ⟨by show regs.length ≤ 5; have := HE.out.2.1; omega, by show (mem.set Y 65536).length ≤ 64; rw [List.length_set]; have := HE.out.1; omega, HE.out.2.2.1, by show outs.length ≤ 101; have := HE.out.2.2.2; omega⟩⟩, MZ.out.turn TT N2.out.2.1, (rd_turn MR.out TT (by have := N2.out.2.2; omega) MR.out.lt).mono (by omega), keep_up MK.out TT N2.out.2.2⟩
        clear C1 CN TT C0 HB MR MZ MK N2
        have HE2 := HE.out.1
        clear HE
        refine PhaseIn.one (i := 8) (by kernel_rfl) rfl (by kernel_rfl) (fun K hK => ?_)
        unfold Oper.wpIn
        refine ⟨fun _ _ => trivial, ?_⟩
        go_simp
        refine hK _ _ (fun h => absurd h (by decide)) ?_
        clear hK K
        try simp only [Act.put, List.setIfInBounds_toArray, List.set]
        refine PhaseIn.done (by kernel_rfl) ?_ _
        go_wp2_with fail
        go_meet
        exact FIN
      have m3 : (x == 3) = false := beq_eq_false_iff_ne.2 c3
      by_cases c4 : x = 4
      · subst c4
        clear m0 m1 m2 m3
        have SE : Hid (R < ve.heap.size) := MQ.out.rd.lt
        have bo : Below ve.heap.size ve (ve.alloc (.cells #[.int .i64 (-1), .int .i64 5, .int .i64 1] 3)) := (Below.refl _ _).alloc (Nat.le_refl _) _
        replace MQ := hide (MQ.out.step hR RX.out.2.2.1 RX.out.2.2.2 (MQ.out.rd.below (bo.mono (by have := MQ.out.rd.lt; omega))) (Keep.of_below bo))
        clear bo
        go_wp2_with fail
        refine (pick R (q + 3000 + 1 + 1) 3 _ MQ.out.rd (by omega)).mono ?_
        rintro e vf ⟨y, rfl, y0, y1, -, h1, k1⟩
        replace y1 := y1 (by omega)
        obtain ⟨z, hz⟩ := cellsAny ve [-1, 5, 1] 3 y y0 y1
        replace hz : vf.cell? ⟨ve.heap.size, y.toNat, none⟩ = some (.int .i64 z) := (k1.cell (p := ⟨ve.heap.size, y.toNat, none⟩) (by simp) (by have := SE.out; show ve.heap.size ≠ R; omega)).trans hz
        replace MQ := hide (MQ.out.step hR RX.out.2.2.1 RX.out.2.2.2 h1 k1)
        clear h1 k1
        obtain ⟨yo, co, fo, no⟩ := MQ.out.halt RX.out.1 hR RX.out.2.1
        have FIN := hide ((no z).two (q' := q + 3100) (by omega))
        clear MQ no
        go_wp2_with fail
        go_meet
        exact FIN
      have m4 : (x == 4) = false := beq_eq_false_iff_ne.2 c4
      by_cases c5 : x = 5
      · subst c5
        clear m0 m1 m2 m3 m4
        obtain ⟨b1, o1, k1, b2, o2, k2, b3, o3, k3, b4, k4, m, lr, le, li, lo, r1, r2, r3, r4, ⟨e1, e2, e3, e4⟩, ⟨d1, d2, d3, d4, d5, d6⟩, ⟨t1, t2, t3, t4⟩, hb⟩ := MQ.out.shape
        obtain ⟨regs, pc, mem, save, lets, waits, halt, ins, outs, count⟩ := m
        simp only [mv] at hb lr le li lo r1 r2 r3 r4
        have x8 := hb.r.cell 8 _ rfl
        have s1 := t1.lt
        have s2 := t2.lt
        have s3 := t3.lt
        have s4 := t4.lt
        have bo : Below ve.heap.size ve (ve.alloc (.cells #[.int .i64 (-1)] 3)) := (Below.refl _ _).alloc (Nat.le_refl _) _
        have OA : Own (ve.alloc (.cells #[.int .i64 (-1)] 3)) w.heap.size (.slice (some ⟨b4, 0, none⟩) outs.length k4) outs := r4.turn (Turn.of_below bo) (B := b4 + 1) (by omega) s4
        have LW : w.heap.size ≤ (ve.alloc (.cells #[.int .i64 (-1)] 3)).heap.size := Nat.le_trans MQ.out.kp.size bo.size
        have C0 : Hid (∀ (g4 c4 : Nat) (w' : World), Own w' w.heap.size (.slice (some ⟨g4, 0, none⟩) (outs ++ [-1]).length c4) (outs ++ [-1]) → (g4 = b4 ∨ (ve.alloc (.cells #[.int .i64 (-1)] 3)).heap.size ≤ g4) → Turn b4 (ve.alloc (.cells #[.int .i64 (-1)] 3)) w' → Box X 25 [.slice (some ⟨b1, o1, none⟩) 4 k1, .int .i64 pc, .slice (some ⟨b2, o2, none⟩) 64 k2, .int .i64 save, .bool lets, .bool waits, .int .i64 halt, .slice (some ⟨b3, o3, none⟩) ins.length k3, .slice (some ⟨b4, 0, none⟩) outs.length k4, .int .i64 count] w' ∧ Mo R X w.heap.size w (q + 3100) (w'.setCell ⟨X, 8, none⟩ (.slice (some ⟨g4, 0, none⟩) (outs ++ [-1]).length c4))) := by
          intro g4 c4 w' ho hg TT
          have nb := hb.t.ne t4 mach_int
          have nz := MQ.out.z.t.ne t4 mach_int
          have bsz := bo.size
          have lg : w.heap.size ≤ g4 := by have := MQ.out.kp.size; omega
          have BN := (hb.below bo).turn TT nb
          have CN : CMach w' w.heap.size (mv ⟨regs, pc, mem, save, lets, waits, halt, ins, outs ++ [-1], count⟩ (.slice (some ⟨b1, o1, none⟩) 4 k1) (.slice (some ⟨b2, o2, none⟩) 64 k2) (.slice (some ⟨b3, o3, none⟩) ins.length k3) (.slice (some ⟨g4, 0, none⟩) (outs ++ [-1]).length c4)) ⟨regs, pc, mem, save, lets, waits, halt, ins, outs ++ [-1], count⟩ := by
            refine ⟨b1, b2, b3, g4, o1, o2, o3, k1, k2, k3, c4, ?_, ?_, ?_, (r3.below bo).turn TT (by omega), ho, ⟨e1, e2, e3, lg⟩, ⟨d1, d2, by omega, d4, by omega, by omega⟩, (t1.below bo).turn TT (by omega), (t2.below bo).turn TT (by omega), (t3.below bo).turn TT (by omega), ho.isT⟩
            · simp only [lr, le]
            · have := (r1.below bo).turn TT (B := b1) (by omega)
              simp only [lr]
              exact this
            · have := (r2.below bo).turn TT (B := b2) (by omega)
              simp only [le]
              exact this
          exact ⟨BN, mo_set (R := R) (Z := w.heap.size) (q := q + 3100) CN BN ⟨by show regs.length ≤ 5; omega, by show mem.length ≤ 64; omega, li, by show (outs ++ [-1]).length ≤ 101; simp; omega⟩ ((MQ.out.z.below bo).turn TT nz) ((rd_turn (MQ.out.rd.below (bo.mono (by have := MQ.out.rd.lt; omega))) TT (by omega) (by have := MQ.out.rd.lt; omega)).mono (by omega)) (keep_up (MQ.out.kp.trans (Keep.of_below bo)) TT e4) RX.out.1 hR RX.out.2.1 8 _ (by simp) rfl⟩
        have LO : Hid (outs.length ≤ 100) := lo
        clear MQ r1 r2 r3 r4 t1 t2 t3 t4 hb bo lr le li lo s1 s2 s3 s4 e1 e2 e3 e4 d1 d2 d3 d4 d5 d6
        go_wp2_with (at_builtin; refine IntS.wpList_push rfl _ _ rfl w.heap.size b4 k4 outs rfl OA LW ⟨ve.heap.size, 0, none⟩ (-1) rfl (by rw [Addr.add_lit]; simp) (by have := LO.out; omega) ?_; intro g4 c4 w' ho hg _ TT; have BM := C0.out g4 c4 w' ho hg TT; have x8' := BM.1.r.cell 8 _ rfl; have f8' := BM.1.r.soft 8; have FIN := hide BM.2; clear BM ho hg TT C0 OA LW; refine Hid.out ?_)
        refine hide ?_
        go_wp2_with fail
        go_meet
        exact hide (by have := FIN.out; rw [List.length_append] at this; exact this)
      have m5 : (x == 5) = false := beq_eq_false_iff_ne.2 c5
      by_cases c6 : x = 6
      · subst c6
        clear m0 m1 m2 m3 m4 m5
        obtain ⟨yo, co, fo, no⟩ := MQ.out.save RX.out.1 hR RX.out.2.1
        have FIN := hide ((no (-1)).two (q' := q + 3100) (by omega))
        clear MQ no
        go_wp2_with fail
        go_meet
        exact FIN
      have m6 : (x == 6) = false := beq_eq_false_iff_ne.2 c6
      have SE : Hid (R < ve.heap.size) := MQ.out.rd.lt
      have bo : Below ve.heap.size ve (ve.alloc (.cells #[.int .i64 (-1), .int .i64 1000000, .int .i64 1000001, .int .i64 999997] 3)) := (Below.refl _ _).alloc (Nat.le_refl _) _
      replace MQ := hide (MQ.out.step hR RX.out.2.2.1 RX.out.2.2.2 (MQ.out.rd.below (bo.mono (by have := MQ.out.rd.lt; omega))) (Keep.of_below bo))
      clear bo
      go_wp2_with fail
      refine (pick R (q + 3000 + 1 + 1) 4 _ MQ.out.rd (by omega)).mono ?_
      rintro e vf ⟨y, rfl, y0, y1, -, h1, k1⟩
      replace y1 := y1 (by omega)
      obtain ⟨z, hz⟩ := cellsAny ve [-1, 1000000, 1000001, 999997] 3 y y0 y1
      replace hz : vf.cell? ⟨ve.heap.size, y.toNat, none⟩ = some (.int .i64 z) := (k1.cell (p := ⟨ve.heap.size, y.toNat, none⟩) (by simp) (by have := SE.out; show ve.heap.size ≠ R; omega)).trans hz
      replace MQ := hide (MQ.out.step hR RX.out.2.2.1 RX.out.2.2.2 h1 k1)
      clear h1 k1
      obtain ⟨yo, co, fo, no⟩ := MQ.out.count RX.out.1 hR RX.out.2.1
      have FIN := hide ((no z).two (q' := q + 3100) (by omega))
      clear MQ no
      go_wp2_with fail
      go_meet
      exact FIN
  case rest =>
  have MQ := hcut
  clear b
  obtain ⟨⟨c, m, hc, hb, hf⟩, Z0, H1, K0⟩ := MQ.out
  obtain ⟨f1, g1, h1, f2, g2, h2, f3, g3, h3, f4, h4, rfl⟩ := Mch.forms hc
  obtain ⟨regs, pc, mem, save, lets, waits, halt, ins, outs, count⟩ := m
  simp only [mv] at hc hb
  clear MQ
  replace Z0 := hide Z0
  replace H1 := hide H1
  replace K0 := hide K0
  have HF := hide hf
  have HC := hide hc
  clear hf hc
  have x0 := hb.r.cell 0 _ rfl
  have x1 := hb.r.cell 1 _ rfl
  have x2 := hb.r.cell 2 _ rfl
  have x3 := hb.r.cell 3 _ rfl
  have x4 := hb.r.cell 4 _ rfl
  have x5 := hb.r.cell 5 _ rfl
  have x6 := hb.r.cell 6 _ rfl
  have x7 := hb.r.cell 7 _ rfl
  have x8 := hb.r.cell 8 _ rfl
  have x9 := hb.r.cell 9 _ rfl
  clear hb
  go_wp2_with (refine Mch.wpList_lay rfl rfl _ _ rfl w.heap.size _ _ _ _ _ _ _ _ _ _ Z0.out rfl _ _ _ _ _ _ _ _ _ _ _ _ _ _ _ _ _ _ rfl ?_; intro u9 RB TB; refine Hid.out ?_)
  have FIN : Hid (CMach u9 w.heap.size [.slice (some ⟨f1, g1, none⟩) regs.length h1, .int .i64 pc, .slice (some ⟨f2, g2, none⟩) mem.length h2, .int .i64 save, .bool lets, .bool waits, .int .i64 halt, .slice (some ⟨f3, g3, none⟩) ins.length h3, .slice (some ⟨f4, 0, none⟩) outs.length h4, .int .i64 count] ⟨regs, pc, mem, save, lets, waits, halt, ins, outs, count⟩ ∧ Rd R (q + 4000) u9 ∧ Keep R w u9) := ⟨CMach.turn HC.out Z0.out.t mach_int TB.out, (rd_turn H1.out TB.out (by omega) H1.out.lt).mono (by omega), keep_up K0.out TB.out (Nat.le_refl _)⟩
  clear x0 x1 x2 x3 x4 x5 x6 x7 x8 x9 HC H1 K0 Z0 TB
  refine hide ?_
  have z0 := RB.out.r.cell 0 _ rfl
  have z1 := RB.out.r.cell 1 _ rfl
  have z2 := RB.out.r.cell 2 _ rfl
  have z3 := RB.out.r.cell 3 _ rfl
  have z4 := RB.out.r.cell 4 _ rfl
  have z5 := RB.out.r.cell 5 _ rfl
  have z6 := RB.out.r.cell 6 _ rfl
  have z7 := RB.out.r.cell 7 _ rfl
  have z8 := RB.out.r.cell 8 _ rfl
  have z9 := RB.out.r.cell 9 _ rfl
  clear RB
  go_wp2_with fail
  exact bodyPost_ret (v := .agg #[.slice (some ⟨f1, g1, none⟩) regs.length h1, .int .i64 pc, .slice (some ⟨f2, g2, none⟩) mem.length h2, .int .i64 save, .bool lets, .bool waits, .int .i64 halt, .slice (some ⟨f3, g3, none⟩) ins.length h3, .slice (some ⟨f4, 0, none⟩) outs.length h4, .int .i64 count]) (by simp [results, Tryz.results30, go_sem, z0, z1, z2, z3, z4, z5, z6, z7, z8, z9]) rfl ⟨_, _, rfl, FIN.out.1, HF.out, FIN.out.2.1, FIN.out.2.2⟩
end Go.Proofs.YtnhpmbhphbphaaaGreat.Draw
