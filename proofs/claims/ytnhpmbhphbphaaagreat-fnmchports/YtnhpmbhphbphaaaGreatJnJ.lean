/-
  The specification's l3Copy: the same machine in new memory.
-/
import Derived.Test.YtnhpmbhphbphaaaGreatMchS
import Derived.Test.YtnhpmbhphbphaaaGreatIntA
import Derived.Handy
namespace Go.Proofs.YtnhpmbhphbphaaaGreat.Mch
open Go.ChangeShapes Go.WideShapes Go.ChangeAt Go.RowKit IntS
/-- A block of ints whose cells from o on, k of them, are there, and may be written. -/
structure IsR (w : World) (b o k : Nat) : Prop where
  t : IsT w b 3
  room : ∀ j, j < k → (w.cell? ⟨b, o + j, none⟩).isSome = true ∧ w.frozen? ⟨b, o + j, none⟩ = false
theorem IsR.lt {w : World} {b o k : Nat} (h : IsR w b o k) : b < w.heap.size := h.t.lt
theorem IsR.turn {w w' : World} {b o k B : Nat} (h : IsR w b o k) (ht : Turn B w w') (hB : b ≠ B) : IsR w' b o k :=
  ⟨h.t.turn ht hB, fun j hj => ⟨by rw [ht.cell (p := ⟨b, o + j, none⟩) h.lt hB]; exact (h.room j hj).1, (ht.frozen (p := ⟨b, o + j, none⟩) h.lt hB).trans (h.room j hj).2⟩⟩
theorem IsR.below {w w' : World} {b o k : Nat} (h : IsR w b o k) (hb : Below w.heap.size w w') : IsR w' b o k := h.turn (B := b + 1) (Turn.of_below hb) (by omega)
theorem IsR.set {w : World} {b o k : Nat} (h : IsR w b o k) (p : Addr) (v : Value) : IsR (w.setCell p v) b o k :=
  ⟨h.t.set p v, fun j hj => ⟨by
    obtain ⟨x, hx⟩ := Option.isSome_iff_exists.1 (h.room j hj).1
    by_cases e : p = ⟨b, o + j, none⟩
    · subst e
      rw [World.cell?_setCell_same w _ _ hx]
      rfl
    · rw [World.cell?_setCell_other w _ _ _ e, hx]
      rfl, (World.frozen?_setCell ..).trans (h.room j hj).2⟩⟩
theorem IsR.of_own {w : World} {base g n cap : Nat} {xs : List Int} (h : Own w base (.slice (some ⟨g, 0, none⟩) n cap) xs) : IsR w g 0 cap :=
  ⟨h.isT, fun j hj => by rw [Nat.zero_add]; exact h.cells.2.2.2 j hj⟩
/-- A struct that holds a machine whose lists the call itself made: each in a block of its own, from block lo on. -/
structure CMach (w : World) (lo : Nat) (c : List Value) (m : M) : Prop where
  ex : ∃ (b1 b2 b3 b4 o1 o2 o3 : Nat) (k1 k2 k3 k4 : Nat), c = mv m (.slice (some ⟨b1, o1, none⟩) m.regs.length k1) (.slice (some ⟨b2, o2, none⟩) m.mem.length k2) (.slice (some ⟨b3, o3, none⟩) m.ins.length k3) (.slice (some ⟨b4, 0, none⟩) m.outs.length k4) ∧
    WRow w b1 (.slice (some ⟨b1, o1, none⟩) m.regs.length k1) m.regs ∧ WRow w b2 (.slice (some ⟨b2, o2, none⟩) m.mem.length k2) m.mem ∧ WRow w b3 (.slice (some ⟨b3, o3, none⟩) m.ins.length k3) m.ins ∧ Own w lo (.slice (some ⟨b4, 0, none⟩) m.outs.length k4) m.outs ∧
    (lo ≤ b1 ∧ lo ≤ b2 ∧ lo ≤ b3 ∧ lo ≤ b4) ∧ (b1 ≠ b2 ∧ b1 ≠ b3 ∧ b1 ≠ b4 ∧ b2 ≠ b3 ∧ b2 ≠ b4 ∧ b3 ≠ b4) ∧ (IsR w b1 o1 k1 ∧ IsT w b2 3 ∧ IsT w b3 3 ∧ IsT w b4 3)
theorem Three.turn {w u u' : World} {n g : Nat} {A Z O : List Value} (h : Three w n A Z O u) (ht : Turn g u u') (hg : n + 1 + 1 < g) : Three w n A Z O u' :=
  ⟨h.bw.trans (ht.below (by omega) (Nat.le_of_lt h.a.lt)), h.a.turn ht (by omega), h.z.turn ht (by omega), h.o.turn ht (by omega)⟩
theorem heap_new (u : World) (t : TypeId) : (u.alloc (.cells #[] t)).heap[u.heap.size]? = some (.cells #[] t (0, 0)) := (MapKept.heap_alloc u _).1
theorem heap_new2 (u : World) (t : TypeId) (g : Nat) (h : u.heap.size = g) : (u.alloc (.cells #[] t)).heap[g]? = some (.cells #[] t (0, 0)) := by
  subst h
  exact heap_new u t
theorem alloc_below (u : World) (o : Obj) : Below u.heap.size u (u.alloc o) := (Below.refl _ _).alloc (Nat.le_refl _) o
/-- No list of a machine is longer than that. -/
def Mid (m : M) : Prop := m.regs.length ≤ 2000000 ∧ m.mem.length ≤ 2000000 ∧ m.ins.length ≤ 2000000 ∧ m.outs.length ≤ 2000000
theorem Small.mid {m : M} (h : Small m) : Mid m := ⟨Nat.le_trans h.1 (by omega), Nat.le_trans h.2.1 (by omega), Nat.le_trans h.2.2.1 (by omega), Nat.le_trans h.2.2.2 (by omega)⟩
set_option maxRecDepth 8000 in
set_option maxHeartbeats 4000000 in
theorem l3Copy (m : M) (c : List Value) (w : World) (h : RMach w c m) (hs : Mid m) :
    Calls Tryz.prog 35 #[.agg c.toArray] w fun e w' => ∃ c', e = .returned (.agg c'.toArray) ∧ CMach w' w.heap.size c' m ∧ Below w.heap.size w w' := by
  obtain ⟨r, e, i, o, b1, b2, b3, b4, rfl, h1, h2, h3, h4⟩ := h
  obtain ⟨regs, pc, mem, save, lets, waits, halt, ins, outs, count⟩ := m
  obtain ⟨l1, l2, l3, l4⟩ := hs
  have H1 := hide h1
  have H2 := hide h2
  have H3 := hide h3
  have H4 := hide h4
  obtain ⟨q1, k1, _, rfl, _⟩ := h1
  obtain ⟨q2, k2, _, rfl, _⟩ := h2
  obtain ⟨q3, k3, _, rfl, _⟩ := h3
  obtain ⟨q4, k4, _, rfl, _⟩ := h4
  simp only [mv] at *
  have T := hide (Three.new w [.slice q1 regs.length k1, .int .i64 pc, .slice q2 mem.length k2, .int .i64 save, .bool lets, .bool waits, .int .i64 halt, .slice q3 ins.length k3, .slice q4 outs.length k4, .int .i64 count] [.slice none 0 0, .int .i64 0, .slice none 0 0, .int .i64 0, .bool false, .bool false, .int .i64 0, .slice none 0 0, .slice none 0 0, .int .i64 0] [.slice q1 regs.length k1, .int .i64 pc, .slice q2 mem.length k2, .int .i64 save, .bool lets, .bool waits, .int .i64 halt, .slice q3 ins.length k3, .slice q4 outs.length k4, .int .i64 count] 25 25 25)
  go_enter Tryz.func35, Tryz.ntmps35
  go_wp2_with (at_builtin; first
    | (refine wpList_copy rfl _ _ rfl _ (heap_new2 _ _ _ (by simp)) rfl _ b1 regs rfl ((H1.out.below T.out.bw).below (alloc_below _ _)) (by omega) ?_; intro g1 c1 u1 ho1 hr1 hle1 hlt1 ht1; have hX1 : w.heap.size + 1 + 1 < _ := T.out.o.lt; have T1 := (T.out.below (alloc_below _ _)).turn ht1 (by first | omega | (simp at hX1; omega)); have o0 := T1.o.cell 0 _ rfl; have f0 := T1.o.soft 0; have lA1 := T1.a.lt; have a2 := T1.a.cell 2 _ rfl; have gX1 : w.heap.size + 1 + 1 < g1 := (by first | omega | (simp at hX1; omega)); clear hX1; have J1 := hide (IsR.of_own ho1); clear T; have T := hide (T1.set 0 (.slice (some ⟨g1, 0, none⟩) regs.length c1) (by simp) (show _ = [.slice (some ⟨g1, 0, none⟩) regs.length c1, .int .i64 pc, .slice q2 mem.length k2, .int .i64 save, .bool lets, .bool waits, .int .i64 halt, .slice q3 ins.length k3, .slice q4 outs.length k4, .int .i64 count] from rfl)); clear T1 ht1 ho1; have R1 := hide hr1; clear hr1; replace R1 := hide (other_row R1.out ⟨w.heap.size + 1 + 1, 0, none⟩ (.slice (some ⟨g1, 0, none⟩) regs.length c1) (Nat.ne_of_lt gX1)); replace J1 := hide (J1.out.set ⟨w.heap.size + 1 + 1, 0, none⟩ (.slice (some ⟨g1, 0, none⟩) regs.length c1)))
    | (refine wpList_copy rfl _ _ rfl _ (heap_new2 _ _ _ (by simp)) rfl _ b2 mem rfl ((H2.out.below T.out.bw).below (alloc_below _ _)) (by omega) ?_; intro g2 c2 u2 ho2 hr2 hle2 hlt2 ht2; have hX2 : w.heap.size + 1 + 1 < _ := T.out.o.lt; have T2 := (T.out.below (alloc_below _ _)).turn ht2 (by first | omega | (simp at hX2; omega)); have o2 := T2.o.cell 2 _ rfl; have f2 := T2.o.soft 2; have lA2 := T2.a.lt; have a7 := T2.a.cell 7 _ rfl; have d1 : g1 < g2 := Nat.lt_of_lt_of_le hlt1 hle2; replace R1 := hide ((R1.out.below (alloc_below _ _)).turn ht2 (by omega)); replace J1 := hide ((J1.out.below (alloc_below _ _)).turn ht2 (by omega)); have gX2 : w.heap.size + 1 + 1 < g2 := (by first | omega | (simp at hX2; omega)); clear hX2; have J2 := hide ho2.isT; clear T; have T := hide (T2.set 2 (.slice (some ⟨g2, 0, none⟩) mem.length c2) (by simp) (show _ = [.slice (some ⟨g1, 0, none⟩) regs.length c1, .int .i64 pc, .slice (some ⟨g2, 0, none⟩) mem.length c2, .int .i64 save, .bool lets, .bool waits, .int .i64 halt, .slice q3 ins.length k3, .slice q4 outs.length k4, .int .i64 count] from rfl)); clear T2 ht2 ho2; have R2 := hide hr2; clear hr2; replace R1 := hide (other_row R1.out ⟨w.heap.size + 1 + 1, 2, none⟩ (.slice (some ⟨g2, 0, none⟩) mem.length c2) (Nat.ne_of_lt gX1)); replace J1 := hide (J1.out.set ⟨w.heap.size + 1 + 1, 2, none⟩ (.slice (some ⟨g2, 0, none⟩) mem.length c2)); replace R2 := hide (other_row R2.out ⟨w.heap.size + 1 + 1, 2, none⟩ (.slice (some ⟨g2, 0, none⟩) mem.length c2) (Nat.ne_of_lt gX2)); replace J2 := hide (J2.out.set ⟨w.heap.size + 1 + 1, 2, none⟩ (.slice (some ⟨g2, 0, none⟩) mem.length c2)))
    | (refine wpList_copy rfl _ _ rfl _ (heap_new2 _ _ _ (by simp)) rfl _ b3 ins rfl ((H3.out.below T.out.bw).below (alloc_below _ _)) (by omega) ?_; intro g3 c3 u3 ho3 hr3 hle3 hlt3 ht3; have hX3 : w.heap.size + 1 + 1 < _ := T.out.o.lt; have T3 := (T.out.below (alloc_below _ _)).turn ht3 (by first | omega | (simp at hX3; omega)); have o7 := T3.o.cell 7 _ rfl; have f7 := T3.o.soft 7; have lA3 := T3.a.lt; have a8 := T3.a.cell 8 _ rfl; have d2 : g2 < g3 := Nat.lt_of_lt_of_le hlt2 hle3; replace R1 := hide ((R1.out.below (alloc_below _ _)).turn ht3 (by omega)); replace J1 := hide ((J1.out.below (alloc_below _ _)).turn ht3 (by omega)); replace R2 := hide ((R2.out.below (alloc_below _ _)).turn ht3 (by omega)); replace J2 := hide ((J2.out.below (alloc_below _ _)).turn ht3 (by omega)); have gX3 : w.heap.size + 1 + 1 < g3 := (by first | omega | (simp at hX3; omega)); clear hX3; have J3 := hide ho3.isT; clear T; have T := hide (T3.set 7 (.slice (some ⟨g3, 0, none⟩) ins.length c3) (by simp) (show _ = [.slice (some ⟨g1, 0, none⟩) regs.length c1, .int .i64 pc, .slice (some ⟨g2, 0, none⟩) mem.length c2, .int .i64 save, .bool lets, .bool waits, .int .i64 halt, .slice (some ⟨g3, 0, none⟩) ins.length c3, .slice q4 outs.length k4, .int .i64 count] from rfl)); clear T3 ht3 ho3; have R3 := hide hr3; clear hr3; replace R1 := hide (other_row R1.out ⟨w.heap.size + 1 + 1, 7, none⟩ (.slice (some ⟨g3, 0, none⟩) ins.length c3) (Nat.ne_of_lt gX1)); replace J1 := hide (J1.out.set ⟨w.heap.size + 1 + 1, 7, none⟩ (.slice (some ⟨g3, 0, none⟩) ins.length c3)); replace R2 := hide (other_row R2.out ⟨w.heap.size + 1 + 1, 7, none⟩ (.slice (some ⟨g3, 0, none⟩) ins.length c3) (Nat.ne_of_lt gX2)); replace J2 := hide (J2.out.set ⟨w.heap.size + 1 + 1, 7, none⟩ (.slice (some ⟨g3, 0, none⟩) ins.length c3)); replace R3 := hide (other_row R3.out ⟨w.heap.size + 1 + 1, 7, none⟩ (.slice (some ⟨g3, 0, none⟩) ins.length c3) (Nat.ne_of_lt gX3)); replace J3 := hide (J3.out.set ⟨w.heap.size + 1 + 1, 7, none⟩ (.slice (some ⟨g3, 0, none⟩) ins.length c3)))
    | (refine wpList_copy rfl _ _ rfl _ (heap_new2 _ _ _ (by simp)) rfl _ b4 outs rfl ((H4.out.below T.out.bw).below (alloc_below _ _)) (by omega) ?_; intro g4 c4 u4 ho4 hr4 hle4 hlt4 ht4; have hX4 : w.heap.size + 1 + 1 < _ := T.out.o.lt; have T4 := (T.out.below (alloc_below _ _)).turn ht4 (by first | omega | (simp at hX4; omega)); have o8 := T4.o.cell 8 _ rfl; have f8 := T4.o.soft 8; have lA4 := T4.a.lt; have d3 : g3 < g4 := Nat.lt_of_lt_of_le hlt3 hle4; replace R1 := hide ((R1.out.below (alloc_below _ _)).turn ht4 (by omega)); replace J1 := hide ((J1.out.below (alloc_below _ _)).turn ht4 (by omega)); replace R2 := hide ((R2.out.below (alloc_below _ _)).turn ht4 (by omega)); replace J2 := hide ((J2.out.below (alloc_below _ _)).turn ht4 (by omega)); replace R3 := hide ((R3.out.below (alloc_below _ _)).turn ht4 (by omega)); replace J3 := hide ((J3.out.below (alloc_below _ _)).turn ht4 (by omega)); have gX4 : w.heap.size + 1 + 1 < g4 := (by first | omega | (simp at hX4; omega)); clear hX4; have J4 := hide ho4.isT; have O4 := hide ho4; have BW := T4.bw; have o1 := T4.o.cell 1 _ rfl; have o3 := T4.o.cell 3 _ rfl; have o4 := T4.o.cell 4 _ rfl; have o5 := T4.o.cell 5 _ rfl; have o6 := T4.o.cell 6 _ rfl; have o9 := T4.o.cell 9 _ rfl; have o0 := T4.o.cell 0 _ rfl; have o2 := T4.o.cell 2 _ rfl; have o7 := T4.o.cell 7 _ rfl; have z0 := T4.z.cell 0 _ rfl; have e0 := T4.z.soft 0; have z1 := T4.z.cell 1 _ rfl; have e1 := T4.z.soft 1; have z2 := T4.z.cell 2 _ rfl; have e2 := T4.z.soft 2; have z3 := T4.z.cell 3 _ rfl; have e3 := T4.z.soft 3; have z4 := T4.z.cell 4 _ rfl; have e4 := T4.z.soft 4; have z5 := T4.z.cell 5 _ rfl; have e5 := T4.z.soft 5; have z6 := T4.z.cell 6 _ rfl; have e6 := T4.z.soft 6; have z7 := T4.z.cell 7 _ rfl; have e7 := T4.z.soft 7; have z8 := T4.z.cell 8 _ rfl; have e8 := T4.z.soft 8; have z9 := T4.z.cell 9 _ rfl; have e9 := T4.z.soft 9; clear T T4 ht4 ho4 hr4))
  have k1_ : w.heap.size ≤ w.heap.size + 1 := by omega
  have k2_ : w.heap.size ≤ w.heap.size + 1 + 1 := by omega
  have hlo4 : w.heap.size ≤ u3.heap.size := by omega
  refine bodyPost_ret (v := .agg #[.slice (some ⟨g1, 0, none⟩) regs.length c1, .int .i64 pc, .slice (some ⟨g2, 0, none⟩) mem.length c2, .int .i64 save, .bool lets, .bool waits, .int .i64 halt, .slice (some ⟨g3, 0, none⟩) ins.length c3, .slice (some ⟨g4, 0, none⟩) outs.length c4, .int .i64 count]) (by simp [results, Tryz.results35, go_sem, z0, z1, z2, z3, z4, z5, z6, z7, z8, z9]) rfl ⟨[.slice (some ⟨g1, 0, none⟩) regs.length c1, .int .i64 pc, .slice (some ⟨g2, 0, none⟩) mem.length c2, .int .i64 save, .bool lets, .bool waits, .int .i64 halt, .slice (some ⟨g3, 0, none⟩) ins.length c3, .slice (some ⟨g4, 0, none⟩) outs.length c4, .int .i64 count], rfl, ?_, (((((((((((BW.setCell k2_ _).setCell k1_ _).setCell k1_ _).setCell k1_ _).setCell k1_ _).setCell k1_ _).setCell k1_ _).setCell k1_ _).setCell k1_ _).setCell k1_ _).setCell k1_ _)⟩
  exact ⟨g1, g2, g3, g4, 0, 0, 0, c1, c2, c3, c4, rfl, (other_row (other_row (other_row (other_row (other_row (other_row (other_row (other_row (other_row (other_row (other_row R1.out ⟨w.heap.size + 1 + 1, 8, none⟩ (.slice (some ⟨g4, 0, none⟩) outs.length c4) (Nat.ne_of_lt gX1)) ⟨w.heap.size + 1, 0, none⟩ (.slice (some ⟨g1, 0, none⟩) regs.length c1) (Nat.ne_of_lt (Nat.lt_trans (Nat.lt_succ_self _) gX1))) ⟨w.heap.size + 1, 1, none⟩ (.int .i64 pc) (Nat.ne_of_lt (Nat.lt_trans (Nat.lt_succ_self _) gX1))) ⟨w.heap.size + 1, 2, none⟩ (.slice (some ⟨g2, 0, none⟩) mem.length c2) (Nat.ne_of_lt (Nat.lt_trans (Nat.lt_succ_self _) gX1))) ⟨w.heap.size + 1, 3, none⟩ (.int .i64 save) (Nat.ne_of_lt (Nat.lt_trans (Nat.lt_succ_self _) gX1))) ⟨w.heap.size + 1, 4, none⟩ (.bool lets) (Nat.ne_of_lt (Nat.lt_trans (Nat.lt_succ_self _) gX1))) ⟨w.heap.size + 1, 5, none⟩ (.bool waits) (Nat.ne_of_lt (Nat.lt_trans (Nat.lt_succ_self _) gX1))) ⟨w.heap.size + 1, 6, none⟩ (.int .i64 halt) (Nat.ne_of_lt (Nat.lt_trans (Nat.lt_succ_self _) gX1))) ⟨w.heap.size + 1, 7, none⟩ (.slice (some ⟨g3, 0, none⟩) ins.length c3) (Nat.ne_of_lt (Nat.lt_trans (Nat.lt_succ_self _) gX1))) ⟨w.heap.size + 1, 8, none⟩ (.slice (some ⟨g4, 0, none⟩) outs.length c4) (Nat.ne_of_lt (Nat.lt_trans (Nat.lt_succ_self _) gX1))) ⟨w.heap.size + 1, 9, none⟩ (.int .i64 count) (Nat.ne_of_lt (Nat.lt_trans (Nat.lt_succ_self _) gX1))), (other_row (other_row (other_row (other_row (other_row (other_row (other_row (other_row (other_row (other_row (other_row R2.out ⟨w.heap.size + 1 + 1, 8, none⟩ (.slice (some ⟨g4, 0, none⟩) outs.length c4) (Nat.ne_of_lt gX2)) ⟨w.heap.size + 1, 0, none⟩ (.slice (some ⟨g1, 0, none⟩) regs.length c1) (Nat.ne_of_lt (Nat.lt_trans (Nat.lt_succ_self _) gX2))) ⟨w.heap.size + 1, 1, none⟩ (.int .i64 pc) (Nat.ne_of_lt (Nat.lt_trans (Nat.lt_succ_self _) gX2))) ⟨w.heap.size + 1, 2, none⟩ (.slice (some ⟨g2, 0, none⟩) mem.length c2) (Nat.ne_of_lt (Nat.lt_trans (Nat.lt_succ_self _) gX2))) ⟨w.heap.size + 1, 3, none⟩ (.int .i64 save) (Nat.ne_of_lt (Nat.lt_trans (Nat.lt_succ_self _) gX2))) ⟨w.heap.size + 1, 4, none⟩ (.bool lets) (Nat.ne_of_lt (Nat.lt_trans (Nat.lt_succ_self _) gX2))) ⟨w.heap.size + 1, 5, none⟩ (.bool waits) (Nat.ne_of_lt (Nat.lt_trans (Nat.lt_succ_self _) gX2))) ⟨w.heap.size + 1, 6, none⟩ (.int .i64 halt) (Nat.ne_of_lt (Nat.lt_trans (Nat.lt_succ_self _) gX2))) ⟨w.heap.size + 1, 7, none⟩ (.slice (some ⟨g3, 0, none⟩) ins.length c3) (Nat.ne_of_lt (Nat.lt_trans (Nat.lt_succ_self _) gX2))) ⟨w.heap.size + 1, 8, none⟩ (.slice (some ⟨g4, 0, none⟩) outs.length c4) (Nat.ne_of_lt (Nat.lt_trans (Nat.lt_succ_self _) gX2))) ⟨w.heap.size + 1, 9, none⟩ (.int .i64 count) (Nat.ne_of_lt (Nat.lt_trans (Nat.lt_succ_self _) gX2))), (other_row (other_row (other_row (other_row (other_row (other_row (other_row (other_row (other_row (other_row (other_row R3.out ⟨w.heap.size + 1 + 1, 8, none⟩ (.slice (some ⟨g4, 0, none⟩) outs.length c4) (Nat.ne_of_lt gX3)) ⟨w.heap.size + 1, 0, none⟩ (.slice (some ⟨g1, 0, none⟩) regs.length c1) (Nat.ne_of_lt (Nat.lt_trans (Nat.lt_succ_self _) gX3))) ⟨w.heap.size + 1, 1, none⟩ (.int .i64 pc) (Nat.ne_of_lt (Nat.lt_trans (Nat.lt_succ_self _) gX3))) ⟨w.heap.size + 1, 2, none⟩ (.slice (some ⟨g2, 0, none⟩) mem.length c2) (Nat.ne_of_lt (Nat.lt_trans (Nat.lt_succ_self _) gX3))) ⟨w.heap.size + 1, 3, none⟩ (.int .i64 save) (Nat.ne_of_lt (Nat.lt_trans (Nat.lt_succ_self _) gX3))) ⟨w.heap.size + 1, 4, none⟩ (.bool lets) (Nat.ne_of_lt (Nat.lt_trans (Nat.lt_succ_self _) gX3))) ⟨w.heap.size + 1, 5, none⟩ (.bool waits) (Nat.ne_of_lt (Nat.lt_trans (Nat.lt_succ_self _) gX3))) ⟨w.heap.size + 1, 6, none⟩ (.int .i64 halt) (Nat.ne_of_lt (Nat.lt_trans (Nat.lt_succ_self _) gX3))) ⟨w.heap.size + 1, 7, none⟩ (.slice (some ⟨g3, 0, none⟩) ins.length c3) (Nat.ne_of_lt (Nat.lt_trans (Nat.lt_succ_self _) gX3))) ⟨w.heap.size + 1, 8, none⟩ (.slice (some ⟨g4, 0, none⟩) outs.length c4) (Nat.ne_of_lt (Nat.lt_trans (Nat.lt_succ_self _) gX3))) ⟨w.heap.size + 1, 9, none⟩ (.int .i64 count) (Nat.ne_of_lt (Nat.lt_trans (Nat.lt_succ_self _) gX3))), (Own.set (Own.set (Own.set (Own.set (Own.set (Own.set (Own.set (Own.set (Own.set (Own.set (Own.set (Own.mono O4.out hlo4) ⟨w.heap.size + 1 + 1, 8, none⟩ (.slice (some ⟨g4, 0, none⟩) outs.length c4) (Nat.ne_of_lt gX4) (by simpa using hlt4)) ⟨w.heap.size + 1, 0, none⟩ (.slice (some ⟨g1, 0, none⟩) regs.length c1) (Nat.ne_of_lt (Nat.lt_trans (Nat.lt_succ_self _) gX4)) (by simpa using hlt4)) ⟨w.heap.size + 1, 1, none⟩ (.int .i64 pc) (Nat.ne_of_lt (Nat.lt_trans (Nat.lt_succ_self _) gX4)) (by simpa using hlt4)) ⟨w.heap.size + 1, 2, none⟩ (.slice (some ⟨g2, 0, none⟩) mem.length c2) (Nat.ne_of_lt (Nat.lt_trans (Nat.lt_succ_self _) gX4)) (by simpa using hlt4)) ⟨w.heap.size + 1, 3, none⟩ (.int .i64 save) (Nat.ne_of_lt (Nat.lt_trans (Nat.lt_succ_self _) gX4)) (by simpa using hlt4)) ⟨w.heap.size + 1, 4, none⟩ (.bool lets) (Nat.ne_of_lt (Nat.lt_trans (Nat.lt_succ_self _) gX4)) (by simpa using hlt4)) ⟨w.heap.size + 1, 5, none⟩ (.bool waits) (Nat.ne_of_lt (Nat.lt_trans (Nat.lt_succ_self _) gX4)) (by simpa using hlt4)) ⟨w.heap.size + 1, 6, none⟩ (.int .i64 halt) (Nat.ne_of_lt (Nat.lt_trans (Nat.lt_succ_self _) gX4)) (by simpa using hlt4)) ⟨w.heap.size + 1, 7, none⟩ (.slice (some ⟨g3, 0, none⟩) ins.length c3) (Nat.ne_of_lt (Nat.lt_trans (Nat.lt_succ_self _) gX4)) (by simpa using hlt4)) ⟨w.heap.size + 1, 8, none⟩ (.slice (some ⟨g4, 0, none⟩) outs.length c4) (Nat.ne_of_lt (Nat.lt_trans (Nat.lt_succ_self _) gX4)) (by simpa using hlt4)) ⟨w.heap.size + 1, 9, none⟩ (.int .i64 count) (Nat.ne_of_lt (Nat.lt_trans (Nat.lt_succ_self _) gX4)) (by simpa using hlt4)), ⟨by omega, by omega, by omega, by omega⟩, ⟨by omega, by omega, by omega, by omega, by omega, by omega⟩, ⟨(((((((((((J1.out.set ⟨w.heap.size + 1 + 1, 8, none⟩ (.slice (some ⟨g4, 0, none⟩) outs.length c4)).set ⟨w.heap.size + 1, 0, none⟩ (.slice (some ⟨g1, 0, none⟩) regs.length c1)).set ⟨w.heap.size + 1, 1, none⟩ (.int .i64 pc)).set ⟨w.heap.size + 1, 2, none⟩ (.slice (some ⟨g2, 0, none⟩) mem.length c2)).set ⟨w.heap.size + 1, 3, none⟩ (.int .i64 save)).set ⟨w.heap.size + 1, 4, none⟩ (.bool lets)).set ⟨w.heap.size + 1, 5, none⟩ (.bool waits)).set ⟨w.heap.size + 1, 6, none⟩ (.int .i64 halt)).set ⟨w.heap.size + 1, 7, none⟩ (.slice (some ⟨g3, 0, none⟩) ins.length c3)).set ⟨w.heap.size + 1, 8, none⟩ (.slice (some ⟨g4, 0, none⟩) outs.length c4)).set ⟨w.heap.size + 1, 9, none⟩ (.int .i64 count)), (((((((((((J2.out.set ⟨w.heap.size + 1 + 1, 8, none⟩ (.slice (some ⟨g4, 0, none⟩) outs.length c4)).set ⟨w.heap.size + 1, 0, none⟩ (.slice (some ⟨g1, 0, none⟩) regs.length c1)).set ⟨w.heap.size + 1, 1, none⟩ (.int .i64 pc)).set ⟨w.heap.size + 1, 2, none⟩ (.slice (some ⟨g2, 0, none⟩) mem.length c2)).set ⟨w.heap.size + 1, 3, none⟩ (.int .i64 save)).set ⟨w.heap.size + 1, 4, none⟩ (.bool lets)).set ⟨w.heap.size + 1, 5, none⟩ (.bool waits)).set ⟨w.heap.size + 1, 6, none⟩ (.int .i64 halt)).set ⟨w.heap.size + 1, 7, none⟩ (.slice (some ⟨g3, 0, none⟩) ins.length c3)).set ⟨w.heap.size + 1, 8, none⟩ (.slice (some ⟨g4, 0, none⟩) outs.length c4)).set ⟨w.heap.size + 1, 9, none⟩ (.int .i64 count)), (((((((((((J3.out.set ⟨w.heap.size + 1 + 1, 8, none⟩ (.slice (some ⟨g4, 0, none⟩) outs.length c4)).set ⟨w.heap.size + 1, 0, none⟩ (.slice (some ⟨g1, 0, none⟩) regs.length c1)).set ⟨w.heap.size + 1, 1, none⟩ (.int .i64 pc)).set ⟨w.heap.size + 1, 2, none⟩ (.slice (some ⟨g2, 0, none⟩) mem.length c2)).set ⟨w.heap.size + 1, 3, none⟩ (.int .i64 save)).set ⟨w.heap.size + 1, 4, none⟩ (.bool lets)).set ⟨w.heap.size + 1, 5, none⟩ (.bool waits)).set ⟨w.heap.size + 1, 6, none⟩ (.int .i64 halt)).set ⟨w.heap.size + 1, 7, none⟩ (.slice (some ⟨g3, 0, none⟩) ins.length c3)).set ⟨w.heap.size + 1, 8, none⟩ (.slice (some ⟨g4, 0, none⟩) outs.length c4)).set ⟨w.heap.size + 1, 9, none⟩ (.int .i64 count)), (((((((((((J4.out.set ⟨w.heap.size + 1 + 1, 8, none⟩ (.slice (some ⟨g4, 0, none⟩) outs.length c4)).set ⟨w.heap.size + 1, 0, none⟩ (.slice (some ⟨g1, 0, none⟩) regs.length c1)).set ⟨w.heap.size + 1, 1, none⟩ (.int .i64 pc)).set ⟨w.heap.size + 1, 2, none⟩ (.slice (some ⟨g2, 0, none⟩) mem.length c2)).set ⟨w.heap.size + 1, 3, none⟩ (.int .i64 save)).set ⟨w.heap.size + 1, 4, none⟩ (.bool lets)).set ⟨w.heap.size + 1, 5, none⟩ (.bool waits)).set ⟨w.heap.size + 1, 6, none⟩ (.int .i64 halt)).set ⟨w.heap.size + 1, 7, none⟩ (.slice (some ⟨g3, 0, none⟩) ins.length c3)).set ⟨w.heap.size + 1, 8, none⟩ (.slice (some ⟨g4, 0, none⟩) outs.length c4)).set ⟨w.heap.size + 1, 9, none⟩ (.int .i64 count))⟩⟩
end Go.Proofs.YtnhpmbhphbphaaaGreat.Mch
namespace Go.Proofs.YtnhpmbhphbphaaaGreat.Mch
open Go.ChangeShapes Go.WideShapes Go.ChangeAt Go.RowKit IntS
def haltM (m : M) (h : Int) : M := { m with halt := h }
def nextM (m : M) (pc : Int) : M := { m with pc := pc % 65536, count := m.count + 1 }
def setM (m : M) (d : Nat) (n : Int) : M := nextM { m with regs := m.regs.set d n } (m.pc + 1)
def sampleM (m : M) (irq : Bool) : M := if (m.waits || irq) && m.lets then { m with waits := false, lets := false, save := m.pc, pc := 48 } else { m with waits := m.waits || irq }
theorem row_at {w : World} {B off cap : Nat} {xs : List Int} (h : WRow w B (.slice (some ⟨B, off, none⟩) xs.length cap) xs) {i : Nat} {x : Int} (hx : xs[i]? = some x) : w.cell? ⟨B, off + i, none⟩ = some (.int .i64 x) ∧ w.frozen? ⟨B, off + i, none⟩ = false := by
  obtain ⟨a0, cap0, off0, hv, h2, h3, hz, h4⟩ := h
  cases hv
  rcases h4 with h4 | ⟨h4, hlt, h5⟩
  · rw [h4] at hx; simp at hx
  cases h4
  exact h5 i x hx
theorem row_set {w : World} {B off cap : Nat} {xs : List Int} (h : WRow w B (.slice (some ⟨B, off, none⟩) xs.length cap) xs) (d : Nat) (n : Int) (hd : d < xs.length) : WRow (w.setCell ⟨B, off + d, none⟩ (.int .i64 n)) B (.slice (some ⟨B, off, none⟩) (xs.set d n).length cap) (xs.set d n) := by
  obtain ⟨a0, cap0, off0, hv, h2, h3, hz, h4⟩ := h
  cases hv
  rcases h4 with h4 | ⟨h4, hlt, h5⟩
  · rw [h4] at hd; simp at hd
  cases h4
  refine ⟨some ⟨B, off, none⟩, cap, off, rfl, by rw [List.length_set]; exact h2, h3, hz, Or.inr ⟨rfl, by simpa using hlt, fun i x hx => ⟨?_, (World.frozen?_setCell ..).trans ?_⟩⟩⟩
  · by_cases e : d = i
    · subst e
      rw [List.getElem?_set_self hd] at hx
      obtain rfl := Option.some.inj hx
      exact World.cell?_setCell_same w _ _ (h5 d _ (List.getElem?_eq_getElem hd)).1
    · rw [List.getElem?_set_ne e] at hx
      rw [World.cell?_setCell_other w _ _ _ (fun h2 => e (by have h3 : off + d = off + i := congrArg Addr.off h2; omega))]
      exact (h5 i x hx).1
  · have hi : i < xs.length := by have := (List.getElem?_eq_some_iff.1 hx).1; rwa [List.length_set] at this
    exact (h5 i _ (List.getElem?_eq_getElem hi)).2
theorem forms {w : World} {lo : Nat} {c : List Value} {m : M} (h : CMach w lo c m) : ∃ b1 o1 k1 b2 o2 k2 b3 o3 k3 b4 k4, c = mv m (.slice (some ⟨b1, o1, none⟩) m.regs.length k1) (.slice (some ⟨b2, o2, none⟩) m.mem.length k2) (.slice (some ⟨b3, o3, none⟩) m.ins.length k3) (.slice (some ⟨b4, 0, none⟩) m.outs.length k4) := by
  obtain ⟨b1, b2, b3, b4, o1, o2, o3, k1, k2, k3, k4, hc, _⟩ := h
  exact ⟨b1, o1, k1, b2, o2, k2, b3, o3, k3, b4, k4, hc⟩
theorem CMach.parts {w : World} {lo b1 o1 k1 b2 o2 k2 b3 o3 k3 b4 k4 : Nat} {m : M} (h : CMach w lo (mv m (.slice (some ⟨b1, o1, none⟩) m.regs.length k1) (.slice (some ⟨b2, o2, none⟩) m.mem.length k2) (.slice (some ⟨b3, o3, none⟩) m.ins.length k3) (.slice (some ⟨b4, 0, none⟩) m.outs.length k4)) m) :
    WRow w b1 (.slice (some ⟨b1, o1, none⟩) m.regs.length k1) m.regs ∧ WRow w b2 (.slice (some ⟨b2, o2, none⟩) m.mem.length k2) m.mem ∧ WRow w b3 (.slice (some ⟨b3, o3, none⟩) m.ins.length k3) m.ins ∧ Own w lo (.slice (some ⟨b4, 0, none⟩) m.outs.length k4) m.outs ∧ (lo ≤ b1 ∧ lo ≤ b2 ∧ lo ≤ b3 ∧ lo ≤ b4) ∧ (b1 ≠ b2 ∧ b1 ≠ b3 ∧ b1 ≠ b4 ∧ b2 ≠ b3 ∧ b2 ≠ b4 ∧ b3 ≠ b4) ∧ (IsR w b1 o1 k1 ∧ IsT w b2 3 ∧ IsT w b3 3 ∧ IsT w b4 3) := by
  obtain ⟨c1, c2, c3, c4, p1, p2, p3, e1, e2, e3, e4, hc, r⟩ := h
  simp only [mv, List.cons.injEq, Value.slice.injEq, Option.some.injEq, Addr.mk.injEq, and_true, true_and] at hc
  obtain ⟨⟨⟨rfl, rfl⟩, rfl⟩, ⟨⟨rfl, rfl⟩, rfl⟩, ⟨⟨rfl, rfl⟩, rfl⟩, ⟨rfl, rfl⟩⟩ := hc
  exact r
theorem CMach.below {w w' : World} {lo : Nat} {c : List Value} {m : M} (h : CMach w lo c m) (hb : Below w.heap.size w w') : CMach w' lo c m := by
  obtain ⟨b1, b2, b3, b4, o1, o2, o3, k1, k2, k3, k4, hc, h1, h2, h3, h4, hlo, hd, t1, t2, t3, t4⟩ := h
  have := t4.lt
  exact ⟨b1, b2, b3, b4, o1, o2, o3, k1, k2, k3, k4, hc, h1.below hb, h2.below hb, h3.below hb, h4.turn (B := w.heap.size) (Turn.of_below hb) (by omega) t4.lt, hlo, hd, t1.below hb, t2.below hb, t3.below hb, t4.below hb⟩
theorem CMach.write {w : World} {lo : Nat} {c : List Value} {m : M} (h : CMach w lo c m) : WMach w lo c m := by
  obtain ⟨b1, b2, b3, b4, o1, o2, o3, k1, k2, k3, k4, hc, h1, h2, h3, h4, ⟨e1, e2, e3, e4⟩, ⟨d1, d2, d3, d4, d5, d6⟩, _⟩ := h
  obtain ⟨g, cap, hv, _, _, hr⟩ := h4.form (by simp)
  cases hv
  exact ⟨_, _, _, _, b1, b2, b3, b4, hc, h1, h2, h3, hr, e1, e2, e3, e4, d1, d2, d3, d4, d5, d6⟩
theorem CMach.other {w : World} {lo : Nat} {c : List Value} {m : M} (h : CMach w lo c m) {Z : Nat} {t : TypeId} (hZ : IsT w Z t) (ht : t ≠ 3) (j : Nat) (v : Value) : CMach (w.setCell ⟨Z, j, none⟩ v) lo c m := by
  obtain ⟨b1, b2, b3, b4, o1, o2, o3, k1, k2, k3, k4, hc, h1, h2, h3, h4, hlo, hd, t1, t2, t3, t4⟩ := h
  exact ⟨b1, b2, b3, b4, o1, o2, o3, k1, k2, k3, k4, hc, other_row h1 _ _ (hZ.ne t1.t ht), other_row h2 _ _ (hZ.ne t2 ht), other_row h3 _ _ (hZ.ne t3 ht), h4.set _ _ (hZ.ne t4 ht) t4.lt, hlo, hd, t1.set _ _, t2.set _ _, t3.set _ _, t4.set _ _⟩
theorem CMach.ten {u : World} {lo : Nat} {c : List Value} {m : M} (h : CMach u lo c m) {Z : Nat} {t : TypeId} (hZ : IsT u Z t) (ht : t ≠ 3) (v0 v1 v2 v3 v4 v5 v6 v7 v8 v9 : Value) : CMach ((((((((((u.setCell ⟨Z, 0, none⟩ v0).setCell ⟨Z, 1, none⟩ v1).setCell ⟨Z, 2, none⟩ v2).setCell ⟨Z, 3, none⟩ v3).setCell ⟨Z, 4, none⟩ v4).setCell ⟨Z, 5, none⟩ v5).setCell ⟨Z, 6, none⟩ v6).setCell ⟨Z, 7, none⟩ v7).setCell ⟨Z, 8, none⟩ v8).setCell ⟨Z, 9, none⟩ v9) lo c m := by
  have z0 := hZ
  exact (CMach.other (CMach.other (CMach.other (CMach.other (CMach.other (CMach.other (CMach.other (CMach.other (CMach.other (CMach.other h hZ ht 0 v0) (hZ.set ⟨Z, 0, none⟩ v0) ht 1 v1) ((hZ.set ⟨Z, 0, none⟩ v0).set ⟨Z, 1, none⟩ v1) ht 2 v2) (((hZ.set ⟨Z, 0, none⟩ v0).set ⟨Z, 1, none⟩ v1).set ⟨Z, 2, none⟩ v2) ht 3 v3) ((((hZ.set ⟨Z, 0, none⟩ v0).set ⟨Z, 1, none⟩ v1).set ⟨Z, 2, none⟩ v2).set ⟨Z, 3, none⟩ v3) ht 4 v4) (((((hZ.set ⟨Z, 0, none⟩ v0).set ⟨Z, 1, none⟩ v1).set ⟨Z, 2, none⟩ v2).set ⟨Z, 3, none⟩ v3).set ⟨Z, 4, none⟩ v4) ht 5 v5) ((((((hZ.set ⟨Z, 0, none⟩ v0).set ⟨Z, 1, none⟩ v1).set ⟨Z, 2, none⟩ v2).set ⟨Z, 3, none⟩ v3).set ⟨Z, 4, none⟩ v4).set ⟨Z, 5, none⟩ v5) ht 6 v6) (((((((hZ.set ⟨Z, 0, none⟩ v0).set ⟨Z, 1, none⟩ v1).set ⟨Z, 2, none⟩ v2).set ⟨Z, 3, none⟩ v3).set ⟨Z, 4, none⟩ v4).set ⟨Z, 5, none⟩ v5).set ⟨Z, 6, none⟩ v6) ht 7 v7) ((((((((hZ.set ⟨Z, 0, none⟩ v0).set ⟨Z, 1, none⟩ v1).set ⟨Z, 2, none⟩ v2).set ⟨Z, 3, none⟩ v3).set ⟨Z, 4, none⟩ v4).set ⟨Z, 5, none⟩ v5).set ⟨Z, 6, none⟩ v6).set ⟨Z, 7, none⟩ v7) ht 8 v8) (((((((((hZ.set ⟨Z, 0, none⟩ v0).set ⟨Z, 1, none⟩ v1).set ⟨Z, 2, none⟩ v2).set ⟨Z, 3, none⟩ v3).set ⟨Z, 4, none⟩ v4).set ⟨Z, 5, none⟩ v5).set ⟨Z, 6, none⟩ v6).set ⟨Z, 7, none⟩ v7).set ⟨Z, 8, none⟩ v8) ht 9 v9)
theorem below_ten {w u : World} {n Z : Nat} (h : Below n w u) (hZ : n ≤ Z) (v0 v1 v2 v3 v4 v5 v6 v7 v8 v9 : Value) : Below n w ((((((((((u.setCell ⟨Z, 0, none⟩ v0).setCell ⟨Z, 1, none⟩ v1).setCell ⟨Z, 2, none⟩ v2).setCell ⟨Z, 3, none⟩ v3).setCell ⟨Z, 4, none⟩ v4).setCell ⟨Z, 5, none⟩ v5).setCell ⟨Z, 6, none⟩ v6).setCell ⟨Z, 7, none⟩ v7).setCell ⟨Z, 8, none⟩ v8).setCell ⟨Z, 9, none⟩ v9) :=
  ((((((((((h.setCell (p := ⟨Z, 0, none⟩) hZ v0).setCell (p := ⟨Z, 1, none⟩) hZ v1).setCell (p := ⟨Z, 2, none⟩) hZ v2).setCell (p := ⟨Z, 3, none⟩) hZ v3).setCell (p := ⟨Z, 4, none⟩) hZ v4).setCell (p := ⟨Z, 5, none⟩) hZ v5).setCell (p := ⟨Z, 6, none⟩) hZ v6).setCell (p := ⟨Z, 7, none⟩) hZ v7).setCell (p := ⟨Z, 8, none⟩) hZ v8).setCell (p := ⟨Z, 9, none⟩) hZ v9)
theorem CMach.plain {w : World} {lo : Nat} {regs mem ins outs : List Int} {pc save halt count pc' save' halt' count' : Int} {lets waits lets' waits' : Bool} {v1 v2 v3 v4 : Value} (h : CMach w lo (mv ⟨regs, pc, mem, save, lets, waits, halt, ins, outs, count⟩ v1 v2 v3 v4) ⟨regs, pc, mem, save, lets, waits, halt, ins, outs, count⟩) :
    CMach w lo (mv ⟨regs, pc', mem, save', lets', waits', halt', ins, outs, count'⟩ v1 v2 v3 v4) ⟨regs, pc', mem, save', lets', waits', halt', ins, outs, count'⟩ := by
  obtain ⟨b1, b2, b3, b4, o1, o2, o3, k1, k2, k3, k4, hc, r⟩ := h
  simp only [mv, List.cons.injEq, and_true, true_and] at hc
  obtain ⟨rfl, rfl, rfl, rfl⟩ := hc
  exact ⟨b1, b2, b3, b4, o1, o2, o3, k1, k2, k3, k4, rfl, r⟩
theorem CMach.setReg {w : World} {lo b1 o1 k1 b2 o2 k2 b3 o3 k3 b4 k4 : Nat} {m : M} (h : CMach w lo (mv m (.slice (some ⟨b1, o1, none⟩) m.regs.length k1) (.slice (some ⟨b2, o2, none⟩) m.mem.length k2) (.slice (some ⟨b3, o3, none⟩) m.ins.length k3) (.slice (some ⟨b4, 0, none⟩) m.outs.length k4)) m) (d : Nat) (n : Int) (hd : d < m.regs.length) :
    CMach (w.setCell ⟨b1, o1 + d, none⟩ (.int .i64 n)) lo (mv m (.slice (some ⟨b1, o1, none⟩) m.regs.length k1) (.slice (some ⟨b2, o2, none⟩) m.mem.length k2) (.slice (some ⟨b3, o3, none⟩) m.ins.length k3) (.slice (some ⟨b4, 0, none⟩) m.outs.length k4)) { m with regs := m.regs.set d n } := by
  obtain ⟨h1, h2, h3, h4, hlo, ⟨d1, d2, d3, d4, d5, d6⟩, t1, t2, t3, t4⟩ := h.parts
  refine ⟨b1, b2, b3, b4, o1, o2, o3, k1, k2, k3, k4, ?_, row_set h1 d n hd, other_row h2 _ _ d1, other_row h3 _ _ d2, h4.set _ _ d3 t4.lt, hlo, ⟨d1, d2, d3, d4, d5, d6⟩, t1.set _ _, t2.set _ _, t3.set _ _, t4.set _ _⟩
  simp only [mv, List.length_set]
theorem CMach.setMem {w : World} {lo b1 o1 k1 b2 o2 k2 b3 o3 k3 b4 k4 : Nat} {m : M} (h : CMach w lo (mv m (.slice (some ⟨b1, o1, none⟩) m.regs.length k1) (.slice (some ⟨b2, o2, none⟩) m.mem.length k2) (.slice (some ⟨b3, o3, none⟩) m.ins.length k3) (.slice (some ⟨b4, 0, none⟩) m.outs.length k4)) m) (d : Nat) (n : Int) (hd : d < m.mem.length) :
    CMach (w.setCell ⟨b2, o2 + d, none⟩ (.int .i64 n)) lo (mv m (.slice (some ⟨b1, o1, none⟩) m.regs.length k1) (.slice (some ⟨b2, o2, none⟩) m.mem.length k2) (.slice (some ⟨b3, o3, none⟩) m.ins.length k3) (.slice (some ⟨b4, 0, none⟩) m.outs.length k4)) { m with mem := m.mem.set d n } := by
  obtain ⟨h1, h2, h3, h4, hlo, ⟨d1, d2, d3, d4, d5, d6⟩, t1, t2, t3, t4⟩ := h.parts
  refine ⟨b1, b2, b3, b4, o1, o2, o3, k1, k2, k3, k4, ?_, other_row h1 _ _ (Ne.symm d1), row_set h2 d n hd, other_row h3 _ _ d4, h4.set _ _ d5 t4.lt, hlo, ⟨d1, d2, d3, d4, d5, d6⟩, t1.set _ _, t2.set _ _, t3.set _ _, t4.set _ _⟩
  simp only [mv, List.length_set]
set_option maxRecDepth 8000 in
set_option maxHeartbeats 4000000 in
theorem l3Halt (q1 q2 q3 q4 : Option Addr) (n1 n2 n3 n4 j1 j2 j3 j4 : Nat) (pc save halt count : Int) (lets waits : Bool) (x : Int) (w : World) :
    Calls Tryz.prog 37 #[.agg #[.slice q1 n1 j1, .int .i64 pc, .slice q2 n2 j2, .int .i64 save, .bool lets, .bool waits, .int .i64 halt, .slice q3 n3 j3, .slice q4 n4 j4, .int .i64 count], .int .i64 x] w fun e w' => e = .returned (.agg #[.slice q1 n1 j1, .int .i64 pc, .slice q2 n2 j2, .int .i64 save, .bool lets, .bool waits, .int .i64 x, .slice q3 n3 j3, .slice q4 n4 j4, .int .i64 count]) ∧ Below w.heap.size w w' := by
  go_enter Tryz.func37, Tryz.ntmps37
  go_wp2
  refine bodyPost_ret (v := .agg #[.slice q1 n1 j1, .int .i64 pc, .slice q2 n2 j2, .int .i64 save, .bool lets, .bool waits, .int .i64 x, .slice q3 n3 j3, .slice q4 n4 j4, .int .i64 count]) (by simp [results, Tryz.results37, go_sem]) rfl ⟨rfl, ?_⟩
  go_grown
set_option maxRecDepth 8000 in
set_option maxHeartbeats 4000000 in
theorem l3Next (q1 q2 q3 q4 : Option Addr) (n1 n2 n3 n4 j1 j2 j3 j4 : Nat) (pc save halt count : Int) (lets waits : Bool) (x : Int) (w : World) (c0 : 0 ≤ count) (c1 : count ≤ 1000000) :
    Calls Tryz.prog 78 #[.agg #[.slice q1 n1 j1, .int .i64 pc, .slice q2 n2 j2, .int .i64 save, .bool lets, .bool waits, .int .i64 halt, .slice q3 n3 j3, .slice q4 n4 j4, .int .i64 count], .int .i64 x] w fun e w' => e = .returned (.agg #[.slice q1 n1 j1, .int .i64 (x % 65536), .slice q2 n2 j2, .int .i64 save, .bool lets, .bool waits, .int .i64 halt, .slice q3 n3 j3, .slice q4 n4 j4, .int .i64 (count + 1)]) ∧ Below w.heap.size w w' := by
  go_enter Tryz.func78, Tryz.ntmps78
  go_wp2_with fail
  refine (Wrd.specWrap x _).mono ?_
  rintro e u ⟨rfl, rfl⟩
  go_wp2
  refine bodyPost_ret (v := .agg #[.slice q1 n1 j1, .int .i64 (x % 65536), .slice q2 n2 j2, .int .i64 save, .bool lets, .bool waits, .int .i64 halt, .slice q3 n3 j3, .slice q4 n4 j4, .int .i64 (count + 1)]) (by simp [results, Tryz.results78, go_sem]) rfl ⟨rfl, ?_⟩
  go_grown
/-- What l3Sample leaves. -/
def sampleC (q1 q2 q3 q4 : Option Addr) (n1 n2 n3 n4 j1 j2 j3 j4 : Nat) (pc save halt count : Int) (lets waits : Bool) (irq : Bool) : Array Value := if (waits || irq) && lets then #[.slice q1 n1 j1, .int .i64 48, .slice q2 n2 j2, .int .i64 pc, .bool false, .bool false, .int .i64 halt, .slice q3 n3 j3, .slice q4 n4 j4, .int .i64 count] else #[.slice q1 n1 j1, .int .i64 pc, .slice q2 n2 j2, .int .i64 save, .bool lets, .bool (waits || irq), .int .i64 halt, .slice q3 n3 j3, .slice q4 n4 j4, .int .i64 count]
set_option maxRecDepth 8000 in
set_option maxHeartbeats 4000000 in
theorem l3Sample (q1 q2 q3 q4 : Option Addr) (n1 n2 n3 n4 j1 j2 j3 j4 : Nat) (pc save halt count : Int) (lets waits : Bool) (irq : Bool) (w : World) :
    Calls Tryz.prog 36 #[.agg #[.slice q1 n1 j1, .int .i64 pc, .slice q2 n2 j2, .int .i64 save, .bool lets, .bool waits, .int .i64 halt, .slice q3 n3 j3, .slice q4 n4 j4, .int .i64 count], .bool irq] w fun e w' => e = .returned (.agg (sampleC q1 q2 q3 q4 n1 n2 n3 n4 j1 j2 j3 j4 pc save halt count lets waits irq)) ∧ Below w.heap.size w w' := by
  cases waits <;> cases irq <;> cases lets
  · go_enter Tryz.func36, Tryz.ntmps36
    go_wp2
    refine bodyPost_ret (v := .agg #[.slice q1 n1 j1, .int .i64 pc, .slice q2 n2 j2, .int .i64 save, .bool false, .bool false, .int .i64 halt, .slice q3 n3 j3, .slice q4 n4 j4, .int .i64 count]) (by simp [results, Tryz.results36, go_sem]) rfl ⟨rfl, ?_⟩
    go_grown
  · go_enter Tryz.func36, Tryz.ntmps36
    go_wp2
    refine bodyPost_ret (v := .agg #[.slice q1 n1 j1, .int .i64 pc, .slice q2 n2 j2, .int .i64 save, .bool true, .bool false, .int .i64 halt, .slice q3 n3 j3, .slice q4 n4 j4, .int .i64 count]) (by simp [results, Tryz.results36, go_sem]) rfl ⟨rfl, ?_⟩
    go_grown
  · go_enter Tryz.func36, Tryz.ntmps36
    go_wp2
    refine bodyPost_ret (v := .agg #[.slice q1 n1 j1, .int .i64 pc, .slice q2 n2 j2, .int .i64 save, .bool false, .bool true, .int .i64 halt, .slice q3 n3 j3, .slice q4 n4 j4, .int .i64 count]) (by simp [results, Tryz.results36, go_sem]) rfl ⟨rfl, ?_⟩
    go_grown
  · go_enter Tryz.func36, Tryz.ntmps36
    go_wp2
    refine bodyPost_ret (v := .agg #[.slice q1 n1 j1, .int .i64 48, .slice q2 n2 j2, .int .i64 pc, .bool false, .bool false, .int .i64 halt, .slice q3 n3 j3, .slice q4 n4 j4, .int .i64 count]) (by simp [results, Tryz.results36, go_sem]) rfl ⟨rfl, ?_⟩
    go_grown
  · go_enter Tryz.func36, Tryz.ntmps36
    go_wp2
    refine bodyPost_ret (v := .agg #[.slice q1 n1 j1, .int .i64 pc, .slice q2 n2 j2, .int .i64 save, .bool false, .bool true, .int .i64 halt, .slice q3 n3 j3, .slice q4 n4 j4, .int .i64 count]) (by simp [results, Tryz.results36, go_sem]) rfl ⟨rfl, ?_⟩
    go_grown
  · go_enter Tryz.func36, Tryz.ntmps36
    go_wp2
    refine bodyPost_ret (v := .agg #[.slice q1 n1 j1, .int .i64 48, .slice q2 n2 j2, .int .i64 pc, .bool false, .bool false, .int .i64 halt, .slice q3 n3 j3, .slice q4 n4 j4, .int .i64 count]) (by simp [results, Tryz.results36, go_sem]) rfl ⟨rfl, ?_⟩
    go_grown
  · go_enter Tryz.func36, Tryz.ntmps36
    go_wp2
    refine bodyPost_ret (v := .agg #[.slice q1 n1 j1, .int .i64 pc, .slice q2 n2 j2, .int .i64 save, .bool false, .bool true, .int .i64 halt, .slice q3 n3 j3, .slice q4 n4 j4, .int .i64 count]) (by simp [results, Tryz.results36, go_sem]) rfl ⟨rfl, ?_⟩
    go_grown
  · go_enter Tryz.func36, Tryz.ntmps36
    go_wp2
    refine bodyPost_ret (v := .agg #[.slice q1 n1 j1, .int .i64 48, .slice q2 n2 j2, .int .i64 pc, .bool false, .bool false, .int .i64 halt, .slice q3 n3 j3, .slice q4 n4 j4, .int .i64 count]) (by simp [results, Tryz.results36, go_sem]) rfl ⟨rfl, ?_⟩
    go_grown
theorem Rec.ints {Z lo : Nat} {cs : List Value} {w w' : World} {t : TypeId} (h : Rec Z cs w) (hZ : IsT w Z t) (ht : t ≠ 3) (hi : Ints lo w w') : Rec Z cs w' := by
  have hn : ¬ IsT w Z 3 := fun h2 => hZ.ne h2 ht rfl
  have e := hi.rest Z h.lt hn
  exact ⟨Nat.lt_of_lt_of_le h.lt hi.size, fun i v hv => (World.cell?_of_block (w := w) (a := ⟨Z, i, none⟩) e).trans (h.cell i v hv), fun i => (World.frozen?_of_block (w := w) (a := ⟨Z, i, none⟩) e).trans (h.soft i)⟩
theorem ints_ten {w u : World} {lo Z : Nat} (h : Ints lo w u) (hZ : w.heap.size ≤ Z) (v0 v1 v2 v3 v4 v5 v6 v7 v8 v9 : Value) : Ints lo w ((((((((((u.setCell ⟨Z, 0, none⟩ v0).setCell ⟨Z, 1, none⟩ v1).setCell ⟨Z, 2, none⟩ v2).setCell ⟨Z, 3, none⟩ v3).setCell ⟨Z, 4, none⟩ v4).setCell ⟨Z, 5, none⟩ v5).setCell ⟨Z, 6, none⟩ v6).setCell ⟨Z, 7, none⟩ v7).setCell ⟨Z, 8, none⟩ v8).setCell ⟨Z, 9, none⟩ v9) :=
  ((((((((((h.high (p := ⟨Z, 0, none⟩) hZ v0).high (p := ⟨Z, 1, none⟩) hZ v1).high (p := ⟨Z, 2, none⟩) hZ v2).high (p := ⟨Z, 3, none⟩) hZ v3).high (p := ⟨Z, 4, none⟩) hZ v4).high (p := ⟨Z, 5, none⟩) hZ v5).high (p := ⟨Z, 6, none⟩) hZ v6).high (p := ⟨Z, 7, none⟩) hZ v7).high (p := ⟨Z, 8, none⟩) hZ v8).high (p := ⟨Z, 9, none⟩) hZ v9)
end Go.Proofs.YtnhpmbhphbphaaaGreat.Mch
