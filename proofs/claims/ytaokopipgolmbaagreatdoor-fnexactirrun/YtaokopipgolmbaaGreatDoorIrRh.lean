/-
  How a piece of code runs: the specification's IrRun.
-/
import Derived.Test.YtaokopipgolmbaaGreatDoorIrRr
import Derived.Test.YtaokopipgolmbaaGreatDoorMchL
namespace Go.Proofs.YtaokopipgolmbaaGreatDoor.Ir
set_option linter.unusedVariables false
set_option linter.unusedSimpArgs false
open Go.ChangeShapes Go.WideShapes Go.ChangeAt Go.RowKit IntS Mch
/-- Whether a machine stands at a piece of code, and has room for it. -/
def standB (b : Bk) (m : M) : Bool := decide (m.halt = 0) && decide (m.pc = b.pc) && decide (m.count ≤ 1000000 - b.ln)
/-- The machine that IrRun tells, where both are ok. -/
def irM (b : Bk) (m : M) : M := if standB b m = true then runM b b.ops m [] else m
/-- What IrRun tells. -/
def IrR (lo : Nat) (b : Bk) (m : M) (e : Ending) (w' : World) : Prop := ∃ c', e = .returned (.tuple #[.agg c'.toArray, .bool (okB b && okM m && standB b m)]) ∧ ((okB b && okM m) = false → c' = [.slice none 0 0, .int .i64 0, .slice none 0 0, .int .i64 0, .bool false, .bool false, .int .i64 0, .slice none 0 0, .slice none 0 0, .int .i64 0]) ∧ ((okB b && okM m) = true → CMach w' lo c' (irM b m))
theorem _root_.Go.Proofs.YtaokopipgolmbaaGreatDoor.Mch.CMach.mb_lt {w : World} {lo : Nat} {c : List Value} {m : M} (h : CMach w lo c m) : ∀ g, g ∈ mb c → lo ≤ g ∧ g < w.heap.size := by
  obtain ⟨b1, b2, b3, b4, o1, o2, o3, k1, k2, k3, k4, hc, h1, h2, h3, h4, hlo, hd, t1, t2, t3, t4⟩ := h
  subst hc
  intro g hg
  have h5 : g ∈ [b1, b2, b3, b4] := hg
  simp only [List.mem_cons, List.not_mem_nil, or_false] at h5
  have := t1.lt
  have := t2.lt
  have := t3.lt
  have := t4.lt
  omega
theorem _root_.Go.Proofs.YtaokopipgolmbaaGreatDoor.Mch.CMach.lowI {w : World} {lo lo' : Nat} {c : List Value} {m : M} (h : CMach w lo c m) (hl : lo' ≤ lo) : CMach w lo' c m := by
  obtain ⟨b1, b2, b3, b4, o1, o2, o3, k1, k2, k3, k4, hc, h1, h2, h3, h4, ⟨e1, e2, e3, e4⟩, r⟩ := h
  exact ⟨b1, b2, b3, b4, o1, o2, o3, k1, k2, k3, k4, hc, h1, h2, h3, h4.mono hl, ⟨by omega, by omega, by omega, by omega⟩, r⟩
theorem ops_at {ops : List Opn} {size : Int} {k : Nat} {o : Opn} (h : opsB ops size ops.length = true) (ho : ops[k]? = some o) : opB (ops.take k) o size = true := by
  have hk : k < ops.length := (List.getElem?_eq_some_iff.1 ho).1
  cases e : opB (ops.take k) o size with
  | true => rfl
  | false => rw [ops_stop hk ho e] at h; cases h
theorem words_all {xs : List Int} (h : wordsB xs = true) : ∀ x ∈ xs, isW x := fun x hx => by
  obtain ⟨k, hk⟩ := List.getElem?_of_mem hx
  cases e : Wrd.wok x with
  | false => rw [words_no hk e] at h; cases h
  | true => simpa [Wrd.wok, isW] using e
theorem inv_ok {m : M} (h : okM m = true) : Inv m [] ∧ 0 ≤ m.count ∧ m.count ≤ 1000000 := by
  unfold okM Ins.inB at h
  simp only [Bool.and_eq_true, decide_eq_true_eq] at h
  obtain ⟨⟨⟨⟨⟨⟨⟨⟨⟨h1, h2⟩, _⟩, h4⟩, h5⟩, _⟩, _⟩, h8⟩, _⟩, h10⟩ := h
  exact ⟨⟨h1, h4, words_all h2, words_all h5, words_all h8, fun x hx => by cases hx⟩, by omega, by omega⟩
theorem head_ok {b : Bk} (h : okB b = true) : 0 ≤ b.pc ∧ b.pc ≤ 64 ∧ 1 ≤ b.ln ∧ b.ln ≤ 8 ∧ b.ops.length ≤ 48 ∧ opsB b.ops b.ln b.ops.length = true ∧ endB b.ops b.en b.x b.y b.k = true := by
  unfold okB headB inI at h
  simp only [Bool.and_eq_true, decide_eq_true_eq] at h
  obtain ⟨⟨⟨⟨h1, h2⟩, h3⟩, h4⟩, h5⟩ := h
  exact ⟨by omega, by omega, by omega, by omega, h3, h4, h5⟩

theorem l6Word (m : M) (o : Opn) (x y : Int) (lo : Nat) (c : List Value) (w : World) (h : CMach w lo c m) (hr : m.regs.length = 4) (hk : 1 ≤ o.kd ∧ o.kd ≤ 3) (hk2 : o.kd = 2 ∨ o.kd = 8 → 0 ≤ o.k ∧ o.k ≤ 3) :
    Calls Tryz.prog 22 #[.agg c.toArray, .agg #[.int .i64 o.kd, .int .i64 o.x, .int .i64 o.y, .int .i64 o.k, .int .i64 o.t], .int .i64 x, .int .i64 y] w fun e w' => e = .returned (.int .i64 (wordM m o x y)) ∧ Below w.heap.size w w' := by
  obtain ⟨kd, x_, y_, k_, t_⟩ := o
  simp only [] at hk hk2 ⊢
  have hh : kd = 1 ∨ kd = 2 ∨ kd = 3 := by omega
  rcases hh with rfl | rfl | rfl
  · exact l6Word_1 m x_ y_ k_ t_ x y lo c w h
  · obtain ⟨h0, h3⟩ := hk2 (Or.inl rfl)
    obtain ⟨d, rfl⟩ := Int.eq_ofNat_of_zero_le h0
    exact l6Word_2 m x_ y_ (d : Int) t_ x y lo c w h (by omega) d (by omega) rfl
  · exact l6Word_3 m x_ y_ k_ t_ x y lo c w h
theorem l6Go (vs : List Int) (b : Bk) (q : Option Addr) (n1 j1 : Nat) (B : Nat) (v : Value) (w : World) (h : Row w B v vs) (he : endB b.ops b.en b.x b.y b.k = true) (hl : vs.length = b.ops.length) (p0 : 0 ≤ b.pc) (p1 : b.pc ≤ 64) (l0 : 0 ≤ b.ln) (l1 : b.ln ≤ 8) :
    Calls Tryz.prog 23 #[.agg #[.int .i64 b.pc, .int .i64 b.ln, .slice q n1 j1, .int .i64 b.en, .int .i64 b.x, .int .i64 b.y, .int .i64 b.k], v] w fun e w' => e = .returned (.int .i64 (goM b vs)) ∧ Below w.heap.size w w' := by
  obtain ⟨pc, ln, ops, en, x, y, k⟩ := b
  simp only [] at he hl p0 p1 l0 l1 ⊢
  unfold endB at he
  split at he
  · rename_i e
    subst e
    exact l6Go_1 vs pc ln k q n1 j1 ops x y B v w h p0 p1 l0 l1
  split at he
  · rename_i e
    subst e
    simp only [Bool.and_eq_true, decide_eq_true_eq] at he
    have hv := val_lt he.1.1
    obtain ⟨i, rfl⟩ := Int.eq_ofNat_of_zero_le hv.1
    exact l6Go_2 vs pc ln k q n1 j1 ops i y (by omega) B v w h p0 p1 l0 l1
  split at he
  · rename_i e
    simp only [Bool.and_eq_true, decide_eq_true_eq] at he
    have hv := val_lt he.1.1
    have hv2 := val_lt he.1.2
    obtain ⟨i, rfl⟩ := Int.eq_ofNat_of_zero_le hv.1
    obtain ⟨j, rfl⟩ := Int.eq_ofNat_of_zero_le hv2.1
    rcases e with rfl | rfl
    · by_cases hq : atI vs (i : Int) = atI vs (j : Int)
      · exact l6Go_3t vs pc ln k q n1 j1 ops i j (by omega) (by omega) hq B v w h p0 p1 l0 l1
      · exact l6Go_3f vs pc ln k q n1 j1 ops i j (by omega) (by omega) hq B v w h p0 p1 l0 l1
    · by_cases hq : atI vs (i : Int) < atI vs (j : Int)
      · exact l6Go_4t vs pc ln k q n1 j1 ops i j (by omega) (by omega) hq B v w h p0 p1 l0 l1
      · exact l6Go_4f vs pc ln k q n1 j1 ops i j (by omega) (by omega) hq B v w h p0 p1 l0 l1
  · cases he

set_option maxRecDepth 8000 in
set_option maxHeartbeats 16000000 in
theorem specIrRun (b : Bk) (m : M) (cb cm : List Value) (w : World) (hb : RBk w cb b) (hm : RMach w cm m) (hs : Mid m) :
    Calls Tryz.prog 6 #[.agg cb.toArray, .agg cm.toArray] w fun e w' => IrR w.heap.size b m e w' ∧ Below w.heap.size w w' := by
  have HB := hide hb
  have HM := hide hm
  have MID := hide hs
  clear hs
  obtain ⟨qa, cap, B, rfl, hr⟩ := hb
  obtain ⟨r, e, i, o, b1, b2, b3, b4, rfl, h1, h2, h3, h4⟩ := hm
  obtain ⟨q1, k1, _, rfl, _⟩ := h1
  obtain ⟨q2, k2, _, rfl, _⟩ := h2
  obtain ⟨q3, k3, _, rfl, _⟩ := h3
  obtain ⟨q4, k4, _, rfl, _⟩ := h4
  obtain ⟨R, eR⟩ : ∃ R, irM b m = R := ⟨_, rfl⟩
  have ER := hide eR
  clear eR
  obtain ⟨kk, ek⟩ : ∃ kk, (okB b && okM m && standB b m) = kk := ⟨_, rfl⟩
  have EK := hide ek
  clear ek
  have IR : Hid (∀ c' w', ((okB b && okM m) = false → c' = [.slice none 0 0, .int .i64 0, .slice none 0 0, .int .i64 0, .bool false, .bool false, .int .i64 0, .slice none 0 0, .slice none 0 0, .int .i64 0]) → ((okB b && okM m) = true → CMach w' w.heap.size c' R) → IrR w.heap.size b m (.returned (.tuple #[.agg c'.toArray, .bool kk])) w') := fun c' w' g1 g2 => ⟨c', by rw [EK.out], g1, by rw [ER.out]; exact g2⟩
  obtain ⟨bp, ln, ops, en, bx, by_, bk⟩ := b
  obtain ⟨regs, pc, mem, save, lets, waits, halt, ins, outs, count⟩ := m
  simp only [mv, bv] at *
  have T := Three.new w [.int .i64 bp, .int .i64 ln, .slice qa ops.length cap, .int .i64 en, .int .i64 bx, .int .i64 by_, .int .i64 bk] [.slice q1 regs.length k1, .int .i64 pc, .slice q2 mem.length k2, .int .i64 save, .bool lets, .bool waits, .int .i64 halt, .slice q3 ins.length k3, .slice q4 outs.length k4, .int .i64 count] [.slice none 0 0, .int .i64 0, .slice none 0 0, .int .i64 0, .bool false, .bool false, .int .i64 0, .slice none 0 0, .slice none 0 0, .int .i64 0] 35 30 30
  have T1 := hide T
  have BT := hide (IsT.below (IsT.below (IsT.new w #[.int .i64 bp, .int .i64 ln, .slice qa ops.length cap, .int .i64 en, .int .i64 bx, .int .i64 by_, .int .i64 bk] 35) (alloc_below _ (.cells #[.slice q1 regs.length k1, .int .i64 pc, .slice q2 mem.length k2, .int .i64 save, .bool lets, .bool waits, .int .i64 halt, .slice q3 ins.length k3, .slice q4 outs.length k4, .int .i64 count] 30))) (alloc_below _ (.cells #[.slice none 0 0, .int .i64 0, .slice none 0 0, .int .i64 0, .bool false, .bool false, .int .i64 0, .slice none 0 0, .slice none 0 0, .int .i64 0] 30)))
  have ZT0 := IsT.new ((w.alloc (.cells #[.int .i64 bp, .int .i64 ln, .slice qa ops.length cap, .int .i64 en, .int .i64 bx, .int .i64 by_, .int .i64 bk] 35)).alloc (.cells #[.slice q1 regs.length k1, .int .i64 pc, .slice q2 mem.length k2, .int .i64 save, .bool lets, .bool waits, .int .i64 halt, .slice q3 ins.length k3, .slice q4 outs.length k4, .int .i64 count] 30)) #[.slice none 0 0, .int .i64 0, .slice none 0 0, .int .i64 0, .bool false, .bool false, .int .i64 0, .slice none 0 0, .slice none 0 0, .int .i64 0] 30
  rw [show ((w.alloc (.cells #[.int .i64 bp, .int .i64 ln, .slice qa ops.length cap, .int .i64 en, .int .i64 bx, .int .i64 by_, .int .i64 bk] 35)).alloc (.cells #[.slice q1 regs.length k1, .int .i64 pc, .slice q2 mem.length k2, .int .i64 save, .bool lets, .bool waits, .int .i64 halt, .slice q3 ins.length k3, .slice q4 outs.length k4, .int .i64 count] 30)).heap.size = w.heap.size + 1 + 1 by simp] at ZT0
  have ZT := hide ZT0
  have RB1 := hide (HB.out.below T.bw)
  have RM1 := hide (HM.out.below T.bw)
  clear T ZT0
  go_enter Tryz.func6, Tryz.ntmps6
  go_wp2_with fail
  refine (specIrOk ⟨bp, ln, ops, en, bx, by_, bk⟩ _ _ RB1.out).mono ?_
  rintro e u1 ⟨rfl, hb1⟩
  replace T1 := hide (T1.out.below hb1)
  replace BT := hide (BT.out.below hb1)
  replace ZT := hide (ZT.out.below hb1)
  replace RM1 := hide (RM1.out.below hb1)
  clear hb1 RB1
  by_cases ob : okB ⟨bp, ln, ops, en, bx, by_, bk⟩ = true
  case neg =>
    rw [Bool.not_eq_true] at ob
    have OB := hide ob
    have EQ : Hid (kk = false) := show _ = _ by rw [← EK.out, ob]; rfl
    rw [ob]
    clear ob
    have z0 := T1.out.o.cell 0 _ rfl
    have zs0 := T1.out.o.soft 0
    have z1 := T1.out.o.cell 1 _ rfl
    have zs1 := T1.out.o.soft 1
    have z2 := T1.out.o.cell 2 _ rfl
    have zs2 := T1.out.o.soft 2
    have z3 := T1.out.o.cell 3 _ rfl
    have zs3 := T1.out.o.soft 3
    have z4 := T1.out.o.cell 4 _ rfl
    have zs4 := T1.out.o.soft 4
    have z5 := T1.out.o.cell 5 _ rfl
    have zs5 := T1.out.o.soft 5
    have z6 := T1.out.o.cell 6 _ rfl
    have zs6 := T1.out.o.soft 6
    have z7 := T1.out.o.cell 7 _ rfl
    have zs7 := T1.out.o.soft 7
    have z8 := T1.out.o.cell 8 _ rfl
    have zs8 := T1.out.o.soft 8
    have z9 := T1.out.o.cell 9 _ rfl
    have zs9 := T1.out.o.soft 9
    have BW := hide T1.out.bw
    have ZO := hide T1.out.o
    clear RM1
    go_wp2
    exact bodyPost_ret (v := .tuple #[.agg #[.slice none 0 0, .int .i64 0, .slice none 0 0, .int .i64 0, .bool false, .bool false, .int .i64 0, .slice none 0 0, .slice none 0 0, .int .i64 0], .bool kk]) (by rw [EQ.out]; simp [results, Tryz.results6, go_sem, z0, z1, z2, z3, z4, z5, z6, z7, z8, z9]) rfl ⟨IR.out [.slice none 0 0, .int .i64 0, .slice none 0 0, .int .i64 0, .bool false, .bool false, .int .i64 0, .slice none 0 0, .slice none 0 0, .int .i64 0] _ (fun _ => rfl) (fun e => by rw [OB.out] at e; cases e), below_ten BW.out (by omega) _ _ _ _ _ _ _ _ _ _⟩
  have OB := hide ob
  rw [ob]
  clear ob
  have m0 := T1.out.z.cell 0 _ rfl
  have m1 := T1.out.z.cell 1 _ rfl
  have m2 := T1.out.z.cell 2 _ rfl
  have m3 := T1.out.z.cell 3 _ rfl
  have m4 := T1.out.z.cell 4 _ rfl
  have m5 := T1.out.z.cell 5 _ rfl
  have m6 := T1.out.z.cell 6 _ rfl
  have m7 := T1.out.z.cell 7 _ rfl
  have m8 := T1.out.z.cell 8 _ rfl
  have m9 := T1.out.z.cell 9 _ rfl
  go_wp2_with fail
  refine (mchOk ⟨regs, pc, mem, save, lets, waits, halt, ins, outs, count⟩ _ _ RM1.out).mono ?_
  rintro e u2 ⟨rfl, hb2⟩
  replace T1 := hide (T1.out.below hb2)
  replace BT := hide (BT.out.below hb2)
  replace ZT := hide (ZT.out.below hb2)
  replace RM1 := hide (RM1.out.below hb2)
  clear hb2 m0 m1 m2 m3 m4 m5 m6 m7 m8 m9
  by_cases om : okM ⟨regs, pc, mem, save, lets, waits, halt, ins, outs, count⟩ = true
  case neg =>
    rw [Bool.not_eq_true] at om
    have OM := hide om
    have EQ : Hid (kk = false) := show _ = _ by rw [← EK.out, om, Bool.and_false]; rfl
    rw [om]
    clear om
    have z0 := T1.out.o.cell 0 _ rfl
    have zs0 := T1.out.o.soft 0
    have z1 := T1.out.o.cell 1 _ rfl
    have zs1 := T1.out.o.soft 1
    have z2 := T1.out.o.cell 2 _ rfl
    have zs2 := T1.out.o.soft 2
    have z3 := T1.out.o.cell 3 _ rfl
    have zs3 := T1.out.o.soft 3
    have z4 := T1.out.o.cell 4 _ rfl
    have zs4 := T1.out.o.soft 4
    have z5 := T1.out.o.cell 5 _ rfl
    have zs5 := T1.out.o.soft 5
    have z6 := T1.out.o.cell 6 _ rfl
    have zs6 := T1.out.o.soft 6
    have z7 := T1.out.o.cell 7 _ rfl
    have zs7 := T1.out.o.soft 7
    have z8 := T1.out.o.cell 8 _ rfl
    have zs8 := T1.out.o.soft 8
    have z9 := T1.out.o.cell 9 _ rfl
    have zs9 := T1.out.o.soft 9
    have BW := hide T1.out.bw
    clear RM1
    go_wp2
    exact bodyPost_ret (v := .tuple #[.agg #[.slice none 0 0, .int .i64 0, .slice none 0 0, .int .i64 0, .bool false, .bool false, .int .i64 0, .slice none 0 0, .slice none 0 0, .int .i64 0], .bool kk]) (by rw [EQ.out]; simp [results, Tryz.results6, go_sem, z0, z1, z2, z3, z4, z5, z6, z7, z8, z9]) rfl ⟨IR.out [.slice none 0 0, .int .i64 0, .slice none 0 0, .int .i64 0, .bool false, .bool false, .int .i64 0, .slice none 0 0, .slice none 0 0, .int .i64 0] _ (fun _ => rfl) (fun e => by rw [OM.out, Bool.and_false] at e; cases e), below_ten BW.out (by omega) _ _ _ _ _ _ _ _ _ _⟩
  have OM := hide om
  rw [om]
  clear om
  have m0 := T1.out.z.cell 0 _ rfl
  have m1 := T1.out.z.cell 1 _ rfl
  have m2 := T1.out.z.cell 2 _ rfl
  have m3 := T1.out.z.cell 3 _ rfl
  have m4 := T1.out.z.cell 4 _ rfl
  have m5 := T1.out.z.cell 5 _ rfl
  have m6 := T1.out.z.cell 6 _ rfl
  have m7 := T1.out.z.cell 7 _ rfl
  have m8 := T1.out.z.cell 8 _ rfl
  have m9 := T1.out.z.cell 9 _ rfl
  go_wp2_with fail
  refine (l3Copy ⟨regs, pc, mem, save, lets, waits, halt, ins, outs, count⟩ _ _ RM1.out MID.out).mono ?_
  rintro e u3 ⟨c, rfl, HC, hb3⟩

  obtain ⟨f1, g1, h1, f2, g2, h2, f3, g3, h3, f4, h4, rfl⟩ := forms HC
  have HC1 := hide HC
  have U3 : Hid (w.heap.size ≤ u2.heap.size ∧ u2.heap.size ≤ u3.heap.size) := ⟨Nat.le_trans (Nat.le_refl _) T1.out.bw.size, hb3.size⟩
  have F1 := hide (T1.out.below hb3)
  have NX : Hid (w.heap.size + 1 + 1 < u3.heap.size) := Nat.lt_of_lt_of_le T1.out.o.lt hb3.size
  have FL : Hid (f1 < u3.heap.size ∧ f2 < u3.heap.size ∧ f3 < u3.heap.size ∧ f4 < u3.heap.size) := ⟨HC.parts.2.2.2.2.2.2.1.lt, HC.parts.2.2.2.2.2.2.2.1.lt, HC.parts.2.2.2.2.2.2.2.2.1.lt, HC.parts.2.2.2.2.2.2.2.2.2.lt⟩
  replace BT := hide (BT.out.below hb3)
  replace ZT := hide (ZT.out.below hb3)
  clear T1 HC hb3 RM1 m0 m1 m2 m3 m4 m5 m6 m7 m8 m9
  simp only [mv] at *
  have bo : Below u3.heap.size u3 (u3.alloc (.cells #[.slice (some ⟨f1, g1, none⟩) regs.length h1, .int .i64 pc, .slice (some ⟨f2, g2, none⟩) mem.length h2, .int .i64 save, .bool lets, .bool waits, .int .i64 halt, .slice (some ⟨f3, g3, none⟩) ins.length h3, .slice (some ⟨f4, 0, none⟩) outs.length h4, .int .i64 count] 30)) := alloc_below _ _
  have RX := hide (Rec.new u3 [.slice (some ⟨f1, g1, none⟩) regs.length h1, .int .i64 pc, .slice (some ⟨f2, g2, none⟩) mem.length h2, .int .i64 save, .bool lets, .bool waits, .int .i64 halt, .slice (some ⟨f3, g3, none⟩) ins.length h3, .slice (some ⟨f4, 0, none⟩) outs.length h4, .int .i64 count] 30)
  have XT := hide (IsT.new u3 #[.slice (some ⟨f1, g1, none⟩) regs.length h1, .int .i64 pc, .slice (some ⟨f2, g2, none⟩) mem.length h2, .int .i64 save, .bool lets, .bool waits, .int .i64 halt, .slice (some ⟨f3, g3, none⟩) ins.length h3, .slice (some ⟨f4, 0, none⟩) outs.length h4, .int .i64 count] 30)
  have T2 := hide (F1.out.below bo)
  replace BT := hide (BT.out.below bo)
  replace ZT := hide (ZT.out.below bo)
  have HC2 := hide (HC1.out.below bo)
  have bz := T2.out.a.cell 0 _ rfl
  have bl := T2.out.a.cell 1 _ rfl
  have mh := T2.out.z.cell 6 _ rfl
  have mp := T2.out.z.cell 1 _ rfl
  have mt := T2.out.z.cell 9 _ rfl
  have x0 := RX.out.cell 0 _ rfl
  have x1 := RX.out.cell 1 _ rfl
  have x2 := RX.out.cell 2 _ rfl
  have x3 := RX.out.cell 3 _ rfl
  have x4 := RX.out.cell 4 _ rfl
  have x5 := RX.out.cell 5 _ rfl
  have x6 := RX.out.cell 6 _ rfl
  have x7 := RX.out.cell 7 _ rfl
  have x8 := RX.out.cell 8 _ rfl
  have x9 := RX.out.cell 9 _ rfl
  obtain ⟨p0, p64, l1, l8, o48, OPS, ENDS⟩ := head_ok OB.out
  simp only [] at p0 p64 l1 l8 o48 OPS ENDS
  have OP := hide OPS
  have EN := hide ENDS
  obtain ⟨IV, c0, c1⟩ := inv_ok OM.out
  simp only [] at c0 c1
  have IV0 := hide IV
  clear OPS ENDS IV bo F1 HC1
  have BOTH : Hid ((okB ⟨bp, ln, ops, en, bx, by_, bk⟩ && okM ⟨regs, pc, mem, save, lets, waits, halt, ins, outs, count⟩) = true) := show _ = _ by rw [OB.out, OM.out]; rfl
  have ST : standB ⟨bp, ln, ops, en, bx, by_, bk⟩ ⟨regs, pc, mem, save, lets, waits, halt, ins, outs, count⟩ = (decide (halt = 0) && decide (pc = bp) && decide (count ≤ 1000000 - ln)) := rfl
  by_cases st : standB ⟨bp, ln, ops, en, bx, by_, bk⟩ ⟨regs, pc, mem, save, lets, waits, halt, ins, outs, count⟩ = true
  case neg =>
    have EQ : Hid (kk = false) := show _ = _ by rw [← EK.out, BOTH.out]; simpa using st
    have RM : Hid (R = ⟨regs, pc, mem, save, lets, waits, halt, ins, outs, count⟩) := show _ = _ by rw [← ER.out, irM, if_neg st]
    have z0 := T2.out.o.cell 0 _ rfl
    have zs0 := T2.out.o.soft 0
    have z1 := T2.out.o.cell 1 _ rfl
    have zs1 := T2.out.o.soft 1
    have z2 := T2.out.o.cell 2 _ rfl
    have zs2 := T2.out.o.soft 2
    have z3 := T2.out.o.cell 3 _ rfl
    have zs3 := T2.out.o.soft 3
    have z4 := T2.out.o.cell 4 _ rfl
    have zs4 := T2.out.o.soft 4
    have z5 := T2.out.o.cell 5 _ rfl
    have zs5 := T2.out.o.soft 5
    have z6 := T2.out.o.cell 6 _ rfl
    have zs6 := T2.out.o.soft 6
    have z7 := T2.out.o.cell 7 _ rfl
    have zs7 := T2.out.o.soft 7
    have z8 := T2.out.o.cell 8 _ rfl
    have zs8 := T2.out.o.soft 8
    have z9 := T2.out.o.cell 9 _ rfl
    have zs9 := T2.out.o.soft 9
    have BW := hide T2.out.bw
    have fin : Hid (∀ u, CMach u u2.heap.size [.slice (some ⟨f1, g1, none⟩) regs.length h1, .int .i64 pc, .slice (some ⟨f2, g2, none⟩) mem.length h2, .int .i64 save, .bool lets, .bool waits, .int .i64 halt, .slice (some ⟨f3, g3, none⟩) ins.length h3, .slice (some ⟨f4, 0, none⟩) outs.length h4, .int .i64 count] ⟨regs, pc, mem, save, lets, waits, halt, ins, outs, count⟩ → IrR w.heap.size ⟨bp, ln, ops, en, bx, by_, bk⟩ ⟨regs, pc, mem, save, lets, waits, halt, ins, outs, count⟩ (.returned (.tuple #[.agg #[.slice (some ⟨f1, g1, none⟩) regs.length h1, .int .i64 pc, .slice (some ⟨f2, g2, none⟩) mem.length h2, .int .i64 save, .bool lets, .bool waits, .int .i64 halt, .slice (some ⟨f3, g3, none⟩) ins.length h3, .slice (some ⟨f4, 0, none⟩) outs.length h4, .int .i64 count], .bool kk])) u) := fun u hu => IR.out [.slice (some ⟨f1, g1, none⟩) regs.length h1, .int .i64 pc, .slice (some ⟨f2, g2, none⟩) mem.length h2, .int .i64 save, .bool lets, .bool waits, .int .i64 halt, .slice (some ⟨f3, g3, none⟩) ins.length h3, .slice (some ⟨f4, 0, none⟩) outs.length h4, .int .i64 count] _ (fun e => by rw [BOTH.out] at e; cases e) (fun _ => by rw [RM.out]; exact hu.lowI U3.out.1)
    have sn : halt ≠ 0 ∨ (halt = 0 ∧ pc ≠ bp) ∨ (halt = 0 ∧ pc = bp ∧ 1000000 - ln < count) := by
      rw [ST] at st
      simp only [Bool.and_eq_true, decide_eq_true_eq] at st
      omega
    clear st ST
    rcases sn with e1 | ⟨e1, e2⟩ | ⟨e1, e2, e3⟩
    · have e1' : (halt != 0) = true := by simpa using e1
      go_wp2
      exact bodyPost_ret (v := .tuple #[.agg #[.slice (some ⟨f1, g1, none⟩) regs.length h1, .int .i64 pc, .slice (some ⟨f2, g2, none⟩) mem.length h2, .int .i64 save, .bool lets, .bool waits, .int .i64 halt, .slice (some ⟨f3, g3, none⟩) ins.length h3, .slice (some ⟨f4, 0, none⟩) outs.length h4, .int .i64 count], .bool kk]) (by rw [EQ.out]; simp [results, Tryz.results6, go_sem, z0, z1, z2, z3, z4, z5, z6, z7, z8, z9]) rfl ⟨fin.out _ (HC2.out.ten ZT.out mach_int _ _ _ _ _ _ _ _ _ _), below_ten BW.out (by omega) _ _ _ _ _ _ _ _ _ _⟩
    · have e1' : (halt != 0) = false := by simpa using e1
      have e2' : (pc != bp) = true := by simpa using e2
      clear e1 e2
      go_wp2
      exact bodyPost_ret (v := .tuple #[.agg #[.slice (some ⟨f1, g1, none⟩) regs.length h1, .int .i64 pc, .slice (some ⟨f2, g2, none⟩) mem.length h2, .int .i64 save, .bool lets, .bool waits, .int .i64 halt, .slice (some ⟨f3, g3, none⟩) ins.length h3, .slice (some ⟨f4, 0, none⟩) outs.length h4, .int .i64 count], .bool kk]) (by rw [EQ.out]; simp [results, Tryz.results6, go_sem, z0, z1, z2, z3, z4, z5, z6, z7, z8, z9]) rfl ⟨fin.out _ (HC2.out.ten ZT.out mach_int _ _ _ _ _ _ _ _ _ _), below_ten BW.out (by omega) _ _ _ _ _ _ _ _ _ _⟩
    · have e1' : (halt != 0) = false := by simpa using e1
      have e2' : (pc != bp) = false := by simpa using e2
      clear e1 e2
      go_wp2
      exact bodyPost_ret (v := .tuple #[.agg #[.slice (some ⟨f1, g1, none⟩) regs.length h1, .int .i64 pc, .slice (some ⟨f2, g2, none⟩) mem.length h2, .int .i64 save, .bool lets, .bool waits, .int .i64 halt, .slice (some ⟨f3, g3, none⟩) ins.length h3, .slice (some ⟨f4, 0, none⟩) outs.length h4, .int .i64 count], .bool kk]) (by rw [EQ.out]; simp [results, Tryz.results6, go_sem, z0, z1, z2, z3, z4, z5, z6, z7, z8, z9]) rfl ⟨fin.out _ (HC2.out.ten ZT.out mach_int _ _ _ _ _ _ _ _ _ _), below_ten BW.out (by omega) _ _ _ _ _ _ _ _ _ _⟩
  have EQ : Hid (kk = true) := show _ = _ by rw [← EK.out, BOTH.out, st]; rfl
  have RL : Hid (R = runM ⟨bp, ln, ops, en, bx, by_, bk⟩ ops ⟨regs, pc, mem, save, lets, waits, halt, ins, outs, count⟩ []) := show _ = _ by rw [← ER.out, irM, if_pos st]
  rw [ST] at st
  simp only [Bool.and_eq_true, decide_eq_true_eq] at st
  obtain ⟨⟨e1, e2⟩, e3⟩ := st
  have e1' : (halt != 0) = false := by simpa using e1
  have e2' : (pc != bp) = false := by simpa using e2
  have e3' : ¬ (1000000 - ln < count) := by omega
  clear ST e1 e2 e3
  go_wp2

  have bo4 : Below (u3.alloc (.cells #[.slice (some ⟨f1, g1, none⟩) regs.length h1, .int .i64 pc, .slice (some ⟨f2, g2, none⟩) mem.length h2, .int .i64 save, .bool lets, .bool waits, .int .i64 halt, .slice (some ⟨f3, g3, none⟩) ins.length h3, .slice (some ⟨f4, 0, none⟩) outs.length h4, .int .i64 count] 30)).heap.size (u3.alloc (.cells #[.slice (some ⟨f1, g1, none⟩) regs.length h1, .int .i64 pc, .slice (some ⟨f2, g2, none⟩) mem.length h2, .int .i64 save, .bool lets, .bool waits, .int .i64 halt, .slice (some ⟨f3, g3, none⟩) ins.length h3, .slice (some ⟨f4, 0, none⟩) outs.length h4, .int .i64 count] 30)) ((u3.alloc (.cells #[.slice (some ⟨f1, g1, none⟩) regs.length h1, .int .i64 pc, .slice (some ⟨f2, g2, none⟩) mem.length h2, .int .i64 save, .bool lets, .bool waits, .int .i64 halt, .slice (some ⟨f3, g3, none⟩) ins.length h3, .slice (some ⟨f4, 0, none⟩) outs.length h4, .int .i64 count] 30)).alloc (.cells #[] 3)) := alloc_below _ _
  have e4 : (u3.alloc (.cells #[.slice (some ⟨f1, g1, none⟩) regs.length h1, .int .i64 pc, .slice (some ⟨f2, g2, none⟩) mem.length h2, .int .i64 save, .bool lets, .bool waits, .int .i64 halt, .slice (some ⟨f3, g3, none⟩) ins.length h3, .slice (some ⟨f4, 0, none⟩) outs.length h4, .int .i64 count] 30)).heap.size = u3.heap.size + 1 := by simp
  have OV0 := own_empty (heap_new (u3.alloc (.cells #[.slice (some ⟨f1, g1, none⟩) regs.length h1, .int .i64 pc, .slice (some ⟨f2, g2, none⟩) mem.length h2, .int .i64 save, .bool lets, .bool waits, .int .i64 halt, .slice (some ⟨f3, g3, none⟩) ins.length h3, .slice (some ⟨f4, 0, none⟩) outs.length h4, .int .i64 count] 30)) 3)
  rw [e4] at OV0
  have OV := hide (OV0.mono (base' := u2.heap.size) (by have := U3.out; omega))
  have GN : Hid (u3.heap.size + 1 ∉ mb [.slice (some ⟨f1, g1, none⟩) regs.length h1, .int .i64 pc, .slice (some ⟨f2, g2, none⟩) mem.length h2, .int .i64 save, .bool lets, .bool waits, .int .i64 halt, .slice (some ⟨f3, g3, none⟩) ins.length h3, .slice (some ⟨f4, 0, none⟩) outs.length h4, .int .i64 count]) := fun hg => by
    have := FL.out
    have h9 : u3.heap.size + 1 ∈ [f1, f2, f3, f4] := hg
    simp only [List.mem_cons, List.not_mem_nil, or_false] at h9
    omega
  replace RX := hide (And.intro (RX.out.below bo4) (XT.out.below bo4))
  have RB := hide (And.intro (T2.out.a.below bo4) (BT.out.below bo4))
  have RZ := hide (And.intro (T2.out.o.below bo4) (ZT.out.below bo4))
  have BW := hide (T2.out.bw.trans (bo4.mono T2.out.bw.size))
  have HC := hide (HC2.out.below bo4)
  have LU : Hid (u2.heap.size ≤ ((u3.alloc (.cells #[.slice (some ⟨f1, g1, none⟩) regs.length h1, .int .i64 pc, .slice (some ⟨f2, g2, none⟩) mem.length h2, .int .i64 save, .bool lets, .bool waits, .int .i64 halt, .slice (some ⟨f3, g3, none⟩) ins.length h3, .slice (some ⟨f4, 0, none⟩) outs.length h4, .int .i64 count] 30)).alloc (.cells #[] 3)).heap.size) := show _ ≤ _ by have := U3.out; simp; omega
  have MO : Hid (outs.length ≤ 2000000) := MID.out.2.2.2
  clear bo4 e4 OV0 T2 XT BT ZT HC2 bz bl mh mp mt x0 x1 x2 x3 x4 x5 x6 x7 x8 x9
  generalize ((u3.alloc (.cells #[.slice (some ⟨f1, g1, none⟩) regs.length h1, .int .i64 pc, .slice (some ⟨f2, g2, none⟩) mem.length h2, .int .i64 save, .bool lets, .bool waits, .int .i64 halt, .slice (some ⟨f3, g3, none⟩) ins.length h3, .slice (some ⟨f4, 0, none⟩) outs.length h4, .int .i64 count] 30)).alloc (.cells #[] 3)) = v0 at OV RX RB RZ BW HC LU ⊢
  clear e1' e2' e3'
  have HR := hide hr
  obtain ⟨_, _, off, he, ha, hcp, _, h4⟩ := hr
  simp only [Value.slice.injEq] at he
  obtain ⟨rfl, -, rfl⟩ := he
  unfold maxLen at hcp
  have H4 := hide h4
  clear h4
  go_loopw [7, 8] (fun s i wr => ∃ (k g cp : Nat) (vs : List Int) (c : List Value) (m' : M), k ≤ ops.length ∧ i = .int .i64 k ∧ s = .slice (some ⟨g, 0, none⟩) k cp ∧ Hid (vs.length = k) ∧ Hid (Own wr u2.heap.size (.slice (some ⟨g, 0, none⟩) vs.length cp) vs) ∧ Hid (CMach wr u2.heap.size c m') ∧ Hid (g ∉ mb c) ∧ Hid (Rec u3.heap.size c wr ∧ IsT wr u3.heap.size 30) ∧ Hid (Rec w.heap.size [.int .i64 bp, .int .i64 ln, .slice qa ops.length cap, .int .i64 en, .int .i64 bx, .int .i64 by_, .int .i64 bk] wr ∧ IsT wr w.heap.size 35) ∧ Hid (Rec (w.heap.size + 1 + 1) [.slice none 0 0, .int .i64 0, .slice none 0 0, .int .i64 0, .bool false, .bool false, .int .i64 0, .slice none 0 0, .slice none 0 0, .int .i64 0] wr ∧ IsT wr (w.heap.size + 1 + 1) 30) ∧ Hid (Below w.heap.size w wr) ∧ Hid (R = runM ⟨bp, ln, ops, en, bx, by_, bk⟩ (ops.drop k) m' vs) ∧ Hid (Inv m' vs ∧ m'.outs.length ≤ 2000000 + k ∧ m'.count = count) ∧ Hid (u2.heap.size ≤ wr.heap.size)) (fun _ i _ => ops.length - (intOf i).toNat)
  case atStart => exact ⟨0, u3.heap.size + 1, 0, [], [.slice (some ⟨f1, g1, none⟩) regs.length h1, .int .i64 pc, .slice (some ⟨f2, g2, none⟩) mem.length h2, .int .i64 save, .bool lets, .bool waits, .int .i64 halt, .slice (some ⟨f3, g3, none⟩) ins.length h3, .slice (some ⟨f4, 0, none⟩) outs.length h4, .int .i64 count], ⟨regs, pc, mem, save, lets, waits, halt, ins, outs, count⟩, by omega, rfl, rfl, rfl, OV, HC, GN, RX, RB, RZ, BW, RL, ⟨IV0.out, by have := MO.out; simpa using this, rfl⟩, LU⟩
  case round =>
    clear OV HC GN RX RB RZ BW RL LU FL
    obtain ⟨k, g, cp, vs, c, m', hk, rfl, rfl, VL, OV, HC, GN, RX, RB, RZ, BW, RL, IV, LU⟩ := hrel
    obtain ⟨f1, g1, h1, f2, g2, h2, f3, g3, h3, f4, h4, rfl⟩ := forms HC.out
    obtain ⟨ra, pa, ma, sa, la, wa, ha1, ia, oa, ca⟩ := m'
    simp only [mv] at *
    by_cases hlt : k < ops.length
    case neg =>
      obtain rfl : k = ops.length := by omega
      have RD : Hid (R = ⟨ra, goM ⟨bp, ln, ops, en, bx, by_, bk⟩ vs, ma, sa, la, wa, ha1, ia, oa, ca + ln⟩) := show _ = _ by rw [RL.out, List.drop_length]; rfl
      have CA : ca = count := IV.out.2.2
      subst CA
      have d0 := RB.out.1.cell 0 _ rfl
      have d1 := RB.out.1.cell 1 _ rfl
      have d2 := RB.out.1.cell 2 _ rfl
      have d3 := RB.out.1.cell 3 _ rfl
      have d4 := RB.out.1.cell 4 _ rfl
      have d5 := RB.out.1.cell 5 _ rfl
      have d6 := RB.out.1.cell 6 _ rfl
      have VR := OV.out.form (by simp)
      obtain ⟨g', cp', ev, _, _, VW⟩ := VR
      cases ev
      rw [VL.out] at VW
      have VR := hide VW.row
      clear VW
      go_wp2_with fail
      refine (l6Go vs ⟨bp, ln, ops, en, bx, by_, bk⟩ _ _ _ _ _ _ VR.out EN.out VL.out p0 p64 (show (0 : Int) ≤ ln by omega) l8).mono ?_
      rintro e u ⟨rfl, hb⟩
      have HCu := hide (HC.out.below hb)
      have RXu := hide (And.intro (RX.out.1.below hb) (RX.out.2.below hb))
      have RZu := hide (And.intro (RZ.out.1.below hb) (RZ.out.2.below hb))
      have RBu := hide (RB.out.1.below hb)
      have BWu := hide (BW.out.trans (hb.mono BW.out.size))
      have x0 := RXu.out.1.cell 0 _ rfl
      have x1 := RXu.out.1.cell 1 _ rfl
      have x2 := RXu.out.1.cell 2 _ rfl
      have x3 := RXu.out.1.cell 3 _ rfl
      have x4 := RXu.out.1.cell 4 _ rfl
      have x5 := RXu.out.1.cell 5 _ rfl
      have x6 := RXu.out.1.cell 6 _ rfl
      have x7 := RXu.out.1.cell 7 _ rfl
      have x8 := RXu.out.1.cell 8 _ rfl
      have x9 := RXu.out.1.cell 9 _ rfl
      have xs1 := RXu.out.1.soft 1
      have xs9 := RXu.out.1.soft 9
      have bl := RBu.out.cell 1 _ rfl
      have z0 := RZu.out.1.cell 0 _ rfl
      have zs0 := RZu.out.1.soft 0
      have z1 := RZu.out.1.cell 1 _ rfl
      have zs1 := RZu.out.1.soft 1
      have z2 := RZu.out.1.cell 2 _ rfl
      have zs2 := RZu.out.1.soft 2
      have z3 := RZu.out.1.cell 3 _ rfl
      have zs3 := RZu.out.1.soft 3
      have z4 := RZu.out.1.cell 4 _ rfl
      have zs4 := RZu.out.1.soft 4
      have z5 := RZu.out.1.cell 5 _ rfl
      have zs5 := RZu.out.1.soft 5
      have z6 := RZu.out.1.cell 6 _ rfl
      have zs6 := RZu.out.1.soft 6
      have z7 := RZu.out.1.cell 7 _ rfl
      have zs7 := RZu.out.1.soft 7
      have z8 := RZu.out.1.cell 8 _ rfl
      have zs8 := RZu.out.1.soft 8
      have z9 := RZu.out.1.cell 9 _ rfl
      have zs9 := RZu.out.1.soft 9
      clear hb OV HC GN RX RB RZ BW RL d0 d1 d2 d3 d4 d5 d6
      have nX : w.heap.size + 1 + 1 < u3.heap.size := NX.out
      have nX1 : w.heap.size < u3.heap.size := by omega
      have XX : w.heap.size ≤ u3.heap.size := Nat.le_trans U3.out.1 U3.out.2
      go_wp2
      exact bodyPost_ret (v := .tuple #[.agg #[.slice (some ⟨f1, g1, none⟩) ra.length h1, .int .i64 (goM ⟨bp, ln, ops, en, bx, by_, bk⟩ vs), .slice (some ⟨f2, g2, none⟩) ma.length h2, .int .i64 sa, .bool la, .bool wa, .int .i64 ha1, .slice (some ⟨f3, g3, none⟩) ia.length h3, .slice (some ⟨f4, 0, none⟩) oa.length h4, .int .i64 (ca + ln)], .bool kk]) (by rw [EQ.out]; simp [results, Tryz.results6, go_sem, z0, z1, z2, z3, z4, z5, z6, z7, z8, z9]) rfl ⟨IR.out [.slice (some ⟨f1, g1, none⟩) ra.length h1, .int .i64 (goM ⟨bp, ln, ops, en, bx, by_, bk⟩ vs), .slice (some ⟨f2, g2, none⟩) ma.length h2, .int .i64 sa, .bool la, .bool wa, .int .i64 ha1, .slice (some ⟨f3, g3, none⟩) ia.length h3, .slice (some ⟨f4, 0, none⟩) oa.length h4, .int .i64 (ca + ln)] _ (fun e => by rw [BOTH.out] at e; cases e) (fun _ => by rw [RD.out]; exact ((CMach.plain ((HCu.out.other RXu.out.2 mach_int 1 (.int .i64 (goM ⟨bp, ln, ops, en, bx, by_, bk⟩ vs))).other (RXu.out.2.set ⟨u3.heap.size, 1, none⟩ (.int .i64 (goM ⟨bp, ln, ops, en, bx, by_, bk⟩ vs))) mach_int 9 (.int .i64 (ca + ln)))).ten ((RZu.out.2.set ⟨u3.heap.size, 1, none⟩ (.int .i64 (goM ⟨bp, ln, ops, en, bx, by_, bk⟩ vs))).set ⟨u3.heap.size, 9, none⟩ (.int .i64 (ca + ln))) mach_int _ _ _ _ _ _ _ _ _ _).lowI U3.out.1), below_ten ((BWu.out.setCell (p := ⟨u3.heap.size, 1, none⟩) XX (.int .i64 (goM ⟨bp, ln, ops, en, bx, by_, bk⟩ vs))).setCell (p := ⟨u3.heap.size, 9, none⟩) XX (.int .i64 (ca + ln))) (by omega) _ _ _ _ _ _ _ _ _ _⟩

    obtain ⟨o, et⟩ : ∃ o, ops[k]? = some o := ⟨_, List.getElem?_eq_getElem hlt⟩
    have OF0 := op_facts (ops_at OP.out et) (by rw [List.length_take]; omega) l8 l1
    rw [show (ops.take k).length = k by rw [List.length_take]; omega] at OF0
    have OFF := hide OF0
    obtain ⟨rfl, hc⟩ := H4.out.resolve_left (fun e => by rw [e] at hlt; simp at hlt)
    obtain ⟨q0, q1', q2', q3', q4'⟩ := (hc k o et).below BW.out
    have RS : Hid (R = runM ⟨bp, ln, ops, en, bx, by_, bk⟩ (o :: ops.drop (k + 1)) ⟨ra, pa, ma, sa, la, wa, ha1, ia, oa, ca⟩ vs) := show _ = _ by
      rw [RL.out, List.drop_eq_getElem_cons hlt, (List.getElem?_eq_some_iff.1 et).2]
    have IN := hide (step_inv (b := ⟨bp, ln, ops, en, bx, by_, bk⟩) IV.out.1 OFF.out)
    have lk : ((k : Nat) : Int) < (ops.length : Int) := by omega
    obtain ⟨kd, x_, y_, k_, t_⟩ := o
    simp only [] at q0 q1' q2' q3' q4'
    clear et hc OF0 RL H4
    have d2 := RB.out.1.cell 2 _ rfl
    have bo : Below wr.heap.size wr (wr.alloc (.cells #[.int .i64 kd, .int .i64 x_, .int .i64 y_, .int .i64 k_, .int .i64 t_] 49)) := alloc_below _ _
    have RO := hide (And.intro (Rec.new wr [.int .i64 kd, .int .i64 x_, .int .i64 y_, .int .i64 k_, .int .i64 t_] 49) (IsT.new wr #[.int .i64 kd, .int .i64 x_, .int .i64 y_, .int .i64 k_, .int .i64 t_] 49))
    have NO : Hid (u3.heap.size < wr.heap.size ∧ g < wr.heap.size) := ⟨RX.out.1.lt, OV.out.isT.lt⟩
    replace RX := hide (And.intro (RX.out.1.below bo) (RX.out.2.below bo))
    replace RB := hide (And.intro (RB.out.1.below bo) (RB.out.2.below bo))
    replace RZ := hide (And.intro (RZ.out.1.below bo) (RZ.out.2.below bo))
    replace OV := hide (OV.out.turn (Turn.of_below (B := wr.heap.size) bo) (by have := NO.out; omega) NO.out.2)
    replace HC := hide (HC.out.below bo)
    replace BW := hide (BW.out.trans (bo.mono BW.out.size))
    replace LU := hide (Nat.le_trans LU.out bo.size)
    clear bo
    have kds : kd = 8 ∨ (4 ≤ kd ∧ kd ≤ 7) ∨ (1 ≤ kd ∧ kd ≤ 3) := by have := OFF.out.kd; simp only [] at this; omega
    rcases kds with rfl | hev | hwd

    · obtain ⟨i, ei⟩ := Int.eq_ofNat_of_zero_le OFF.out.x.1
      obtain ⟨d, ed⟩ := Int.eq_ofNat_of_zero_le (OFF.out.k2 (Or.inr rfl)).1
      simp only [] at ei ed
      subst ei
      subst ed
      have hi : i < k := by have := OFF.out.x8 rfl; simp only [] at this; omega
      have hd : d < 4 := by have := (OFF.out.k2 (Or.inr rfl)).2; simp only [] at this; omega
      have li : ((i : Nat) : Int) < ((k : Nat) : Int) := by omega
      have r4 : ra.length = 4 := IV.out.1.regs
      have ld : ((d : Nat) : Int) < (ra.length : Int) := by omega
      have ld' : d < ra.length := by omega
      have R4 := hide r4
      clear r4
      obtain ⟨z, ez⟩ : ∃ z, vs[i]? = some z := ⟨_, List.getElem?_eq_getElem (by rw [VL.out]; exact hi)⟩
      obtain ⟨g', cp', ev, _, _, VW⟩ := OV.out.form (by simp)
      cases ev
      obtain ⟨cz, _⟩ := row_at VW ez
      rw [Nat.zero_add] at cz
      have HP := CMach.parts (m := ⟨ra, pa, ma, sa, la, wa, ha1, ia, oa, ca⟩) HC.out
      obtain ⟨z0, ez0⟩ : ∃ z, ra[d]? = some z := ⟨_, List.getElem?_eq_getElem ld'⟩
      obtain ⟨cd, fd⟩ := row_at HP.1 ez0
      have EZ := hide (at_yes ez)
      have GF : Hid (g ≠ f1 ∧ f1 < (wr.alloc (.cells #[.int .i64 8, .int .i64 (i : Int), .int .i64 y_, .int .i64 (d : Int), .int .i64 t_] 49)).heap.size ∧ u2.heap.size ≤ f1) := ⟨fun e => GN.out (by rw [e]; show f1 ∈ [f1, f2, f3, f4]; simp), HP.2.2.2.2.2.2.1.lt, HP.2.2.2.2.1.1⟩
      have VT := hide OV.out.isT
      clear VW ez ez0 HP
      go_wp2_with fail
      have x0 := RX.out.1.cell 0 _ rfl
      have w0 := RO.out.1.cell 0 _ rfl
      have w1 := RO.out.1.cell 1 _ rfl
      have w2 := RO.out.1.cell 2 _ rfl
      have w3 := RO.out.1.cell 3 _ rfl
      have w4 := RO.out.1.cell 4 _ rfl
      generalize (wr.alloc (.cells #[.int .i64 8, .int .i64 (i : Int), .int .i64 y_, .int .i64 (d : Int), .int .i64 t_] 49)) = d0 at RX RB RZ RO OV HC BW LU GF VT cz cd fd x0 w0 w1 w2 w3 w4 ⊢
      refine region_tail 9 (by kernel_rfl) (by kernel_rfl) ?_
      simp only [List.take_succ_cons, List.take_zero, List.drop_succ_cons, List.drop_zero]
      repeat still_step
      refine wpStill_nil ?_
      have t8 : Turn f1 d0 (d0.drew.setCell ⟨f1, g1 + d, none⟩ (.int .i64 z)) := (Turn.of_below (B := f1) ((Below.refl _ d0).drew)).trans ((Turn.refl f1 d0.drew).setCell (p := ⟨f1, g1 + d, none⟩) rfl (.int .i64 z))
      have HC8 := HC.out.below ((Below.refl _ d0).drew)
      have i8 := Ints.of_turn (lo := u2.heap.size) t8 (CMach.parts (m := ⟨ra, pa, ma, sa, la, wa, ha1, ia, oa, ca⟩) HC.out).2.2.2.2.2.2.1 GF.out.2.2
      have HC9 := CMach.setReg (m := ⟨ra, pa, ma, sa, la, wa, ha1, ia, oa, ca⟩) HC8 d z ld'
      replace OV := hide (OV.out.turn t8 GF.out.1 VT.out.lt)
      replace RX := hide (And.intro (Rec.ints RX.out.1 RX.out.2 mach_int i8) (RX.out.2.ints mach_int i8))
      replace RB := hide (And.intro (Rec.ints RB.out.1 RB.out.2 block_int i8) (RB.out.2.ints block_int i8))
      replace RZ := hide (And.intro (Rec.ints RZ.out.1 RZ.out.2 mach_int i8) (RZ.out.2.ints mach_int i8))
      replace BW := hide (BW.out.trans ((i8.below LU.out).mono U3.out.1))
      replace LU := hide (Nat.le_trans LU.out i8.size)
      have RS2 : Hid (R = runM ⟨bp, ln, ops, en, bx, by_, bk⟩ (ops.drop (k + 1)) ⟨ra.set d z, pa, ma, sa, la, wa, ha1, ia, oa, ca⟩ (vs ++ [0])) := show _ = _ by
        rw [RS.out]
        simp only [runM, stepM, if_pos trivial]
        rw [EZ.out, Int.toNat_natCast]
        rfl
      have IV2 : Hid (Inv ⟨ra.set d z, pa, ma, sa, la, wa, ha1, ia, oa, ca⟩ (vs ++ [0]) ∧ oa.length ≤ 2000000 + k + 1 ∧ ca = count) := by
        have h9 := IN.out.1
        simp only [stepM, if_pos trivial] at h9
        rw [EZ.out, Int.toNat_natCast] at h9
        exact ⟨h9, by have h8 : oa.length ≤ 2000000 + k := IV.out.2.1; omega, IV.out.2.2⟩
      replace HC := hide HC9
      clear t8 i8 HC8 HC9 RS IV IN RO cz w0 w1 w2 w3 w4 EZ OFF
      simp only [mv, List.length_set] at HC
      have bo := alloc_below (d0.drew.setCell ⟨f1, g1 + d, none⟩ (.int .i64 z)) (.cells #[.int .i64 0] 3)
      have VT2 := hide OV.out.isT
      have OW := hide (OV.out.turn (Turn.of_below (B := (d0.drew.setCell ⟨f1, g1 + d, none⟩ (.int .i64 z)).heap.size) bo) (Nat.ne_of_lt VT2.out.lt) VT2.out.lt)
      have CN : Hid (((d0.drew.setCell ⟨f1, g1 + d, none⟩ (.int .i64 z)).alloc (.cells #[.int .i64 0] 3)).cell? ((⟨d0.heap.size, 0, none⟩ : Addr).add 0) = some (.int .i64 0)) := show _ = _ by
        rw [Go.WideShapes.add_plain]
        have h9 := World.cell?_alloc_new (d0.drew.setCell ⟨f1, g1 + d, none⟩ (.int .i64 z)) #[.int .i64 0] 3 0
        first | exact h9 | simpa using h9
      have LO : Hid (u2.heap.size ≤ ((d0.drew.setCell ⟨f1, g1 + d, none⟩ (.int .i64 z)).alloc (.cells #[.int .i64 0] 3)).heap.size) := Nat.le_trans LU.out bo.size
      have VLE : vs.length ≤ 1000000000000 := by rw [VL.out]; omega
      go_wp2_with (at_builtin; refine wpList_push rfl _ _ rfl u2.heap.size g cp vs (by rw [VL.out]; rfl) OW.out LO.out _ 0 rfl CN.out VLE ?_; intro g9 c9 u9 ho9 hor9 hlt9 ht9; refine Hid.out ?_)
      have X9 : Hid (u3.heap.size ≠ g ∧ w.heap.size ≠ g ∧ w.heap.size + 1 + 1 ≠ g) := ⟨RX.out.2.ne VT2.out mach_int, RB.out.2.ne VT2.out block_int, RZ.out.2.ne VT2.out mach_int⟩
      have GN9 : Hid (g9 ∉ mb [.slice (some ⟨f1, g1, none⟩) ra.length h1, .int .i64 pa, .slice (some ⟨f2, g2, none⟩) ma.length h2, .int .i64 sa, .bool la, .bool wa, .int .i64 ha1, .slice (some ⟨f3, g3, none⟩) ia.length h3, .slice (some ⟨f4, 0, none⟩) oa.length h4, .int .i64 ca]) := fun hg => by
        rcases hor9 with e | e
        · exact GN.out (by rw [← e]; exact hg)
        · exact absurd (Nat.lt_of_lt_of_le (HC.out.mb_lt g9 hg).2 bo.size) (Nat.not_lt.2 e)
      have LG : Hid (u2.heap.size ≤ g) := show _ ≤ _ by
        obtain ⟨g', cp', ev, hl, _, _⟩ := OV.out.form (by simp)
        cases ev
        exact hl
      replace HC := hide ((HC.out.below bo).turnI ht9 GN.out)
      replace RX := hide (And.intro ((RX.out.1.below bo).turn ht9 X9.out.1) ((RX.out.2.below bo).turn ht9 X9.out.1))
      replace RB := hide (And.intro ((RB.out.1.below bo).turn ht9 X9.out.2.1) ((RB.out.2.below bo).turn ht9 X9.out.2.1))
      replace RZ := hide (And.intro ((RZ.out.1.below bo).turn ht9 X9.out.2.2) ((RZ.out.2.below bo).turn ht9 X9.out.2.2))
      replace BW := hide ((BW.out.trans (bo.mono BW.out.size)).trans (ht9.below (Nat.le_trans U3.out.1 LG.out) (Nat.le_trans BW.out.size bo.size)))
      replace LU := hide (Nat.le_trans (Nat.le_trans LU.out bo.size) ht9.size)
      have OV9 := hide ho9
      have VL9 : Hid ((vs ++ [0]).length = k + 1) := show _ = _ by rw [List.length_append, VL.out]; rfl
      clear bo VT2 OW CN LO ho9 hor9 hlt9 ht9 GN OV X9 LG
      refine hide ?_
      go_wp2
      exact ⟨⟨k + 1, g9, c9, vs ++ [0], [.slice (some ⟨f1, g1, none⟩) ra.length h1, .int .i64 pa, .slice (some ⟨f2, g2, none⟩) ma.length h2, .int .i64 sa, .bool la, .bool wa, .int .i64 ha1, .slice (some ⟨f3, g3, none⟩) ia.length h3, .slice (some ⟨f4, 0, none⟩) oa.length h4, .int .i64 ca], ⟨ra.set d z, pa, ma, sa, la, wa, ha1, ia, oa, ca⟩, by omega, by go_num, by rw [VL.out], VL9, OV9, HC, GN9, RX, RB, RZ, BW, RS2, IV2, LU⟩, by simp [intOf]; omega⟩

    · rcases (show kd = 4 ∨ kd = 5 ∨ kd = 6 ∨ kd = 7 by omega) with rfl | rfl | rfl | rfl
      · obtain ⟨mm, nw, lf, er⟩ : ∃ mm nw lf, evM ⟨bp, ln, ops, en, bx, by_, bk⟩ ⟨ra, pa, ma, sa, la, wa, ha1, ia, oa, ca⟩ ⟨4, x_, y_, k_, t_⟩ (atI vs x_) (atI vs y_) = (mm, nw, lf) := ⟨_, _, _, rfl⟩
        have NW : Hid (stepM ⟨bp, ln, ops, en, bx, by_, bk⟩ ⟨ra, pa, ma, sa, la, wa, ha1, ia, oa, ca⟩ vs ⟨4, x_, y_, k_, t_⟩ = (mm, nw, lf)) := show _ = _ by
          rw [← er]
          rfl
        have IN2 := hide (show Inv mm (vs ++ [nw]) ∧ mm.outs.length ≤ oa.length + 1 ∧ (lf = false → mm.count = ca) by have h9 := IN.out; rw [NW.out] at h9; exact h9)
        have G1 : Hid (Go1 ⟨ra, pa, ma, sa, la, wa, ha1, ia, oa, ca⟩ ⟨bp, ln, ops, en, bx, by_, bk⟩) := ⟨IV.out.1.regs, IV.out.1.mem, by have h8 : ca = count := IV.out.2.2; show 0 ≤ ca; omega, by have h8 : ca = count := IV.out.2.2; show ca ≤ 1000000; omega, p0, p64, (show (0 : Int) ≤ ln by omega), l8⟩
        have OL : Hid (oa.length ≤ 1000000000) := show _ ≤ _ by have h8 : oa.length ≤ 2000000 + k := IV.out.2.1; omega
        have XW := hide (at_w IV.out.1.vw x_).1
        have ER := hide er
        clear er
        go_wp2_with fail
        refine (wpIn_wide (n := 0)).1 ?_
        generalize (wr.alloc (.cells #[.int .i64 4, .int .i64 x_, .int .i64 y_, .int .i64 k_, .int .i64 t_] 49)) = d0 at RX RB RZ RO OV HC BW LU ⊢
        have bA : Below d0.heap.size d0 d0.drew := (Below.refl _ _).drew
        have SIT := hide (Sit.below (show Sit w d0 w.heap.size u3.heap.size u2.heap.size g cp [.int .i64 bp, .int .i64 ln, .slice (some ⟨B, off, none⟩) ops.length cap, .int .i64 en, .int .i64 bx, .int .i64 by_, .int .i64 bk] [.slice none 0 0, .int .i64 0, .slice none 0 0, .int .i64 0, .bool false, .bool false, .int .i64 0, .slice none 0 0, .slice none 0 0, .int .i64 0] [.slice (some ⟨f1, g1, none⟩) ra.length h1, .int .i64 pa, .slice (some ⟨f2, g2, none⟩) ma.length h2, .int .i64 sa, .bool la, .bool wa, .int .i64 ha1, .slice (some ⟨f3, g3, none⟩) ia.length h3, .slice (some ⟨f4, 0, none⟩) oa.length h4, .int .i64 ca] [.slice (some ⟨f1, g1, none⟩) ra.length h1, .int .i64 pa, .slice (some ⟨f2, g2, none⟩) ma.length h2, .int .i64 sa, .bool la, .bool wa, .int .i64 ha1, .slice (some ⟨f3, g3, none⟩) ia.length h3, .slice (some ⟨f4, 0, none⟩) oa.length h4, .int .i64 ca] ⟨ra, pa, ma, sa, la, wa, ha1, ia, oa, ca⟩ vs from ⟨OV.out, HC.out, GN.out, RX.out, RB.out, RZ.out, BW.out, LU.out⟩) bA)
        replace RO := hide (And.intro (RO.out.1.below bA) (RO.out.2.below bA))
        clear bA OV HC GN RX RB RZ BW LU
        refine PhaseIn.region (S := fun D => Rec u3.heap.size [.slice (some ⟨f1, g1, none⟩) ra.length h1, .int .i64 pa, .slice (some ⟨f2, g2, none⟩) ma.length h2, .int .i64 sa, .bool la, .bool wa, .int .i64 ha1, .slice (some ⟨f3, g3, none⟩) ia.length h3, .slice (some ⟨f4, 0, none⟩) oa.length h4, .int .i64 ca] D ∧ Rec wr.heap.size [.int .i64 4, .int .i64 x_, .int .i64 y_, .int .i64 k_, .int .i64 t_] D ∧ Rec w.heap.size [.int .i64 bp, .int .i64 ln, .slice (some ⟨B, off, none⟩) ops.length cap, .int .i64 en, .int .i64 bx, .int .i64 by_, .int .i64 bk] D ∧ Row D g (.slice (some ⟨g, 0, none⟩) k cp) vs) 19 (by kernel_rfl) ?_
        generalize d0.drew = d1 at SIT RO ⊢
        have hHeld : Rec u3.heap.size [.slice (some ⟨f1, g1, none⟩) ra.length h1, .int .i64 pa, .slice (some ⟨f2, g2, none⟩) ma.length h2, .int .i64 sa, .bool la, .bool wa, .int .i64 ha1, .slice (some ⟨f3, g3, none⟩) ia.length h3, .slice (some ⟨f4, 0, none⟩) oa.length h4, .int .i64 ca] d1 ∧ Rec wr.heap.size [.int .i64 4, .int .i64 x_, .int .i64 y_, .int .i64 k_, .int .i64 t_] d1 ∧ Rec w.heap.size [.int .i64 bp, .int .i64 ln, .slice (some ⟨B, off, none⟩) ops.length cap, .int .i64 en, .int .i64 bx, .int .i64 by_, .int .i64 bk] d1 ∧ Row d1 g (.slice (some ⟨g, 0, none⟩) k cp) vs := ⟨SIT.out.x.1, RO.out.1, SIT.out.b.1, by have := SIT.out.row; rw [VL.out] at this; exact this⟩
        have x0 : (0 : Int) ≤ x_ := OFF.out.x.1
        have x1 : x_ ≤ 1000 := by have h9 : x_ ≤ 48 := OFF.out.x.2; omega
        have y0 : (0 : Int) ≤ y_ := OFF.out.y.1
        have y1 : y_ ≤ 1000 := by have h9 : y_ ≤ 48 := OFF.out.y.2; omega
        have T7 : Hid ((0 : Int) ≤ t_ ∧ t_ ≤ 7) := OFF.out.t
        have EV := l6Event ⟨ra, pa, ma, sa, la, wa, ha1, ia, oa, ca⟩ ⟨bp, ln, ops, en, bx, by_, bk⟩ (some ⟨B, off, none⟩) ops.length cap ⟨4, x_, y_, k_, t_⟩ (atI vs x_) (atI vs y_) u2.heap.size [.slice (some ⟨f1, g1, none⟩) ra.length h1, .int .i64 pa, .slice (some ⟨f2, g2, none⟩) ma.length h2, .int .i64 sa, .bool la, .bool wa, .int .i64 ha1, .slice (some ⟨f3, g3, none⟩) ia.length h3, .slice (some ⟨f4, 0, none⟩) oa.length h4, .int .i64 ca]
        rw [ER.out] at EV
        have EVE := hide EV
        clear EV
        refine PhaseIn.takeD (i := 0) (v := ?_) [0, 11, 12, 13, 14, 15, 17, 18, 19] 88 rfl (by rfl) (by kernel_rfl) (by kernel_rfl) (by kernel_rfl) (by kernel_rfl) (by kernel_rfl) (fun _ _ _ h => h) (Or.inl ⟨by kernel_rfl, ?_⟩) hHeld ?_
        rotate_left
        · intro w' hSw
          (try dsimp only at hSw)
          have z0 := hSw.1.cell 0 _ rfl; have z1 := hSw.1.cell 1 _ rfl; have z2 := hSw.1.cell 2 _ rfl; have z3 := hSw.1.cell 3 _ rfl; have z4 := hSw.1.cell 4 _ rfl; have z5 := hSw.1.cell 5 _ rfl; have z6 := hSw.1.cell 6 _ rfl; have z7 := hSw.1.cell 7 _ rfl; have z8 := hSw.1.cell 8 _ rfl; have z9 := hSw.1.cell 9 _ rfl
          go_simp
          first | done | with_reducible rfl
        try simp only [Act.put, List.setIfInBounds_toArray, List.set]
        refine PhaseIn.takeD (i := 1) (v := ?_) [1, 11, 12, 13, 14, 15, 17, 18, 19] 89 rfl (by rfl) (by kernel_rfl) (by kernel_rfl) (by kernel_rfl) (by kernel_rfl) (by kernel_rfl) (fun _ _ _ h => h) (Or.inl ⟨by kernel_rfl, ?_⟩) hHeld ?_
        rotate_left
        · intro w' hSw
          (try dsimp only at hSw)
          have z0 := hSw.2.2.1.cell 0 _ rfl; have z1 := hSw.2.2.1.cell 1 _ rfl; have z2 := hSw.2.2.1.cell 2 _ rfl; have z3 := hSw.2.2.1.cell 3 _ rfl; have z4 := hSw.2.2.1.cell 4 _ rfl; have z5 := hSw.2.2.1.cell 5 _ rfl; have z6 := hSw.2.2.1.cell 6 _ rfl
          go_simp
          first | done | with_reducible rfl
        try simp only [Act.put, List.setIfInBounds_toArray, List.set]
        refine PhaseIn.takeD (i := 2) (v := ?_) [2, 11, 12, 13, 14, 15, 17, 18, 19] 90 rfl (by rfl) (by kernel_rfl) (by kernel_rfl) (by kernel_rfl) (by kernel_rfl) (by kernel_rfl) (fun _ _ _ h => h) (Or.inl ⟨by kernel_rfl, ?_⟩) hHeld ?_
        rotate_left
        · intro w' hSw
          (try dsimp only at hSw)
          have z0 := hSw.2.1.cell 0 _ rfl; have z1 := hSw.2.1.cell 1 _ rfl; have z2 := hSw.2.1.cell 2 _ rfl; have z3 := hSw.2.1.cell 3 _ rfl; have z4 := hSw.2.1.cell 4 _ rfl
          go_simp
          first | done | with_reducible rfl
        try simp only [Act.put, List.setIfInBounds_toArray, List.set]
        refine PhaseIn.takeD (i := 3) (v := ?_) [3, 6, 10, 11, 12, 13, 14, 15, 17, 18, 19] 91 rfl (by rfl) (by kernel_rfl) (by kernel_rfl) (by kernel_rfl) (by kernel_rfl) (by kernel_rfl) (fun _ _ _ h => h) (Or.inl ⟨by kernel_rfl, ?_⟩) hHeld ?_
        rotate_left
        · intro w' hSw
          (try dsimp only at hSw)
          go_simp
          first | done | with_reducible rfl
        try simp only [Act.put, List.setIfInBounds_toArray, List.set]
        refine PhaseIn.takeD (i := 4) (v := ?_) [4, 5, 6, 10, 11, 12, 13, 14, 15, 17, 18, 19] 92 rfl (by rfl) (by kernel_rfl) (by kernel_rfl) (by kernel_rfl) (by kernel_rfl) (by kernel_rfl) (fun _ _ _ h => h) (Or.inl ⟨by kernel_rfl, ?_⟩) hHeld ?_
        rotate_left
        · intro w' hSw
          (try dsimp only at hSw)
          go_simp
          first | done | with_reducible rfl
        try simp only [Act.put, List.setIfInBounds_toArray, List.set]
        refine PhaseIn.takeD (i := 5) (v := ?_) [5, 6, 10, 11, 12, 13, 14, 15, 17, 18, 19] 93 rfl (by rfl) (by kernel_rfl) (by kernel_rfl) (by kernel_rfl) (by kernel_rfl) (by kernel_rfl) (fun _ _ _ h => h) (Or.inl ⟨by kernel_rfl, ?_⟩) hHeld ?_
        rotate_left
        · intro w' hSw
          (try dsimp only at hSw)
          have z1 := hSw.2.1.cell 1 _ rfl
          go_simp
          first | done | with_reducible rfl
        try simp only [Act.put, List.setIfInBounds_toArray, List.set]
        refine PhaseIn.takeC (i := 6) (v := .int .i64 (atI vs x_)) [6, 10, 11, 12, 13, 14, 15, 17, 18, 19] 94 21 #[.slice (some ⟨g, 0, none⟩) k cp, .int .i64 x_] rfl (by rfl) (by kernel_rfl) (by kernel_rfl) (by kernel_rfl) (by kernel_rfl) (by kernel_rfl) (fun _ _ _ h => h) (by kernel_rfl) ?_ (fun w' hSw => l5At vs x_ x0 x1 _ _ _ hSw.2.2.2) hHeld ?_
        · intro w' hSw
          go_simp
          first | done | with_reducible rfl
        try simp only [Act.put, List.setIfInBounds_toArray, List.set]
        refine PhaseIn.takeD (i := 7) (v := ?_) [7, 10, 11, 12, 13, 14, 15, 17, 18, 19] 95 rfl (by rfl) (by kernel_rfl) (by kernel_rfl) (by kernel_rfl) (by kernel_rfl) (by kernel_rfl) (fun _ _ _ h => h) (Or.inl ⟨by kernel_rfl, ?_⟩) hHeld ?_
        rotate_left
        · intro w' hSw
          (try dsimp only at hSw)
          go_simp
          first | done | with_reducible rfl
        try simp only [Act.put, List.setIfInBounds_toArray, List.set]
        refine PhaseIn.takeD (i := 8) (v := ?_) [8, 9, 10, 11, 12, 13, 14, 15, 17, 18, 19] 96 rfl (by rfl) (by kernel_rfl) (by kernel_rfl) (by kernel_rfl) (by kernel_rfl) (by kernel_rfl) (fun _ _ _ h => h) (Or.inl ⟨by kernel_rfl, ?_⟩) hHeld ?_
        rotate_left
        · intro w' hSw
          (try dsimp only at hSw)
          go_simp
          first | done | with_reducible rfl
        try simp only [Act.put, List.setIfInBounds_toArray, List.set]
        refine PhaseIn.takeD (i := 9) (v := ?_) [9, 10, 11, 12, 13, 14, 15, 17, 18, 19] 97 rfl (by rfl) (by kernel_rfl) (by kernel_rfl) (by kernel_rfl) (by kernel_rfl) (by kernel_rfl) (fun _ _ _ h => h) (Or.inl ⟨by kernel_rfl, ?_⟩) hHeld ?_
        rotate_left
        · intro w' hSw
          (try dsimp only at hSw)
          have z2 := hSw.2.1.cell 2 _ rfl
          go_simp
          first | done | with_reducible rfl
        try simp only [Act.put, List.setIfInBounds_toArray, List.set]
        refine PhaseIn.takeC (i := 10) (v := .int .i64 (atI vs y_)) [10, 11, 12, 13, 14, 15, 17, 18, 19] 98 21 #[.slice (some ⟨g, 0, none⟩) k cp, .int .i64 y_] rfl (by rfl) (by kernel_rfl) (by kernel_rfl) (by kernel_rfl) (by kernel_rfl) (by kernel_rfl) (fun _ _ _ h => h) (by kernel_rfl) ?_ (fun w' hSw => l5At vs y_ y0 y1 _ _ _ hSw.2.2.2) hHeld ?_
        · intro w' hSw
          go_simp
          first | done | with_reducible rfl
        try simp only [Act.put, List.setIfInBounds_toArray, List.set]
        refine PhaseIn.two (i := 11) (j := 16) (by kernel_rfl) rfl rfl (by kernel_rfl) (by kernel_rfl) (fun K hK => ?_) (fun K hK => ?_)
        · unfold Oper.wpIn
          refine ⟨fun _ _ => trivial, ?_⟩
          go_simp
          refine ⟨rfl, (callsIn_wide.2 (EVE.out _ SIT.out.mach G1.out OL.out (show (4 : Int) ≤ 4 ∧ (4 : Int) ≤ 7 by omega) XW.out T7.out.1 T7.out.2)).mono ?_⟩
          rintro e dd ⟨c', rfl, hc, hi, ho, hg⟩
          obtain ⟨i1, j1, e1, i2, j2, e2, i3, j3, e3, i4, e4, rfl⟩ := forms hc
          simp only [mv] at hc hi ho hg ⊢
          have SIT2 := hide (Sit.event SIT.out U3.out.1 hi ho hc hg)
          have RO2 := hide (Rec.ints RO.out.1 RO.out.2 op_int hi)
          clear hc hi ho hg
          have hHeld2 : Rec u3.heap.size [.slice (some ⟨f1, g1, none⟩) ra.length h1, .int .i64 pa, .slice (some ⟨f2, g2, none⟩) ma.length h2, .int .i64 sa, .bool la, .bool wa, .int .i64 ha1, .slice (some ⟨f3, g3, none⟩) ia.length h3, .slice (some ⟨f4, 0, none⟩) oa.length h4, .int .i64 ca] dd ∧ Rec wr.heap.size [.int .i64 4, .int .i64 x_, .int .i64 y_, .int .i64 k_, .int .i64 t_] dd ∧ Rec w.heap.size [.int .i64 bp, .int .i64 ln, .slice (some ⟨B, off, none⟩) ops.length cap, .int .i64 en, .int .i64 bx, .int .i64 by_, .int .i64 bk] dd ∧ Row dd g (.slice (some ⟨g, 0, none⟩) k cp) vs := ⟨SIT2.out.x.1, RO2.out, SIT2.out.b.1, by have := SIT2.out.row; rw [VL.out] at this; exact this⟩
          refine hK _ _ (fun _ => hHeld2) ?_
          clear hK K hHeld SIT RO
          try simp only [Act.put, List.setIfInBounds_toArray, List.set]
          refine PhaseIn.takeD (i := 12) (v := ?_) [12, 13, 14, 15, 17, 18, 19] 87 rfl (by rfl) (by kernel_rfl) (by kernel_rfl) (by kernel_rfl) (by kernel_rfl) (by kernel_rfl) (fun _ _ _ h => h) (Or.inl ⟨by kernel_rfl, ?_⟩) hHeld2 ?_
          rotate_left
          · intro w' hSw
            (try dsimp only at hSw)
            go_simp
            first | done | with_reducible rfl
          try simp only [Act.put, List.setIfInBounds_toArray, List.set]
          refine PhaseIn.takeD (i := 13) (v := ?_) [13, 17, 18, 19] 100 rfl (by rfl) (by kernel_rfl) (by kernel_rfl) (by kernel_rfl) (by kernel_rfl) (by kernel_rfl) (fun _ _ _ h => h) (Or.inl ⟨by kernel_rfl, ?_⟩) hHeld2 ?_
          rotate_left
          · intro w' hSw
            (try dsimp only at hSw)
            go_simp
            first | done | with_reducible rfl
          try simp only [Act.put, List.setIfInBounds_toArray, List.set]
          refine PhaseIn.takeD (i := 14) (v := ?_) [14, 18, 19] 101 rfl (by rfl) (by kernel_rfl) (by kernel_rfl) (by kernel_rfl) (by kernel_rfl) (by kernel_rfl) (fun _ _ _ h => h) (Or.inl ⟨by kernel_rfl, ?_⟩) hHeld2 ?_
          rotate_left
          · intro w' hSw
            (try dsimp only at hSw)
            go_simp
            first | done | with_reducible rfl
          try simp only [Act.put, List.setIfInBounds_toArray, List.set]
          refine PhaseIn.takeD (i := 15) (v := ?_) [15, 19] 102 rfl (by rfl) (by kernel_rfl) (by kernel_rfl) (by kernel_rfl) (by kernel_rfl) (by kernel_rfl) (fun _ _ _ h => h) (Or.inl ⟨by kernel_rfl, ?_⟩) hHeld2 ?_
          rotate_left
          · intro w' hSw
            (try dsimp only at hSw)
            go_simp
            first | done | with_reducible rfl
          try simp only [Act.put, List.setIfInBounds_toArray, List.set]
          refine PhaseIn.one (i := 16) (by kernel_rfl) rfl (by kernel_rfl) (fun K hK => ?_)
          unfold Oper.wpIn
          refine ⟨fun _ _ => trivial, ?_⟩
          go_simp
          have bY := alloc_below dd (.cells #[.slice none 0 0, .int .i64 0, .slice none 0 0, .int .i64 0, .bool false, .bool false, .int .i64 0, .slice none 0 0, .slice none 0 0, .int .i64 0] 30)
          have RY := hide (And.intro (Rec.new dd [.slice none 0 0, .int .i64 0, .slice none 0 0, .int .i64 0, .bool false, .bool false, .int .i64 0, .slice none 0 0, .slice none 0 0, .int .i64 0] 30) (IsT.new dd #[.slice none 0 0, .int .i64 0, .slice none 0 0, .int .i64 0, .bool false, .bool false, .int .i64 0, .slice none 0 0, .slice none 0 0, .int .i64 0] 30))
          have XY : Hid (u3.heap.size ≠ dd.heap.size ∧ w.heap.size + 1 + 1 < dd.heap.size ∧ wr.heap.size ≠ dd.heap.size) := ⟨Nat.ne_of_lt SIT2.out.x.1.lt, SIT2.out.z.1.lt, Nat.ne_of_lt RO2.out.lt⟩
          replace SIT2 := hide (Sit.below SIT2.out bY)
          replace RO2 := hide (RO2.out.below bY)
          clear bY hHeld2
          have hHeld2 : Rec u3.heap.size [.slice (some ⟨f1, g1, none⟩) ra.length h1, .int .i64 pa, .slice (some ⟨f2, g2, none⟩) ma.length h2, .int .i64 sa, .bool la, .bool wa, .int .i64 ha1, .slice (some ⟨f3, g3, none⟩) ia.length h3, .slice (some ⟨f4, 0, none⟩) oa.length h4, .int .i64 ca] (dd.alloc (.cells #[.slice none 0 0, .int .i64 0, .slice none 0 0, .int .i64 0, .bool false, .bool false, .int .i64 0, .slice none 0 0, .slice none 0 0, .int .i64 0] 30)) ∧ Rec wr.heap.size [.int .i64 4, .int .i64 x_, .int .i64 y_, .int .i64 k_, .int .i64 t_] (dd.alloc (.cells #[.slice none 0 0, .int .i64 0, .slice none 0 0, .int .i64 0, .bool false, .bool false, .int .i64 0, .slice none 0 0, .slice none 0 0, .int .i64 0] 30)) ∧ Rec w.heap.size [.int .i64 bp, .int .i64 ln, .slice (some ⟨B, off, none⟩) ops.length cap, .int .i64 en, .int .i64 bx, .int .i64 by_, .int .i64 bk] (dd.alloc (.cells #[.slice none 0 0, .int .i64 0, .slice none 0 0, .int .i64 0, .bool false, .bool false, .int .i64 0, .slice none 0 0, .slice none 0 0, .int .i64 0] 30)) ∧ Row (dd.alloc (.cells #[.slice none 0 0, .int .i64 0, .slice none 0 0, .int .i64 0, .bool false, .bool false, .int .i64 0, .slice none 0 0, .slice none 0 0, .int .i64 0] 30)) g (.slice (some ⟨g, 0, none⟩) k cp) vs := ⟨SIT2.out.x.1, RO2.out, SIT2.out.b.1, by have := SIT2.out.row; rw [VL.out] at this; exact this⟩
          refine hK _ _ (fun _ => hHeld2) ?_
          clear hK K RO2
          try simp only [Act.put, List.setIfInBounds_toArray, List.set]
          generalize dd.alloc (.cells #[.slice none 0 0, .int .i64 0, .slice none 0 0, .int .i64 0, .bool false, .bool false, .int .i64 0, .slice none 0 0, .slice none 0 0, .int .i64 0] 30) = d2 at SIT2 RY hHeld2 ⊢
          generalize dd.heap.size = Y at RY XY ⊢
          have z0 := RY.out.1.cell 0 _ rfl
          have s0 := RY.out.1.soft 0
          have z1 := RY.out.1.cell 1 _ rfl
          have s1 := RY.out.1.soft 1
          have z2 := RY.out.1.cell 2 _ rfl
          have s2 := RY.out.1.soft 2
          have z3 := RY.out.1.cell 3 _ rfl
          have s3 := RY.out.1.soft 3
          have z4 := RY.out.1.cell 4 _ rfl
          have s4 := RY.out.1.soft 4
          have z5 := RY.out.1.cell 5 _ rfl
          have s5 := RY.out.1.soft 5
          have z6 := RY.out.1.cell 6 _ rfl
          have s6 := RY.out.1.soft 6
          have z7 := RY.out.1.cell 7 _ rfl
          have s7 := RY.out.1.soft 7
          have z8 := RY.out.1.cell 8 _ rfl
          have s8 := RY.out.1.soft 8
          have z9 := RY.out.1.cell 9 _ rfl
          have s9 := RY.out.1.soft 9
          refine PhaseIn.one (i := 17) (by kernel_rfl) rfl (by kernel_rfl) (fun K hK => ?_)
          unfold Oper.wpIn
          refine ⟨fun _ _ => trivial, ?_⟩
          go_simp
          have SIT3 := hide (Sit.box SIT2.out (turn_ten Y d2 (.slice (some ⟨i1, j1, none⟩) mm.regs.length e1) (.int .i64 mm.pc) (.slice (some ⟨i2, j2, none⟩) mm.mem.length e2) (.int .i64 mm.save) (.bool mm.lets) (.bool mm.waits) (.int .i64 mm.halt) (.slice (some ⟨i3, j3, none⟩) mm.ins.length e3) (.slice (some ⟨i4, 0, none⟩) mm.outs.length e4) (.int .i64 mm.count)) RY.out.2 XY.out.1 XY.out.2.1)
          have hHeld3 : Rec u3.heap.size [.slice (some ⟨f1, g1, none⟩) ra.length h1, .int .i64 pa, .slice (some ⟨f2, g2, none⟩) ma.length h2, .int .i64 sa, .bool la, .bool wa, .int .i64 ha1, .slice (some ⟨f3, g3, none⟩) ia.length h3, .slice (some ⟨f4, 0, none⟩) oa.length h4, .int .i64 ca] ((((((((((d2.setCell ⟨Y, 0, none⟩ (.slice (some ⟨i1, j1, none⟩) mm.regs.length e1)).setCell ⟨Y, 1, none⟩ (.int .i64 mm.pc)).setCell ⟨Y, 2, none⟩ (.slice (some ⟨i2, j2, none⟩) mm.mem.length e2)).setCell ⟨Y, 3, none⟩ (.int .i64 mm.save)).setCell ⟨Y, 4, none⟩ (.bool mm.lets)).setCell ⟨Y, 5, none⟩ (.bool mm.waits)).setCell ⟨Y, 6, none⟩ (.int .i64 mm.halt)).setCell ⟨Y, 7, none⟩ (.slice (some ⟨i3, j3, none⟩) mm.ins.length e3)).setCell ⟨Y, 8, none⟩ (.slice (some ⟨i4, 0, none⟩) mm.outs.length e4)).setCell ⟨Y, 9, none⟩ (.int .i64 mm.count)) ∧ Rec wr.heap.size [.int .i64 4, .int .i64 x_, .int .i64 y_, .int .i64 k_, .int .i64 t_] ((((((((((d2.setCell ⟨Y, 0, none⟩ (.slice (some ⟨i1, j1, none⟩) mm.regs.length e1)).setCell ⟨Y, 1, none⟩ (.int .i64 mm.pc)).setCell ⟨Y, 2, none⟩ (.slice (some ⟨i2, j2, none⟩) mm.mem.length e2)).setCell ⟨Y, 3, none⟩ (.int .i64 mm.save)).setCell ⟨Y, 4, none⟩ (.bool mm.lets)).setCell ⟨Y, 5, none⟩ (.bool mm.waits)).setCell ⟨Y, 6, none⟩ (.int .i64 mm.halt)).setCell ⟨Y, 7, none⟩ (.slice (some ⟨i3, j3, none⟩) mm.ins.length e3)).setCell ⟨Y, 8, none⟩ (.slice (some ⟨i4, 0, none⟩) mm.outs.length e4)).setCell ⟨Y, 9, none⟩ (.int .i64 mm.count)) ∧ Rec w.heap.size [.int .i64 bp, .int .i64 ln, .slice (some ⟨B, off, none⟩) ops.length cap, .int .i64 en, .int .i64 bx, .int .i64 by_, .int .i64 bk] ((((((((((d2.setCell ⟨Y, 0, none⟩ (.slice (some ⟨i1, j1, none⟩) mm.regs.length e1)).setCell ⟨Y, 1, none⟩ (.int .i64 mm.pc)).setCell ⟨Y, 2, none⟩ (.slice (some ⟨i2, j2, none⟩) mm.mem.length e2)).setCell ⟨Y, 3, none⟩ (.int .i64 mm.save)).setCell ⟨Y, 4, none⟩ (.bool mm.lets)).setCell ⟨Y, 5, none⟩ (.bool mm.waits)).setCell ⟨Y, 6, none⟩ (.int .i64 mm.halt)).setCell ⟨Y, 7, none⟩ (.slice (some ⟨i3, j3, none⟩) mm.ins.length e3)).setCell ⟨Y, 8, none⟩ (.slice (some ⟨i4, 0, none⟩) mm.outs.length e4)).setCell ⟨Y, 9, none⟩ (.int .i64 mm.count)) ∧ Row ((((((((((d2.setCell ⟨Y, 0, none⟩ (.slice (some ⟨i1, j1, none⟩) mm.regs.length e1)).setCell ⟨Y, 1, none⟩ (.int .i64 mm.pc)).setCell ⟨Y, 2, none⟩ (.slice (some ⟨i2, j2, none⟩) mm.mem.length e2)).setCell ⟨Y, 3, none⟩ (.int .i64 mm.save)).setCell ⟨Y, 4, none⟩ (.bool mm.lets)).setCell ⟨Y, 5, none⟩ (.bool mm.waits)).setCell ⟨Y, 6, none⟩ (.int .i64 mm.halt)).setCell ⟨Y, 7, none⟩ (.slice (some ⟨i3, j3, none⟩) mm.ins.length e3)).setCell ⟨Y, 8, none⟩ (.slice (some ⟨i4, 0, none⟩) mm.outs.length e4)).setCell ⟨Y, 9, none⟩ (.int .i64 mm.count)) g (.slice (some ⟨g, 0, none⟩) k cp) vs := ⟨SIT3.out.x.1, hHeld2.2.1.turn (turn_ten Y d2 (.slice (some ⟨i1, j1, none⟩) mm.regs.length e1) (.int .i64 mm.pc) (.slice (some ⟨i2, j2, none⟩) mm.mem.length e2) (.int .i64 mm.save) (.bool mm.lets) (.bool mm.waits) (.int .i64 mm.halt) (.slice (some ⟨i3, j3, none⟩) mm.ins.length e3) (.slice (some ⟨i4, 0, none⟩) mm.outs.length e4) (.int .i64 mm.count)) XY.out.2.2, SIT3.out.b.1, by have := SIT3.out.row; rw [VL.out] at this; exact this⟩
          refine hK _ _ (fun _ => hHeld3) ?_
          clear hK K hHeld2 z0 s0 z1 s1 z2 s2 z3 s3 z4 s4 z5 s5 z6 s6 z7 s7 z8 s8 z9 s9
          try simp only [Act.put, List.setIfInBounds_toArray, List.set]
          replace RY := hide (And.intro (rec_ten RY.out.1 (.slice (some ⟨i1, j1, none⟩) mm.regs.length e1) (.int .i64 mm.pc) (.slice (some ⟨i2, j2, none⟩) mm.mem.length e2) (.int .i64 mm.save) (.bool mm.lets) (.bool mm.waits) (.int .i64 mm.halt) (.slice (some ⟨i3, j3, none⟩) mm.ins.length e3) (.slice (some ⟨i4, 0, none⟩) mm.outs.length e4) (.int .i64 mm.count)) (type_ten (Z := Y) RY.out.2 (.slice (some ⟨i1, j1, none⟩) mm.regs.length e1) (.int .i64 mm.pc) (.slice (some ⟨i2, j2, none⟩) mm.mem.length e2) (.int .i64 mm.save) (.bool mm.lets) (.bool mm.waits) (.int .i64 mm.halt) (.slice (some ⟨i3, j3, none⟩) mm.ins.length e3) (.slice (some ⟨i4, 0, none⟩) mm.outs.length e4) (.int .i64 mm.count)))
          clear SIT2
          generalize ((((((((((d2.setCell ⟨Y, 0, none⟩ (.slice (some ⟨i1, j1, none⟩) mm.regs.length e1)).setCell ⟨Y, 1, none⟩ (.int .i64 mm.pc)).setCell ⟨Y, 2, none⟩ (.slice (some ⟨i2, j2, none⟩) mm.mem.length e2)).setCell ⟨Y, 3, none⟩ (.int .i64 mm.save)).setCell ⟨Y, 4, none⟩ (.bool mm.lets)).setCell ⟨Y, 5, none⟩ (.bool mm.waits)).setCell ⟨Y, 6, none⟩ (.int .i64 mm.halt)).setCell ⟨Y, 7, none⟩ (.slice (some ⟨i3, j3, none⟩) mm.ins.length e3)).setCell ⟨Y, 8, none⟩ (.slice (some ⟨i4, 0, none⟩) mm.outs.length e4)).setCell ⟨Y, 9, none⟩ (.int .i64 mm.count)) = d3 at SIT3 RY hHeld3 ⊢
          refine PhaseIn.takeD (i := 18) (v := ?_) [18, 19] 12 rfl (by rfl) (by kernel_rfl) (by kernel_rfl) (by kernel_rfl) (by kernel_rfl) (by kernel_rfl) (fun _ _ _ h => h) (Or.inl ⟨by kernel_rfl, ?_⟩) hHeld3 ?_
          rotate_left
          · intro w' hSw
            (try dsimp only at hSw)
            go_simp
            first | done | with_reducible rfl
          try simp only [Act.put, List.setIfInBounds_toArray, List.set]
          refine PhaseIn.late (i := 19) (v := ?_) (by kernel_rfl) rfl 13 (by rfl) (by omega) (Or.inl ⟨by kernel_rfl, ?_⟩) ?_
          rotate_left
          · intro w' hSw
            go_simp
            first | done | with_reducible rfl
          try simp only [Act.put, List.setIfInBounds_toArray, List.set]
          refine PhaseIn.done (by kernel_rfl) ?_ _
          clear hHeld3
          have y0 := RY.out.1.cell 0 _ rfl
          have y1 := RY.out.1.cell 1 _ rfl
          have y2 := RY.out.1.cell 2 _ rfl
          have y3 := RY.out.1.cell 3 _ rfl
          have y4 := RY.out.1.cell 4 _ rfl
          have y5 := RY.out.1.cell 5 _ rfl
          have y6 := RY.out.1.cell 6 _ rfl
          have y7 := RY.out.1.cell 7 _ rfl
          have y8 := RY.out.1.cell 8 _ rfl
          have y9 := RY.out.1.cell 9 _ rfl
          cases lf with
          | true =>
            have RD : Hid (R = mm) := show _ = _ by
              rw [RS.out]
              simp only [runM]
              rw [NW.out]
              rfl
            have ZB : Hid (Box (w.heap.size + 1 + 1) 30 [.slice none 0 0, .int .i64 0, .slice none 0 0, .int .i64 0, .bool false, .bool false, .int .i64 0, .slice none 0 0, .slice none 0 0, .int .i64 0] d3) := ⟨SIT3.out.z.1, SIT3.out.z.2⟩
            have ZN : Hid (w.heap.size + 1 + 1 ∉ mb [.slice (some ⟨i1, j1, none⟩) mm.regs.length e1, .int .i64 mm.pc, .slice (some ⟨i2, j2, none⟩) mm.mem.length e2, .int .i64 mm.save, .bool mm.lets, .bool mm.waits, .int .i64 mm.halt, .slice (some ⟨i3, j3, none⟩) mm.ins.length e3, .slice (some ⟨i4, 0, none⟩) mm.outs.length e4, .int .i64 mm.count]) := fun e => (SIT3.out.z.2.ne (SIT3.out.mach.mb_int _ e) mach_int) rfl
            go_wp2_with (refine wpList_lay rfl rfl _ _ rfl (w.heap.size + 1 + 1) _ _ _ _ _ _ _ _ _ _ ZB.out rfl _ _ _ _ _ _ _ _ _ _ _ _ _ _ _ _ _ _ rfl ?_; intro u9 RB TB; refine Hid.out ?_)
            have HC9 := hide ((SIT3.out.mach.turnI TB.out ZN.out).lowI U3.out.1)
            have BW9 := hide (SIT3.out.bw.trans (TB.out.below (by omega) (Nat.le_of_lt SIT3.out.b.2.lt)))
            have z0 := RB.out.r.cell 0 _ rfl
            have z1 := RB.out.r.cell 1 _ rfl
            have z2 := RB.out.r.cell 2 _ rfl
            have z3 := RB.out.r.cell 3 _ rfl
            have z4 := RB.out.r.cell 4 _ rfl
            have z5 := RB.out.r.cell 5 _ rfl
            have z6 := RB.out.r.cell 6 _ rfl
            have z7 := RB.out.r.cell 7 _ rfl
            have z8 := RB.out.r.cell 8 _ rfl
            have z9 := RB.out.r.cell 9 _ rfl
            clear RB TB SIT3 ZB ZN RY RS IV IN NW IN2 OFF y0 y1 y2 y3 y4 y5 y6 y7 y8 y9 T7 XY G1 OL XW ER EVE VL
            refine hide ?_
            iterate 11 go_step
            exact bodyPost_ret (v := .tuple #[.agg #[.slice (some ⟨i1, j1, none⟩) mm.regs.length e1, .int .i64 mm.pc, .slice (some ⟨i2, j2, none⟩) mm.mem.length e2, .int .i64 mm.save, .bool mm.lets, .bool mm.waits, .int .i64 mm.halt, .slice (some ⟨i3, j3, none⟩) mm.ins.length e3, .slice (some ⟨i4, 0, none⟩) mm.outs.length e4, .int .i64 mm.count], .bool kk]) (by rw [EQ.out]; simp [results, Tryz.results6, go_sem, z0, z1, z2, z3, z4, z5, z6, z7, z8, z9]) rfl ⟨IR.out [.slice (some ⟨i1, j1, none⟩) mm.regs.length e1, .int .i64 mm.pc, .slice (some ⟨i2, j2, none⟩) mm.mem.length e2, .int .i64 mm.save, .bool mm.lets, .bool mm.waits, .int .i64 mm.halt, .slice (some ⟨i3, j3, none⟩) mm.ins.length e3, .slice (some ⟨i4, 0, none⟩) mm.outs.length e4, .int .i64 mm.count] _ (fun e => by rw [BOTH.out] at e; cases e) (fun _ => by rw [RD.out]; exact HC9.out), BW9.out⟩
          | false =>
            have RS2 : Hid (R = runM ⟨bp, ln, ops, en, bx, by_, bk⟩ (ops.drop (k + 1)) mm (vs ++ [nw])) := show _ = _ by
              rw [RS.out]
              simp only [runM]
              rw [NW.out]
              rfl
            have IV2 : Hid (Inv mm (vs ++ [nw]) ∧ mm.outs.length ≤ 2000000 + k + 1 ∧ mm.count = count) := ⟨IN2.out.1, by have h8 : oa.length ≤ 2000000 + k := IV.out.2.1; have h9 := IN2.out.2.1; omega, (IN2.out.2.2 rfl).trans IV.out.2.2⟩
            have XB : Hid (Box u3.heap.size 30 [.slice (some ⟨f1, g1, none⟩) ra.length h1, .int .i64 pa, .slice (some ⟨f2, g2, none⟩) ma.length h2, .int .i64 sa, .bool la, .bool wa, .int .i64 ha1, .slice (some ⟨f3, g3, none⟩) ia.length h3, .slice (some ⟨f4, 0, none⟩) oa.length h4, .int .i64 ca] d3) := ⟨SIT3.out.x.1, SIT3.out.x.2⟩
            clear RS IV IN NW IN2 OFF
            go_wp2_with (refine wpList_lay rfl rfl _ _ rfl (u3.heap.size) _ _ _ _ _ _ _ _ _ _ XB.out rfl _ _ _ _ _ _ _ _ _ _ _ _ _ _ _ _ _ _ rfl ?_; intro u9 RB TB; refine Hid.out ?_)
            have SIT4 := hide (Sit.self SIT3.out TB.out NX.out RB.out.r RB.out.t)
            have OV := hide SIT4.out.own
            have HC := hide SIT4.out.mach
            have GN := hide SIT4.out.gn
            have RX := hide SIT4.out.x
            have RB := hide SIT4.out.b
            have RZ := hide SIT4.out.z
            have BW := hide SIT4.out.bw
            have LU := hide SIT4.out.lu
            clear SIT3 SIT4 TB XB RY y0 y1 y2 y3 y4 y5 y6 y7 y8 y9
            refine hide ?_
            have bo := alloc_below u9 (.cells #[.int .i64 nw] 3)
            have VT2 := hide OV.out.isT
            have OW := hide (OV.out.turn (Turn.of_below (B := u9.heap.size) bo) (Nat.ne_of_lt VT2.out.lt) VT2.out.lt)
            have CN : Hid ((u9.alloc (.cells #[.int .i64 nw] 3)).cell? ((⟨u9.heap.size, 0, none⟩ : Addr).add 0) = some (.int .i64 nw)) := show _ = _ by
              rw [Go.WideShapes.add_plain]
              have h9 := World.cell?_alloc_new u9 #[.int .i64 nw] 3 0
              first | exact h9 | simpa using h9
            have LO : Hid (u2.heap.size ≤ (u9.alloc (.cells #[.int .i64 nw] 3)).heap.size) := Nat.le_trans LU.out bo.size
            have VLE : vs.length ≤ 1000000000000 := by rw [VL.out]; omega
            go_wp2_with (at_builtin; refine wpList_push rfl _ _ rfl u2.heap.size g cp vs (by rw [VL.out]; rfl) OW.out LO.out _ nw rfl CN.out VLE ?_; intro g9 c9 u9 ho9 hor9 hlt9 ht9; refine Hid.out ?_)
            have X9 : Hid (u3.heap.size ≠ g ∧ w.heap.size ≠ g ∧ w.heap.size + 1 + 1 ≠ g) := ⟨RX.out.2.ne VT2.out mach_int, RB.out.2.ne VT2.out block_int, RZ.out.2.ne VT2.out mach_int⟩
            have GN9 : Hid (g9 ∉ mb [.slice (some ⟨i1, j1, none⟩) mm.regs.length e1, .int .i64 mm.pc, .slice (some ⟨i2, j2, none⟩) mm.mem.length e2, .int .i64 mm.save, .bool mm.lets, .bool mm.waits, .int .i64 mm.halt, .slice (some ⟨i3, j3, none⟩) mm.ins.length e3, .slice (some ⟨i4, 0, none⟩) mm.outs.length e4, .int .i64 mm.count]) := fun hg => by
              rcases hor9 with e | e
              · exact GN.out (by rw [← e]; exact hg)
              · exact absurd (Nat.lt_of_lt_of_le (HC.out.mb_lt g9 hg).2 bo.size) (Nat.not_lt.2 e)
            have LG : Hid (u2.heap.size ≤ g) := show _ ≤ _ by
              obtain ⟨g', cp', ev, hl, _, _⟩ := OV.out.form (by simp)
              cases ev
              exact hl
            replace HC := hide ((HC.out.below bo).turnI ht9 GN.out)
            replace RX := hide (And.intro ((RX.out.1.below bo).turn ht9 X9.out.1) ((RX.out.2.below bo).turn ht9 X9.out.1))
            replace RB := hide (And.intro ((RB.out.1.below bo).turn ht9 X9.out.2.1) ((RB.out.2.below bo).turn ht9 X9.out.2.1))
            replace RZ := hide (And.intro ((RZ.out.1.below bo).turn ht9 X9.out.2.2) ((RZ.out.2.below bo).turn ht9 X9.out.2.2))
            replace BW := hide ((BW.out.trans (bo.mono BW.out.size)).trans (ht9.below (Nat.le_trans U3.out.1 LG.out) (Nat.le_trans BW.out.size bo.size)))
            replace LU := hide (Nat.le_trans (Nat.le_trans LU.out bo.size) ht9.size)
            have OV9 := hide ho9
            have VL9 : Hid ((vs ++ [nw]).length = k + 1) := show _ = _ by rw [List.length_append, VL.out]; rfl
            clear bo VT2 OW CN LO ho9 hor9 hlt9 ht9 GN OV X9 LG
            refine hide ?_
            go_wp2
            exact ⟨⟨k + 1, g9, c9, vs ++ [nw], [.slice (some ⟨i1, j1, none⟩) mm.regs.length e1, .int .i64 mm.pc, .slice (some ⟨i2, j2, none⟩) mm.mem.length e2, .int .i64 mm.save, .bool mm.lets, .bool mm.waits, .int .i64 mm.halt, .slice (some ⟨i3, j3, none⟩) mm.ins.length e3, .slice (some ⟨i4, 0, none⟩) mm.outs.length e4, .int .i64 mm.count], mm, by omega, by go_num, by rw [VL.out], VL9, OV9, HC, GN9, RX, RB, RZ, BW, RS2, IV2, LU⟩, by simp [intOf]; omega⟩

        · unfold Oper.wpIn
          refine ⟨fun _ _ => trivial, ?_⟩
          go_simp
          have bY := alloc_below d1 (.cells #[.slice none 0 0, .int .i64 0, .slice none 0 0, .int .i64 0, .bool false, .bool false, .int .i64 0, .slice none 0 0, .slice none 0 0, .int .i64 0] 30)
          have RY := hide (And.intro (Rec.new d1 [.slice none 0 0, .int .i64 0, .slice none 0 0, .int .i64 0, .bool false, .bool false, .int .i64 0, .slice none 0 0, .slice none 0 0, .int .i64 0] 30) (IsT.new d1 #[.slice none 0 0, .int .i64 0, .slice none 0 0, .int .i64 0, .bool false, .bool false, .int .i64 0, .slice none 0 0, .slice none 0 0, .int .i64 0] 30))
          have XY : Hid (u3.heap.size ≠ d1.heap.size ∧ w.heap.size + 1 + 1 < d1.heap.size ∧ wr.heap.size ≠ d1.heap.size) := ⟨Nat.ne_of_lt SIT.out.x.1.lt, SIT.out.z.1.lt, Nat.ne_of_lt RO.out.1.lt⟩
          replace SIT := hide (Sit.below SIT.out bY)
          replace RO := hide (And.intro (RO.out.1.below bY) (RO.out.2.below bY))
          clear bY hHeld
          have hHeld : Rec u3.heap.size [.slice (some ⟨f1, g1, none⟩) ra.length h1, .int .i64 pa, .slice (some ⟨f2, g2, none⟩) ma.length h2, .int .i64 sa, .bool la, .bool wa, .int .i64 ha1, .slice (some ⟨f3, g3, none⟩) ia.length h3, .slice (some ⟨f4, 0, none⟩) oa.length h4, .int .i64 ca] (d1.alloc (.cells #[.slice none 0 0, .int .i64 0, .slice none 0 0, .int .i64 0, .bool false, .bool false, .int .i64 0, .slice none 0 0, .slice none 0 0, .int .i64 0] 30)) ∧ Rec wr.heap.size [.int .i64 4, .int .i64 x_, .int .i64 y_, .int .i64 k_, .int .i64 t_] (d1.alloc (.cells #[.slice none 0 0, .int .i64 0, .slice none 0 0, .int .i64 0, .bool false, .bool false, .int .i64 0, .slice none 0 0, .slice none 0 0, .int .i64 0] 30)) ∧ Rec w.heap.size [.int .i64 bp, .int .i64 ln, .slice (some ⟨B, off, none⟩) ops.length cap, .int .i64 en, .int .i64 bx, .int .i64 by_, .int .i64 bk] (d1.alloc (.cells #[.slice none 0 0, .int .i64 0, .slice none 0 0, .int .i64 0, .bool false, .bool false, .int .i64 0, .slice none 0 0, .slice none 0 0, .int .i64 0] 30)) ∧ Row (d1.alloc (.cells #[.slice none 0 0, .int .i64 0, .slice none 0 0, .int .i64 0, .bool false, .bool false, .int .i64 0, .slice none 0 0, .slice none 0 0, .int .i64 0] 30)) g (.slice (some ⟨g, 0, none⟩) k cp) vs := ⟨SIT.out.x.1, RO.out.1, SIT.out.b.1, by have := SIT.out.row; rw [VL.out] at this; exact this⟩
          refine hK _ _ (fun _ => hHeld) ?_
          clear hK K
          try simp only [Act.put, List.setIfInBounds_toArray, List.set]
          generalize d1.alloc (.cells #[.slice none 0 0, .int .i64 0, .slice none 0 0, .int .i64 0, .bool false, .bool false, .int .i64 0, .slice none 0 0, .slice none 0 0, .int .i64 0] 30) = dd at SIT RY RO hHeld ⊢
          generalize d1.heap.size = Y at RY XY ⊢
          refine PhaseIn.one (i := 11) (by kernel_rfl) rfl (by kernel_rfl) (fun K hK => ?_)
          unfold Oper.wpIn
          refine ⟨fun _ _ => trivial, ?_⟩
          go_simp
          refine ⟨rfl, (callsIn_wide.2 (EVE.out _ SIT.out.mach G1.out OL.out (show (4 : Int) ≤ 4 ∧ (4 : Int) ≤ 7 by omega) XW.out T7.out.1 T7.out.2)).mono ?_⟩
          rintro e d2 ⟨c', rfl, hc, hi, ho, hg⟩
          obtain ⟨i1, j1, e1, i2, j2, e2, i3, j3, e3, i4, e4, rfl⟩ := forms hc
          simp only [mv] at hc hi ho hg ⊢
          have SIT2 := hide (Sit.event SIT.out U3.out.1 hi ho hc hg)
          have RO2 := hide (Rec.ints RO.out.1 RO.out.2 op_int hi)
          replace RY := hide (And.intro (Rec.ints RY.out.1 RY.out.2 mach_int hi) (RY.out.2.ints mach_int hi))
          clear hc hi ho hg
          have hHeld2 : Rec u3.heap.size [.slice (some ⟨f1, g1, none⟩) ra.length h1, .int .i64 pa, .slice (some ⟨f2, g2, none⟩) ma.length h2, .int .i64 sa, .bool la, .bool wa, .int .i64 ha1, .slice (some ⟨f3, g3, none⟩) ia.length h3, .slice (some ⟨f4, 0, none⟩) oa.length h4, .int .i64 ca] d2 ∧ Rec wr.heap.size [.int .i64 4, .int .i64 x_, .int .i64 y_, .int .i64 k_, .int .i64 t_] d2 ∧ Rec w.heap.size [.int .i64 bp, .int .i64 ln, .slice (some ⟨B, off, none⟩) ops.length cap, .int .i64 en, .int .i64 bx, .int .i64 by_, .int .i64 bk] d2 ∧ Row d2 g (.slice (some ⟨g, 0, none⟩) k cp) vs := ⟨SIT2.out.x.1, RO2.out, SIT2.out.b.1, by have := SIT2.out.row; rw [VL.out] at this; exact this⟩
          refine hK _ _ (fun _ => hHeld2) ?_
          clear hK K hHeld SIT RO RO2
          try simp only [Act.put, List.setIfInBounds_toArray, List.set]
          refine PhaseIn.takeD (i := 12) (v := ?_) [12, 13, 14, 15, 17, 18, 19] 87 rfl (by rfl) (by kernel_rfl) (by kernel_rfl) (by kernel_rfl) (by kernel_rfl) (by kernel_rfl) (fun _ _ _ h => h) (Or.inl ⟨by kernel_rfl, ?_⟩) hHeld2 ?_
          rotate_left
          · intro w' hSw
            (try dsimp only at hSw)
            go_simp
            first | done | with_reducible rfl
          try simp only [Act.put, List.setIfInBounds_toArray, List.set]
          refine PhaseIn.takeD (i := 13) (v := ?_) [13, 17, 18, 19] 100 rfl (by rfl) (by kernel_rfl) (by kernel_rfl) (by kernel_rfl) (by kernel_rfl) (by kernel_rfl) (fun _ _ _ h => h) (Or.inl ⟨by kernel_rfl, ?_⟩) hHeld2 ?_
          rotate_left
          · intro w' hSw
            (try dsimp only at hSw)
            go_simp
            first | done | with_reducible rfl
          try simp only [Act.put, List.setIfInBounds_toArray, List.set]
          refine PhaseIn.takeD (i := 14) (v := ?_) [14, 18, 19] 101 rfl (by rfl) (by kernel_rfl) (by kernel_rfl) (by kernel_rfl) (by kernel_rfl) (by kernel_rfl) (fun _ _ _ h => h) (Or.inl ⟨by kernel_rfl, ?_⟩) hHeld2 ?_
          rotate_left
          · intro w' hSw
            (try dsimp only at hSw)
            go_simp
            first | done | with_reducible rfl
          try simp only [Act.put, List.setIfInBounds_toArray, List.set]
          refine PhaseIn.takeD (i := 15) (v := ?_) [15, 19] 102 rfl (by rfl) (by kernel_rfl) (by kernel_rfl) (by kernel_rfl) (by kernel_rfl) (by kernel_rfl) (fun _ _ _ h => h) (Or.inl ⟨by kernel_rfl, ?_⟩) hHeld2 ?_
          rotate_left
          · intro w' hSw
            (try dsimp only at hSw)
            go_simp
            first | done | with_reducible rfl
          try simp only [Act.put, List.setIfInBounds_toArray, List.set]
          have z0 := RY.out.1.cell 0 _ rfl
          have s0 := RY.out.1.soft 0
          have z1 := RY.out.1.cell 1 _ rfl
          have s1 := RY.out.1.soft 1
          have z2 := RY.out.1.cell 2 _ rfl
          have s2 := RY.out.1.soft 2
          have z3 := RY.out.1.cell 3 _ rfl
          have s3 := RY.out.1.soft 3
          have z4 := RY.out.1.cell 4 _ rfl
          have s4 := RY.out.1.soft 4
          have z5 := RY.out.1.cell 5 _ rfl
          have s5 := RY.out.1.soft 5
          have z6 := RY.out.1.cell 6 _ rfl
          have s6 := RY.out.1.soft 6
          have z7 := RY.out.1.cell 7 _ rfl
          have s7 := RY.out.1.soft 7
          have z8 := RY.out.1.cell 8 _ rfl
          have s8 := RY.out.1.soft 8
          have z9 := RY.out.1.cell 9 _ rfl
          have s9 := RY.out.1.soft 9
          refine PhaseIn.one (i := 17) (by kernel_rfl) rfl (by kernel_rfl) (fun K hK => ?_)
          unfold Oper.wpIn
          refine ⟨fun _ _ => trivial, ?_⟩
          go_simp
          have SIT3 := hide (Sit.box SIT2.out (turn_ten Y d2 (.slice (some ⟨i1, j1, none⟩) mm.regs.length e1) (.int .i64 mm.pc) (.slice (some ⟨i2, j2, none⟩) mm.mem.length e2) (.int .i64 mm.save) (.bool mm.lets) (.bool mm.waits) (.int .i64 mm.halt) (.slice (some ⟨i3, j3, none⟩) mm.ins.length e3) (.slice (some ⟨i4, 0, none⟩) mm.outs.length e4) (.int .i64 mm.count)) RY.out.2 XY.out.1 XY.out.2.1)
          have hHeld3 : Rec u3.heap.size [.slice (some ⟨f1, g1, none⟩) ra.length h1, .int .i64 pa, .slice (some ⟨f2, g2, none⟩) ma.length h2, .int .i64 sa, .bool la, .bool wa, .int .i64 ha1, .slice (some ⟨f3, g3, none⟩) ia.length h3, .slice (some ⟨f4, 0, none⟩) oa.length h4, .int .i64 ca] ((((((((((d2.setCell ⟨Y, 0, none⟩ (.slice (some ⟨i1, j1, none⟩) mm.regs.length e1)).setCell ⟨Y, 1, none⟩ (.int .i64 mm.pc)).setCell ⟨Y, 2, none⟩ (.slice (some ⟨i2, j2, none⟩) mm.mem.length e2)).setCell ⟨Y, 3, none⟩ (.int .i64 mm.save)).setCell ⟨Y, 4, none⟩ (.bool mm.lets)).setCell ⟨Y, 5, none⟩ (.bool mm.waits)).setCell ⟨Y, 6, none⟩ (.int .i64 mm.halt)).setCell ⟨Y, 7, none⟩ (.slice (some ⟨i3, j3, none⟩) mm.ins.length e3)).setCell ⟨Y, 8, none⟩ (.slice (some ⟨i4, 0, none⟩) mm.outs.length e4)).setCell ⟨Y, 9, none⟩ (.int .i64 mm.count)) ∧ Rec wr.heap.size [.int .i64 4, .int .i64 x_, .int .i64 y_, .int .i64 k_, .int .i64 t_] ((((((((((d2.setCell ⟨Y, 0, none⟩ (.slice (some ⟨i1, j1, none⟩) mm.regs.length e1)).setCell ⟨Y, 1, none⟩ (.int .i64 mm.pc)).setCell ⟨Y, 2, none⟩ (.slice (some ⟨i2, j2, none⟩) mm.mem.length e2)).setCell ⟨Y, 3, none⟩ (.int .i64 mm.save)).setCell ⟨Y, 4, none⟩ (.bool mm.lets)).setCell ⟨Y, 5, none⟩ (.bool mm.waits)).setCell ⟨Y, 6, none⟩ (.int .i64 mm.halt)).setCell ⟨Y, 7, none⟩ (.slice (some ⟨i3, j3, none⟩) mm.ins.length e3)).setCell ⟨Y, 8, none⟩ (.slice (some ⟨i4, 0, none⟩) mm.outs.length e4)).setCell ⟨Y, 9, none⟩ (.int .i64 mm.count)) ∧ Rec w.heap.size [.int .i64 bp, .int .i64 ln, .slice (some ⟨B, off, none⟩) ops.length cap, .int .i64 en, .int .i64 bx, .int .i64 by_, .int .i64 bk] ((((((((((d2.setCell ⟨Y, 0, none⟩ (.slice (some ⟨i1, j1, none⟩) mm.regs.length e1)).setCell ⟨Y, 1, none⟩ (.int .i64 mm.pc)).setCell ⟨Y, 2, none⟩ (.slice (some ⟨i2, j2, none⟩) mm.mem.length e2)).setCell ⟨Y, 3, none⟩ (.int .i64 mm.save)).setCell ⟨Y, 4, none⟩ (.bool mm.lets)).setCell ⟨Y, 5, none⟩ (.bool mm.waits)).setCell ⟨Y, 6, none⟩ (.int .i64 mm.halt)).setCell ⟨Y, 7, none⟩ (.slice (some ⟨i3, j3, none⟩) mm.ins.length e3)).setCell ⟨Y, 8, none⟩ (.slice (some ⟨i4, 0, none⟩) mm.outs.length e4)).setCell ⟨Y, 9, none⟩ (.int .i64 mm.count)) ∧ Row ((((((((((d2.setCell ⟨Y, 0, none⟩ (.slice (some ⟨i1, j1, none⟩) mm.regs.length e1)).setCell ⟨Y, 1, none⟩ (.int .i64 mm.pc)).setCell ⟨Y, 2, none⟩ (.slice (some ⟨i2, j2, none⟩) mm.mem.length e2)).setCell ⟨Y, 3, none⟩ (.int .i64 mm.save)).setCell ⟨Y, 4, none⟩ (.bool mm.lets)).setCell ⟨Y, 5, none⟩ (.bool mm.waits)).setCell ⟨Y, 6, none⟩ (.int .i64 mm.halt)).setCell ⟨Y, 7, none⟩ (.slice (some ⟨i3, j3, none⟩) mm.ins.length e3)).setCell ⟨Y, 8, none⟩ (.slice (some ⟨i4, 0, none⟩) mm.outs.length e4)).setCell ⟨Y, 9, none⟩ (.int .i64 mm.count)) g (.slice (some ⟨g, 0, none⟩) k cp) vs := ⟨SIT3.out.x.1, hHeld2.2.1.turn (turn_ten Y d2 (.slice (some ⟨i1, j1, none⟩) mm.regs.length e1) (.int .i64 mm.pc) (.slice (some ⟨i2, j2, none⟩) mm.mem.length e2) (.int .i64 mm.save) (.bool mm.lets) (.bool mm.waits) (.int .i64 mm.halt) (.slice (some ⟨i3, j3, none⟩) mm.ins.length e3) (.slice (some ⟨i4, 0, none⟩) mm.outs.length e4) (.int .i64 mm.count)) XY.out.2.2, SIT3.out.b.1, by have := SIT3.out.row; rw [VL.out] at this; exact this⟩
          refine hK _ _ (fun _ => hHeld3) ?_
          clear hK K hHeld2 z0 s0 z1 s1 z2 s2 z3 s3 z4 s4 z5 s5 z6 s6 z7 s7 z8 s8 z9 s9
          try simp only [Act.put, List.setIfInBounds_toArray, List.set]
          replace RY := hide (And.intro (rec_ten RY.out.1 (.slice (some ⟨i1, j1, none⟩) mm.regs.length e1) (.int .i64 mm.pc) (.slice (some ⟨i2, j2, none⟩) mm.mem.length e2) (.int .i64 mm.save) (.bool mm.lets) (.bool mm.waits) (.int .i64 mm.halt) (.slice (some ⟨i3, j3, none⟩) mm.ins.length e3) (.slice (some ⟨i4, 0, none⟩) mm.outs.length e4) (.int .i64 mm.count)) (type_ten (Z := Y) RY.out.2 (.slice (some ⟨i1, j1, none⟩) mm.regs.length e1) (.int .i64 mm.pc) (.slice (some ⟨i2, j2, none⟩) mm.mem.length e2) (.int .i64 mm.save) (.bool mm.lets) (.bool mm.waits) (.int .i64 mm.halt) (.slice (some ⟨i3, j3, none⟩) mm.ins.length e3) (.slice (some ⟨i4, 0, none⟩) mm.outs.length e4) (.int .i64 mm.count)))
          clear SIT2
          generalize ((((((((((d2.setCell ⟨Y, 0, none⟩ (.slice (some ⟨i1, j1, none⟩) mm.regs.length e1)).setCell ⟨Y, 1, none⟩ (.int .i64 mm.pc)).setCell ⟨Y, 2, none⟩ (.slice (some ⟨i2, j2, none⟩) mm.mem.length e2)).setCell ⟨Y, 3, none⟩ (.int .i64 mm.save)).setCell ⟨Y, 4, none⟩ (.bool mm.lets)).setCell ⟨Y, 5, none⟩ (.bool mm.waits)).setCell ⟨Y, 6, none⟩ (.int .i64 mm.halt)).setCell ⟨Y, 7, none⟩ (.slice (some ⟨i3, j3, none⟩) mm.ins.length e3)).setCell ⟨Y, 8, none⟩ (.slice (some ⟨i4, 0, none⟩) mm.outs.length e4)).setCell ⟨Y, 9, none⟩ (.int .i64 mm.count)) = d3 at SIT3 RY hHeld3 ⊢
          refine PhaseIn.takeD (i := 18) (v := ?_) [18, 19] 12 rfl (by rfl) (by kernel_rfl) (by kernel_rfl) (by kernel_rfl) (by kernel_rfl) (by kernel_rfl) (fun _ _ _ h => h) (Or.inl ⟨by kernel_rfl, ?_⟩) hHeld3 ?_
          rotate_left
          · intro w' hSw
            (try dsimp only at hSw)
            go_simp
            first | done | with_reducible rfl
          try simp only [Act.put, List.setIfInBounds_toArray, List.set]
          refine PhaseIn.late (i := 19) (v := ?_) (by kernel_rfl) rfl 13 (by rfl) (by omega) (Or.inl ⟨by kernel_rfl, ?_⟩) ?_
          rotate_left
          · intro w' hSw
            go_simp
            first | done | with_reducible rfl
          try simp only [Act.put, List.setIfInBounds_toArray, List.set]
          refine PhaseIn.done (by kernel_rfl) ?_ _
          clear hHeld3
          have y0 := RY.out.1.cell 0 _ rfl
          have y1 := RY.out.1.cell 1 _ rfl
          have y2 := RY.out.1.cell 2 _ rfl
          have y3 := RY.out.1.cell 3 _ rfl
          have y4 := RY.out.1.cell 4 _ rfl
          have y5 := RY.out.1.cell 5 _ rfl
          have y6 := RY.out.1.cell 6 _ rfl
          have y7 := RY.out.1.cell 7 _ rfl
          have y8 := RY.out.1.cell 8 _ rfl
          have y9 := RY.out.1.cell 9 _ rfl
          cases lf with
          | true =>
            have RD : Hid (R = mm) := show _ = _ by
              rw [RS.out]
              simp only [runM]
              rw [NW.out]
              rfl
            have ZB : Hid (Box (w.heap.size + 1 + 1) 30 [.slice none 0 0, .int .i64 0, .slice none 0 0, .int .i64 0, .bool false, .bool false, .int .i64 0, .slice none 0 0, .slice none 0 0, .int .i64 0] d3) := ⟨SIT3.out.z.1, SIT3.out.z.2⟩
            have ZN : Hid (w.heap.size + 1 + 1 ∉ mb [.slice (some ⟨i1, j1, none⟩) mm.regs.length e1, .int .i64 mm.pc, .slice (some ⟨i2, j2, none⟩) mm.mem.length e2, .int .i64 mm.save, .bool mm.lets, .bool mm.waits, .int .i64 mm.halt, .slice (some ⟨i3, j3, none⟩) mm.ins.length e3, .slice (some ⟨i4, 0, none⟩) mm.outs.length e4, .int .i64 mm.count]) := fun e => (SIT3.out.z.2.ne (SIT3.out.mach.mb_int _ e) mach_int) rfl
            go_wp2_with (refine wpList_lay rfl rfl _ _ rfl (w.heap.size + 1 + 1) _ _ _ _ _ _ _ _ _ _ ZB.out rfl _ _ _ _ _ _ _ _ _ _ _ _ _ _ _ _ _ _ rfl ?_; intro u9 RB TB; refine Hid.out ?_)
            have HC9 := hide ((SIT3.out.mach.turnI TB.out ZN.out).lowI U3.out.1)
            have BW9 := hide (SIT3.out.bw.trans (TB.out.below (by omega) (Nat.le_of_lt SIT3.out.b.2.lt)))
            have z0 := RB.out.r.cell 0 _ rfl
            have z1 := RB.out.r.cell 1 _ rfl
            have z2 := RB.out.r.cell 2 _ rfl
            have z3 := RB.out.r.cell 3 _ rfl
            have z4 := RB.out.r.cell 4 _ rfl
            have z5 := RB.out.r.cell 5 _ rfl
            have z6 := RB.out.r.cell 6 _ rfl
            have z7 := RB.out.r.cell 7 _ rfl
            have z8 := RB.out.r.cell 8 _ rfl
            have z9 := RB.out.r.cell 9 _ rfl
            clear RB TB SIT3 ZB ZN RY RS IV IN NW IN2 OFF y0 y1 y2 y3 y4 y5 y6 y7 y8 y9 T7 XY G1 OL XW ER EVE VL
            refine hide ?_
            iterate 11 go_step
            exact bodyPost_ret (v := .tuple #[.agg #[.slice (some ⟨i1, j1, none⟩) mm.regs.length e1, .int .i64 mm.pc, .slice (some ⟨i2, j2, none⟩) mm.mem.length e2, .int .i64 mm.save, .bool mm.lets, .bool mm.waits, .int .i64 mm.halt, .slice (some ⟨i3, j3, none⟩) mm.ins.length e3, .slice (some ⟨i4, 0, none⟩) mm.outs.length e4, .int .i64 mm.count], .bool kk]) (by rw [EQ.out]; simp [results, Tryz.results6, go_sem, z0, z1, z2, z3, z4, z5, z6, z7, z8, z9]) rfl ⟨IR.out [.slice (some ⟨i1, j1, none⟩) mm.regs.length e1, .int .i64 mm.pc, .slice (some ⟨i2, j2, none⟩) mm.mem.length e2, .int .i64 mm.save, .bool mm.lets, .bool mm.waits, .int .i64 mm.halt, .slice (some ⟨i3, j3, none⟩) mm.ins.length e3, .slice (some ⟨i4, 0, none⟩) mm.outs.length e4, .int .i64 mm.count] _ (fun e => by rw [BOTH.out] at e; cases e) (fun _ => by rw [RD.out]; exact HC9.out), BW9.out⟩
          | false =>
            have RS2 : Hid (R = runM ⟨bp, ln, ops, en, bx, by_, bk⟩ (ops.drop (k + 1)) mm (vs ++ [nw])) := show _ = _ by
              rw [RS.out]
              simp only [runM]
              rw [NW.out]
              rfl
            have IV2 : Hid (Inv mm (vs ++ [nw]) ∧ mm.outs.length ≤ 2000000 + k + 1 ∧ mm.count = count) := ⟨IN2.out.1, by have h8 : oa.length ≤ 2000000 + k := IV.out.2.1; have h9 := IN2.out.2.1; omega, (IN2.out.2.2 rfl).trans IV.out.2.2⟩
            have XB : Hid (Box u3.heap.size 30 [.slice (some ⟨f1, g1, none⟩) ra.length h1, .int .i64 pa, .slice (some ⟨f2, g2, none⟩) ma.length h2, .int .i64 sa, .bool la, .bool wa, .int .i64 ha1, .slice (some ⟨f3, g3, none⟩) ia.length h3, .slice (some ⟨f4, 0, none⟩) oa.length h4, .int .i64 ca] d3) := ⟨SIT3.out.x.1, SIT3.out.x.2⟩
            clear RS IV IN NW IN2 OFF
            go_wp2_with (refine wpList_lay rfl rfl _ _ rfl (u3.heap.size) _ _ _ _ _ _ _ _ _ _ XB.out rfl _ _ _ _ _ _ _ _ _ _ _ _ _ _ _ _ _ _ rfl ?_; intro u9 RB TB; refine Hid.out ?_)
            have SIT4 := hide (Sit.self SIT3.out TB.out NX.out RB.out.r RB.out.t)
            have OV := hide SIT4.out.own
            have HC := hide SIT4.out.mach
            have GN := hide SIT4.out.gn
            have RX := hide SIT4.out.x
            have RB := hide SIT4.out.b
            have RZ := hide SIT4.out.z
            have BW := hide SIT4.out.bw
            have LU := hide SIT4.out.lu
            clear SIT3 SIT4 TB XB RY y0 y1 y2 y3 y4 y5 y6 y7 y8 y9
            refine hide ?_
            have bo := alloc_below u9 (.cells #[.int .i64 nw] 3)
            have VT2 := hide OV.out.isT
            have OW := hide (OV.out.turn (Turn.of_below (B := u9.heap.size) bo) (Nat.ne_of_lt VT2.out.lt) VT2.out.lt)
            have CN : Hid ((u9.alloc (.cells #[.int .i64 nw] 3)).cell? ((⟨u9.heap.size, 0, none⟩ : Addr).add 0) = some (.int .i64 nw)) := show _ = _ by
              rw [Go.WideShapes.add_plain]
              have h9 := World.cell?_alloc_new u9 #[.int .i64 nw] 3 0
              first | exact h9 | simpa using h9
            have LO : Hid (u2.heap.size ≤ (u9.alloc (.cells #[.int .i64 nw] 3)).heap.size) := Nat.le_trans LU.out bo.size
            have VLE : vs.length ≤ 1000000000000 := by rw [VL.out]; omega
            go_wp2_with (at_builtin; refine wpList_push rfl _ _ rfl u2.heap.size g cp vs (by rw [VL.out]; rfl) OW.out LO.out _ nw rfl CN.out VLE ?_; intro g9 c9 u9 ho9 hor9 hlt9 ht9; refine Hid.out ?_)
            have X9 : Hid (u3.heap.size ≠ g ∧ w.heap.size ≠ g ∧ w.heap.size + 1 + 1 ≠ g) := ⟨RX.out.2.ne VT2.out mach_int, RB.out.2.ne VT2.out block_int, RZ.out.2.ne VT2.out mach_int⟩
            have GN9 : Hid (g9 ∉ mb [.slice (some ⟨i1, j1, none⟩) mm.regs.length e1, .int .i64 mm.pc, .slice (some ⟨i2, j2, none⟩) mm.mem.length e2, .int .i64 mm.save, .bool mm.lets, .bool mm.waits, .int .i64 mm.halt, .slice (some ⟨i3, j3, none⟩) mm.ins.length e3, .slice (some ⟨i4, 0, none⟩) mm.outs.length e4, .int .i64 mm.count]) := fun hg => by
              rcases hor9 with e | e
              · exact GN.out (by rw [← e]; exact hg)
              · exact absurd (Nat.lt_of_lt_of_le (HC.out.mb_lt g9 hg).2 bo.size) (Nat.not_lt.2 e)
            have LG : Hid (u2.heap.size ≤ g) := show _ ≤ _ by
              obtain ⟨g', cp', ev, hl, _, _⟩ := OV.out.form (by simp)
              cases ev
              exact hl
            replace HC := hide ((HC.out.below bo).turnI ht9 GN.out)
            replace RX := hide (And.intro ((RX.out.1.below bo).turn ht9 X9.out.1) ((RX.out.2.below bo).turn ht9 X9.out.1))
            replace RB := hide (And.intro ((RB.out.1.below bo).turn ht9 X9.out.2.1) ((RB.out.2.below bo).turn ht9 X9.out.2.1))
            replace RZ := hide (And.intro ((RZ.out.1.below bo).turn ht9 X9.out.2.2) ((RZ.out.2.below bo).turn ht9 X9.out.2.2))
            replace BW := hide ((BW.out.trans (bo.mono BW.out.size)).trans (ht9.below (Nat.le_trans U3.out.1 LG.out) (Nat.le_trans BW.out.size bo.size)))
            replace LU := hide (Nat.le_trans (Nat.le_trans LU.out bo.size) ht9.size)
            have OV9 := hide ho9
            have VL9 : Hid ((vs ++ [nw]).length = k + 1) := show _ = _ by rw [List.length_append, VL.out]; rfl
            clear bo VT2 OW CN LO ho9 hor9 hlt9 ht9 GN OV X9 LG
            refine hide ?_
            go_wp2
            exact ⟨⟨k + 1, g9, c9, vs ++ [nw], [.slice (some ⟨i1, j1, none⟩) mm.regs.length e1, .int .i64 mm.pc, .slice (some ⟨i2, j2, none⟩) mm.mem.length e2, .int .i64 mm.save, .bool mm.lets, .bool mm.waits, .int .i64 mm.halt, .slice (some ⟨i3, j3, none⟩) mm.ins.length e3, .slice (some ⟨i4, 0, none⟩) mm.outs.length e4, .int .i64 mm.count], mm, by omega, by go_num, by rw [VL.out], VL9, OV9, HC, GN9, RX, RB, RZ, BW, RS2, IV2, LU⟩, by simp [intOf]; omega⟩

      · obtain ⟨mm, nw, lf, er⟩ : ∃ mm nw lf, evM ⟨bp, ln, ops, en, bx, by_, bk⟩ ⟨ra, pa, ma, sa, la, wa, ha1, ia, oa, ca⟩ ⟨5, x_, y_, k_, t_⟩ (atI vs x_) (atI vs y_) = (mm, nw, lf) := ⟨_, _, _, rfl⟩
        have NW : Hid (stepM ⟨bp, ln, ops, en, bx, by_, bk⟩ ⟨ra, pa, ma, sa, la, wa, ha1, ia, oa, ca⟩ vs ⟨5, x_, y_, k_, t_⟩ = (mm, nw, lf)) := show _ = _ by
          rw [← er]
          rfl
        have IN2 := hide (show Inv mm (vs ++ [nw]) ∧ mm.outs.length ≤ oa.length + 1 ∧ (lf = false → mm.count = ca) by have h9 := IN.out; rw [NW.out] at h9; exact h9)
        have G1 : Hid (Go1 ⟨ra, pa, ma, sa, la, wa, ha1, ia, oa, ca⟩ ⟨bp, ln, ops, en, bx, by_, bk⟩) := ⟨IV.out.1.regs, IV.out.1.mem, by have h8 : ca = count := IV.out.2.2; show 0 ≤ ca; omega, by have h8 : ca = count := IV.out.2.2; show ca ≤ 1000000; omega, p0, p64, (show (0 : Int) ≤ ln by omega), l8⟩
        have OL : Hid (oa.length ≤ 1000000000) := show _ ≤ _ by have h8 : oa.length ≤ 2000000 + k := IV.out.2.1; omega
        have XW := hide (at_w IV.out.1.vw x_).1
        have ER := hide er
        clear er
        go_wp2_with fail
        refine (wpIn_wide (n := 0)).1 ?_
        generalize (wr.alloc (.cells #[.int .i64 5, .int .i64 x_, .int .i64 y_, .int .i64 k_, .int .i64 t_] 49)) = d0 at RX RB RZ RO OV HC BW LU ⊢
        have bA : Below d0.heap.size d0 d0.drew := (Below.refl _ _).drew
        have SIT := hide (Sit.below (show Sit w d0 w.heap.size u3.heap.size u2.heap.size g cp [.int .i64 bp, .int .i64 ln, .slice (some ⟨B, off, none⟩) ops.length cap, .int .i64 en, .int .i64 bx, .int .i64 by_, .int .i64 bk] [.slice none 0 0, .int .i64 0, .slice none 0 0, .int .i64 0, .bool false, .bool false, .int .i64 0, .slice none 0 0, .slice none 0 0, .int .i64 0] [.slice (some ⟨f1, g1, none⟩) ra.length h1, .int .i64 pa, .slice (some ⟨f2, g2, none⟩) ma.length h2, .int .i64 sa, .bool la, .bool wa, .int .i64 ha1, .slice (some ⟨f3, g3, none⟩) ia.length h3, .slice (some ⟨f4, 0, none⟩) oa.length h4, .int .i64 ca] [.slice (some ⟨f1, g1, none⟩) ra.length h1, .int .i64 pa, .slice (some ⟨f2, g2, none⟩) ma.length h2, .int .i64 sa, .bool la, .bool wa, .int .i64 ha1, .slice (some ⟨f3, g3, none⟩) ia.length h3, .slice (some ⟨f4, 0, none⟩) oa.length h4, .int .i64 ca] ⟨ra, pa, ma, sa, la, wa, ha1, ia, oa, ca⟩ vs from ⟨OV.out, HC.out, GN.out, RX.out, RB.out, RZ.out, BW.out, LU.out⟩) bA)
        replace RO := hide (And.intro (RO.out.1.below bA) (RO.out.2.below bA))
        clear bA OV HC GN RX RB RZ BW LU
        refine PhaseIn.region (S := fun D => Rec u3.heap.size [.slice (some ⟨f1, g1, none⟩) ra.length h1, .int .i64 pa, .slice (some ⟨f2, g2, none⟩) ma.length h2, .int .i64 sa, .bool la, .bool wa, .int .i64 ha1, .slice (some ⟨f3, g3, none⟩) ia.length h3, .slice (some ⟨f4, 0, none⟩) oa.length h4, .int .i64 ca] D ∧ Rec wr.heap.size [.int .i64 5, .int .i64 x_, .int .i64 y_, .int .i64 k_, .int .i64 t_] D ∧ Rec w.heap.size [.int .i64 bp, .int .i64 ln, .slice (some ⟨B, off, none⟩) ops.length cap, .int .i64 en, .int .i64 bx, .int .i64 by_, .int .i64 bk] D ∧ Row D g (.slice (some ⟨g, 0, none⟩) k cp) vs) 19 (by kernel_rfl) ?_
        generalize d0.drew = d1 at SIT RO ⊢
        have hHeld : Rec u3.heap.size [.slice (some ⟨f1, g1, none⟩) ra.length h1, .int .i64 pa, .slice (some ⟨f2, g2, none⟩) ma.length h2, .int .i64 sa, .bool la, .bool wa, .int .i64 ha1, .slice (some ⟨f3, g3, none⟩) ia.length h3, .slice (some ⟨f4, 0, none⟩) oa.length h4, .int .i64 ca] d1 ∧ Rec wr.heap.size [.int .i64 5, .int .i64 x_, .int .i64 y_, .int .i64 k_, .int .i64 t_] d1 ∧ Rec w.heap.size [.int .i64 bp, .int .i64 ln, .slice (some ⟨B, off, none⟩) ops.length cap, .int .i64 en, .int .i64 bx, .int .i64 by_, .int .i64 bk] d1 ∧ Row d1 g (.slice (some ⟨g, 0, none⟩) k cp) vs := ⟨SIT.out.x.1, RO.out.1, SIT.out.b.1, by have := SIT.out.row; rw [VL.out] at this; exact this⟩
        have x0 : (0 : Int) ≤ x_ := OFF.out.x.1
        have x1 : x_ ≤ 1000 := by have h9 : x_ ≤ 48 := OFF.out.x.2; omega
        have y0 : (0 : Int) ≤ y_ := OFF.out.y.1
        have y1 : y_ ≤ 1000 := by have h9 : y_ ≤ 48 := OFF.out.y.2; omega
        have T7 : Hid ((0 : Int) ≤ t_ ∧ t_ ≤ 7) := OFF.out.t
        have EV := l6Event ⟨ra, pa, ma, sa, la, wa, ha1, ia, oa, ca⟩ ⟨bp, ln, ops, en, bx, by_, bk⟩ (some ⟨B, off, none⟩) ops.length cap ⟨5, x_, y_, k_, t_⟩ (atI vs x_) (atI vs y_) u2.heap.size [.slice (some ⟨f1, g1, none⟩) ra.length h1, .int .i64 pa, .slice (some ⟨f2, g2, none⟩) ma.length h2, .int .i64 sa, .bool la, .bool wa, .int .i64 ha1, .slice (some ⟨f3, g3, none⟩) ia.length h3, .slice (some ⟨f4, 0, none⟩) oa.length h4, .int .i64 ca]
        rw [ER.out] at EV
        have EVE := hide EV
        clear EV
        refine PhaseIn.takeD (i := 0) (v := ?_) [0, 11, 12, 13, 14, 15, 17, 18, 19] 88 rfl (by rfl) (by kernel_rfl) (by kernel_rfl) (by kernel_rfl) (by kernel_rfl) (by kernel_rfl) (fun _ _ _ h => h) (Or.inl ⟨by kernel_rfl, ?_⟩) hHeld ?_
        rotate_left
        · intro w' hSw
          (try dsimp only at hSw)
          have z0 := hSw.1.cell 0 _ rfl; have z1 := hSw.1.cell 1 _ rfl; have z2 := hSw.1.cell 2 _ rfl; have z3 := hSw.1.cell 3 _ rfl; have z4 := hSw.1.cell 4 _ rfl; have z5 := hSw.1.cell 5 _ rfl; have z6 := hSw.1.cell 6 _ rfl; have z7 := hSw.1.cell 7 _ rfl; have z8 := hSw.1.cell 8 _ rfl; have z9 := hSw.1.cell 9 _ rfl
          go_simp
          first | done | with_reducible rfl
        try simp only [Act.put, List.setIfInBounds_toArray, List.set]
        refine PhaseIn.takeD (i := 1) (v := ?_) [1, 11, 12, 13, 14, 15, 17, 18, 19] 89 rfl (by rfl) (by kernel_rfl) (by kernel_rfl) (by kernel_rfl) (by kernel_rfl) (by kernel_rfl) (fun _ _ _ h => h) (Or.inl ⟨by kernel_rfl, ?_⟩) hHeld ?_
        rotate_left
        · intro w' hSw
          (try dsimp only at hSw)
          have z0 := hSw.2.2.1.cell 0 _ rfl; have z1 := hSw.2.2.1.cell 1 _ rfl; have z2 := hSw.2.2.1.cell 2 _ rfl; have z3 := hSw.2.2.1.cell 3 _ rfl; have z4 := hSw.2.2.1.cell 4 _ rfl; have z5 := hSw.2.2.1.cell 5 _ rfl; have z6 := hSw.2.2.1.cell 6 _ rfl
          go_simp
          first | done | with_reducible rfl
        try simp only [Act.put, List.setIfInBounds_toArray, List.set]
        refine PhaseIn.takeD (i := 2) (v := ?_) [2, 11, 12, 13, 14, 15, 17, 18, 19] 90 rfl (by rfl) (by kernel_rfl) (by kernel_rfl) (by kernel_rfl) (by kernel_rfl) (by kernel_rfl) (fun _ _ _ h => h) (Or.inl ⟨by kernel_rfl, ?_⟩) hHeld ?_
        rotate_left
        · intro w' hSw
          (try dsimp only at hSw)
          have z0 := hSw.2.1.cell 0 _ rfl; have z1 := hSw.2.1.cell 1 _ rfl; have z2 := hSw.2.1.cell 2 _ rfl; have z3 := hSw.2.1.cell 3 _ rfl; have z4 := hSw.2.1.cell 4 _ rfl
          go_simp
          first | done | with_reducible rfl
        try simp only [Act.put, List.setIfInBounds_toArray, List.set]
        refine PhaseIn.takeD (i := 3) (v := ?_) [3, 6, 10, 11, 12, 13, 14, 15, 17, 18, 19] 91 rfl (by rfl) (by kernel_rfl) (by kernel_rfl) (by kernel_rfl) (by kernel_rfl) (by kernel_rfl) (fun _ _ _ h => h) (Or.inl ⟨by kernel_rfl, ?_⟩) hHeld ?_
        rotate_left
        · intro w' hSw
          (try dsimp only at hSw)
          go_simp
          first | done | with_reducible rfl
        try simp only [Act.put, List.setIfInBounds_toArray, List.set]
        refine PhaseIn.takeD (i := 4) (v := ?_) [4, 5, 6, 10, 11, 12, 13, 14, 15, 17, 18, 19] 92 rfl (by rfl) (by kernel_rfl) (by kernel_rfl) (by kernel_rfl) (by kernel_rfl) (by kernel_rfl) (fun _ _ _ h => h) (Or.inl ⟨by kernel_rfl, ?_⟩) hHeld ?_
        rotate_left
        · intro w' hSw
          (try dsimp only at hSw)
          go_simp
          first | done | with_reducible rfl
        try simp only [Act.put, List.setIfInBounds_toArray, List.set]
        refine PhaseIn.takeD (i := 5) (v := ?_) [5, 6, 10, 11, 12, 13, 14, 15, 17, 18, 19] 93 rfl (by rfl) (by kernel_rfl) (by kernel_rfl) (by kernel_rfl) (by kernel_rfl) (by kernel_rfl) (fun _ _ _ h => h) (Or.inl ⟨by kernel_rfl, ?_⟩) hHeld ?_
        rotate_left
        · intro w' hSw
          (try dsimp only at hSw)
          have z1 := hSw.2.1.cell 1 _ rfl
          go_simp
          first | done | with_reducible rfl
        try simp only [Act.put, List.setIfInBounds_toArray, List.set]
        refine PhaseIn.takeC (i := 6) (v := .int .i64 (atI vs x_)) [6, 10, 11, 12, 13, 14, 15, 17, 18, 19] 94 21 #[.slice (some ⟨g, 0, none⟩) k cp, .int .i64 x_] rfl (by rfl) (by kernel_rfl) (by kernel_rfl) (by kernel_rfl) (by kernel_rfl) (by kernel_rfl) (fun _ _ _ h => h) (by kernel_rfl) ?_ (fun w' hSw => l5At vs x_ x0 x1 _ _ _ hSw.2.2.2) hHeld ?_
        · intro w' hSw
          go_simp
          first | done | with_reducible rfl
        try simp only [Act.put, List.setIfInBounds_toArray, List.set]
        refine PhaseIn.takeD (i := 7) (v := ?_) [7, 10, 11, 12, 13, 14, 15, 17, 18, 19] 95 rfl (by rfl) (by kernel_rfl) (by kernel_rfl) (by kernel_rfl) (by kernel_rfl) (by kernel_rfl) (fun _ _ _ h => h) (Or.inl ⟨by kernel_rfl, ?_⟩) hHeld ?_
        rotate_left
        · intro w' hSw
          (try dsimp only at hSw)
          go_simp
          first | done | with_reducible rfl
        try simp only [Act.put, List.setIfInBounds_toArray, List.set]
        refine PhaseIn.takeD (i := 8) (v := ?_) [8, 9, 10, 11, 12, 13, 14, 15, 17, 18, 19] 96 rfl (by rfl) (by kernel_rfl) (by kernel_rfl) (by kernel_rfl) (by kernel_rfl) (by kernel_rfl) (fun _ _ _ h => h) (Or.inl ⟨by kernel_rfl, ?_⟩) hHeld ?_
        rotate_left
        · intro w' hSw
          (try dsimp only at hSw)
          go_simp
          first | done | with_reducible rfl
        try simp only [Act.put, List.setIfInBounds_toArray, List.set]
        refine PhaseIn.takeD (i := 9) (v := ?_) [9, 10, 11, 12, 13, 14, 15, 17, 18, 19] 97 rfl (by rfl) (by kernel_rfl) (by kernel_rfl) (by kernel_rfl) (by kernel_rfl) (by kernel_rfl) (fun _ _ _ h => h) (Or.inl ⟨by kernel_rfl, ?_⟩) hHeld ?_
        rotate_left
        · intro w' hSw
          (try dsimp only at hSw)
          have z2 := hSw.2.1.cell 2 _ rfl
          go_simp
          first | done | with_reducible rfl
        try simp only [Act.put, List.setIfInBounds_toArray, List.set]
        refine PhaseIn.takeC (i := 10) (v := .int .i64 (atI vs y_)) [10, 11, 12, 13, 14, 15, 17, 18, 19] 98 21 #[.slice (some ⟨g, 0, none⟩) k cp, .int .i64 y_] rfl (by rfl) (by kernel_rfl) (by kernel_rfl) (by kernel_rfl) (by kernel_rfl) (by kernel_rfl) (fun _ _ _ h => h) (by kernel_rfl) ?_ (fun w' hSw => l5At vs y_ y0 y1 _ _ _ hSw.2.2.2) hHeld ?_
        · intro w' hSw
          go_simp
          first | done | with_reducible rfl
        try simp only [Act.put, List.setIfInBounds_toArray, List.set]
        refine PhaseIn.two (i := 11) (j := 16) (by kernel_rfl) rfl rfl (by kernel_rfl) (by kernel_rfl) (fun K hK => ?_) (fun K hK => ?_)
        · unfold Oper.wpIn
          refine ⟨fun _ _ => trivial, ?_⟩
          go_simp
          refine ⟨rfl, (callsIn_wide.2 (EVE.out _ SIT.out.mach G1.out OL.out (show (4 : Int) ≤ 5 ∧ (5 : Int) ≤ 7 by omega) XW.out T7.out.1 T7.out.2)).mono ?_⟩
          rintro e dd ⟨c', rfl, hc, hi, ho, hg⟩
          obtain ⟨i1, j1, e1, i2, j2, e2, i3, j3, e3, i4, e4, rfl⟩ := forms hc
          simp only [mv] at hc hi ho hg ⊢
          have SIT2 := hide (Sit.event SIT.out U3.out.1 hi ho hc hg)
          have RO2 := hide (Rec.ints RO.out.1 RO.out.2 op_int hi)
          clear hc hi ho hg
          have hHeld2 : Rec u3.heap.size [.slice (some ⟨f1, g1, none⟩) ra.length h1, .int .i64 pa, .slice (some ⟨f2, g2, none⟩) ma.length h2, .int .i64 sa, .bool la, .bool wa, .int .i64 ha1, .slice (some ⟨f3, g3, none⟩) ia.length h3, .slice (some ⟨f4, 0, none⟩) oa.length h4, .int .i64 ca] dd ∧ Rec wr.heap.size [.int .i64 5, .int .i64 x_, .int .i64 y_, .int .i64 k_, .int .i64 t_] dd ∧ Rec w.heap.size [.int .i64 bp, .int .i64 ln, .slice (some ⟨B, off, none⟩) ops.length cap, .int .i64 en, .int .i64 bx, .int .i64 by_, .int .i64 bk] dd ∧ Row dd g (.slice (some ⟨g, 0, none⟩) k cp) vs := ⟨SIT2.out.x.1, RO2.out, SIT2.out.b.1, by have := SIT2.out.row; rw [VL.out] at this; exact this⟩
          refine hK _ _ (fun _ => hHeld2) ?_
          clear hK K hHeld SIT RO
          try simp only [Act.put, List.setIfInBounds_toArray, List.set]
          refine PhaseIn.takeD (i := 12) (v := ?_) [12, 13, 14, 15, 17, 18, 19] 87 rfl (by rfl) (by kernel_rfl) (by kernel_rfl) (by kernel_rfl) (by kernel_rfl) (by kernel_rfl) (fun _ _ _ h => h) (Or.inl ⟨by kernel_rfl, ?_⟩) hHeld2 ?_
          rotate_left
          · intro w' hSw
            (try dsimp only at hSw)
            go_simp
            first | done | with_reducible rfl
          try simp only [Act.put, List.setIfInBounds_toArray, List.set]
          refine PhaseIn.takeD (i := 13) (v := ?_) [13, 17, 18, 19] 100 rfl (by rfl) (by kernel_rfl) (by kernel_rfl) (by kernel_rfl) (by kernel_rfl) (by kernel_rfl) (fun _ _ _ h => h) (Or.inl ⟨by kernel_rfl, ?_⟩) hHeld2 ?_
          rotate_left
          · intro w' hSw
            (try dsimp only at hSw)
            go_simp
            first | done | with_reducible rfl
          try simp only [Act.put, List.setIfInBounds_toArray, List.set]
          refine PhaseIn.takeD (i := 14) (v := ?_) [14, 18, 19] 101 rfl (by rfl) (by kernel_rfl) (by kernel_rfl) (by kernel_rfl) (by kernel_rfl) (by kernel_rfl) (fun _ _ _ h => h) (Or.inl ⟨by kernel_rfl, ?_⟩) hHeld2 ?_
          rotate_left
          · intro w' hSw
            (try dsimp only at hSw)
            go_simp
            first | done | with_reducible rfl
          try simp only [Act.put, List.setIfInBounds_toArray, List.set]
          refine PhaseIn.takeD (i := 15) (v := ?_) [15, 19] 102 rfl (by rfl) (by kernel_rfl) (by kernel_rfl) (by kernel_rfl) (by kernel_rfl) (by kernel_rfl) (fun _ _ _ h => h) (Or.inl ⟨by kernel_rfl, ?_⟩) hHeld2 ?_
          rotate_left
          · intro w' hSw
            (try dsimp only at hSw)
            go_simp
            first | done | with_reducible rfl
          try simp only [Act.put, List.setIfInBounds_toArray, List.set]
          refine PhaseIn.one (i := 16) (by kernel_rfl) rfl (by kernel_rfl) (fun K hK => ?_)
          unfold Oper.wpIn
          refine ⟨fun _ _ => trivial, ?_⟩
          go_simp
          have bY := alloc_below dd (.cells #[.slice none 0 0, .int .i64 0, .slice none 0 0, .int .i64 0, .bool false, .bool false, .int .i64 0, .slice none 0 0, .slice none 0 0, .int .i64 0] 30)
          have RY := hide (And.intro (Rec.new dd [.slice none 0 0, .int .i64 0, .slice none 0 0, .int .i64 0, .bool false, .bool false, .int .i64 0, .slice none 0 0, .slice none 0 0, .int .i64 0] 30) (IsT.new dd #[.slice none 0 0, .int .i64 0, .slice none 0 0, .int .i64 0, .bool false, .bool false, .int .i64 0, .slice none 0 0, .slice none 0 0, .int .i64 0] 30))
          have XY : Hid (u3.heap.size ≠ dd.heap.size ∧ w.heap.size + 1 + 1 < dd.heap.size ∧ wr.heap.size ≠ dd.heap.size) := ⟨Nat.ne_of_lt SIT2.out.x.1.lt, SIT2.out.z.1.lt, Nat.ne_of_lt RO2.out.lt⟩
          replace SIT2 := hide (Sit.below SIT2.out bY)
          replace RO2 := hide (RO2.out.below bY)
          clear bY hHeld2
          have hHeld2 : Rec u3.heap.size [.slice (some ⟨f1, g1, none⟩) ra.length h1, .int .i64 pa, .slice (some ⟨f2, g2, none⟩) ma.length h2, .int .i64 sa, .bool la, .bool wa, .int .i64 ha1, .slice (some ⟨f3, g3, none⟩) ia.length h3, .slice (some ⟨f4, 0, none⟩) oa.length h4, .int .i64 ca] (dd.alloc (.cells #[.slice none 0 0, .int .i64 0, .slice none 0 0, .int .i64 0, .bool false, .bool false, .int .i64 0, .slice none 0 0, .slice none 0 0, .int .i64 0] 30)) ∧ Rec wr.heap.size [.int .i64 5, .int .i64 x_, .int .i64 y_, .int .i64 k_, .int .i64 t_] (dd.alloc (.cells #[.slice none 0 0, .int .i64 0, .slice none 0 0, .int .i64 0, .bool false, .bool false, .int .i64 0, .slice none 0 0, .slice none 0 0, .int .i64 0] 30)) ∧ Rec w.heap.size [.int .i64 bp, .int .i64 ln, .slice (some ⟨B, off, none⟩) ops.length cap, .int .i64 en, .int .i64 bx, .int .i64 by_, .int .i64 bk] (dd.alloc (.cells #[.slice none 0 0, .int .i64 0, .slice none 0 0, .int .i64 0, .bool false, .bool false, .int .i64 0, .slice none 0 0, .slice none 0 0, .int .i64 0] 30)) ∧ Row (dd.alloc (.cells #[.slice none 0 0, .int .i64 0, .slice none 0 0, .int .i64 0, .bool false, .bool false, .int .i64 0, .slice none 0 0, .slice none 0 0, .int .i64 0] 30)) g (.slice (some ⟨g, 0, none⟩) k cp) vs := ⟨SIT2.out.x.1, RO2.out, SIT2.out.b.1, by have := SIT2.out.row; rw [VL.out] at this; exact this⟩
          refine hK _ _ (fun _ => hHeld2) ?_
          clear hK K RO2
          try simp only [Act.put, List.setIfInBounds_toArray, List.set]
          generalize dd.alloc (.cells #[.slice none 0 0, .int .i64 0, .slice none 0 0, .int .i64 0, .bool false, .bool false, .int .i64 0, .slice none 0 0, .slice none 0 0, .int .i64 0] 30) = d2 at SIT2 RY hHeld2 ⊢
          generalize dd.heap.size = Y at RY XY ⊢
          have z0 := RY.out.1.cell 0 _ rfl
          have s0 := RY.out.1.soft 0
          have z1 := RY.out.1.cell 1 _ rfl
          have s1 := RY.out.1.soft 1
          have z2 := RY.out.1.cell 2 _ rfl
          have s2 := RY.out.1.soft 2
          have z3 := RY.out.1.cell 3 _ rfl
          have s3 := RY.out.1.soft 3
          have z4 := RY.out.1.cell 4 _ rfl
          have s4 := RY.out.1.soft 4
          have z5 := RY.out.1.cell 5 _ rfl
          have s5 := RY.out.1.soft 5
          have z6 := RY.out.1.cell 6 _ rfl
          have s6 := RY.out.1.soft 6
          have z7 := RY.out.1.cell 7 _ rfl
          have s7 := RY.out.1.soft 7
          have z8 := RY.out.1.cell 8 _ rfl
          have s8 := RY.out.1.soft 8
          have z9 := RY.out.1.cell 9 _ rfl
          have s9 := RY.out.1.soft 9
          refine PhaseIn.one (i := 17) (by kernel_rfl) rfl (by kernel_rfl) (fun K hK => ?_)
          unfold Oper.wpIn
          refine ⟨fun _ _ => trivial, ?_⟩
          go_simp
          have SIT3 := hide (Sit.box SIT2.out (turn_ten Y d2 (.slice (some ⟨i1, j1, none⟩) mm.regs.length e1) (.int .i64 mm.pc) (.slice (some ⟨i2, j2, none⟩) mm.mem.length e2) (.int .i64 mm.save) (.bool mm.lets) (.bool mm.waits) (.int .i64 mm.halt) (.slice (some ⟨i3, j3, none⟩) mm.ins.length e3) (.slice (some ⟨i4, 0, none⟩) mm.outs.length e4) (.int .i64 mm.count)) RY.out.2 XY.out.1 XY.out.2.1)
          have hHeld3 : Rec u3.heap.size [.slice (some ⟨f1, g1, none⟩) ra.length h1, .int .i64 pa, .slice (some ⟨f2, g2, none⟩) ma.length h2, .int .i64 sa, .bool la, .bool wa, .int .i64 ha1, .slice (some ⟨f3, g3, none⟩) ia.length h3, .slice (some ⟨f4, 0, none⟩) oa.length h4, .int .i64 ca] ((((((((((d2.setCell ⟨Y, 0, none⟩ (.slice (some ⟨i1, j1, none⟩) mm.regs.length e1)).setCell ⟨Y, 1, none⟩ (.int .i64 mm.pc)).setCell ⟨Y, 2, none⟩ (.slice (some ⟨i2, j2, none⟩) mm.mem.length e2)).setCell ⟨Y, 3, none⟩ (.int .i64 mm.save)).setCell ⟨Y, 4, none⟩ (.bool mm.lets)).setCell ⟨Y, 5, none⟩ (.bool mm.waits)).setCell ⟨Y, 6, none⟩ (.int .i64 mm.halt)).setCell ⟨Y, 7, none⟩ (.slice (some ⟨i3, j3, none⟩) mm.ins.length e3)).setCell ⟨Y, 8, none⟩ (.slice (some ⟨i4, 0, none⟩) mm.outs.length e4)).setCell ⟨Y, 9, none⟩ (.int .i64 mm.count)) ∧ Rec wr.heap.size [.int .i64 5, .int .i64 x_, .int .i64 y_, .int .i64 k_, .int .i64 t_] ((((((((((d2.setCell ⟨Y, 0, none⟩ (.slice (some ⟨i1, j1, none⟩) mm.regs.length e1)).setCell ⟨Y, 1, none⟩ (.int .i64 mm.pc)).setCell ⟨Y, 2, none⟩ (.slice (some ⟨i2, j2, none⟩) mm.mem.length e2)).setCell ⟨Y, 3, none⟩ (.int .i64 mm.save)).setCell ⟨Y, 4, none⟩ (.bool mm.lets)).setCell ⟨Y, 5, none⟩ (.bool mm.waits)).setCell ⟨Y, 6, none⟩ (.int .i64 mm.halt)).setCell ⟨Y, 7, none⟩ (.slice (some ⟨i3, j3, none⟩) mm.ins.length e3)).setCell ⟨Y, 8, none⟩ (.slice (some ⟨i4, 0, none⟩) mm.outs.length e4)).setCell ⟨Y, 9, none⟩ (.int .i64 mm.count)) ∧ Rec w.heap.size [.int .i64 bp, .int .i64 ln, .slice (some ⟨B, off, none⟩) ops.length cap, .int .i64 en, .int .i64 bx, .int .i64 by_, .int .i64 bk] ((((((((((d2.setCell ⟨Y, 0, none⟩ (.slice (some ⟨i1, j1, none⟩) mm.regs.length e1)).setCell ⟨Y, 1, none⟩ (.int .i64 mm.pc)).setCell ⟨Y, 2, none⟩ (.slice (some ⟨i2, j2, none⟩) mm.mem.length e2)).setCell ⟨Y, 3, none⟩ (.int .i64 mm.save)).setCell ⟨Y, 4, none⟩ (.bool mm.lets)).setCell ⟨Y, 5, none⟩ (.bool mm.waits)).setCell ⟨Y, 6, none⟩ (.int .i64 mm.halt)).setCell ⟨Y, 7, none⟩ (.slice (some ⟨i3, j3, none⟩) mm.ins.length e3)).setCell ⟨Y, 8, none⟩ (.slice (some ⟨i4, 0, none⟩) mm.outs.length e4)).setCell ⟨Y, 9, none⟩ (.int .i64 mm.count)) ∧ Row ((((((((((d2.setCell ⟨Y, 0, none⟩ (.slice (some ⟨i1, j1, none⟩) mm.regs.length e1)).setCell ⟨Y, 1, none⟩ (.int .i64 mm.pc)).setCell ⟨Y, 2, none⟩ (.slice (some ⟨i2, j2, none⟩) mm.mem.length e2)).setCell ⟨Y, 3, none⟩ (.int .i64 mm.save)).setCell ⟨Y, 4, none⟩ (.bool mm.lets)).setCell ⟨Y, 5, none⟩ (.bool mm.waits)).setCell ⟨Y, 6, none⟩ (.int .i64 mm.halt)).setCell ⟨Y, 7, none⟩ (.slice (some ⟨i3, j3, none⟩) mm.ins.length e3)).setCell ⟨Y, 8, none⟩ (.slice (some ⟨i4, 0, none⟩) mm.outs.length e4)).setCell ⟨Y, 9, none⟩ (.int .i64 mm.count)) g (.slice (some ⟨g, 0, none⟩) k cp) vs := ⟨SIT3.out.x.1, hHeld2.2.1.turn (turn_ten Y d2 (.slice (some ⟨i1, j1, none⟩) mm.regs.length e1) (.int .i64 mm.pc) (.slice (some ⟨i2, j2, none⟩) mm.mem.length e2) (.int .i64 mm.save) (.bool mm.lets) (.bool mm.waits) (.int .i64 mm.halt) (.slice (some ⟨i3, j3, none⟩) mm.ins.length e3) (.slice (some ⟨i4, 0, none⟩) mm.outs.length e4) (.int .i64 mm.count)) XY.out.2.2, SIT3.out.b.1, by have := SIT3.out.row; rw [VL.out] at this; exact this⟩
          refine hK _ _ (fun _ => hHeld3) ?_
          clear hK K hHeld2 z0 s0 z1 s1 z2 s2 z3 s3 z4 s4 z5 s5 z6 s6 z7 s7 z8 s8 z9 s9
          try simp only [Act.put, List.setIfInBounds_toArray, List.set]
          replace RY := hide (And.intro (rec_ten RY.out.1 (.slice (some ⟨i1, j1, none⟩) mm.regs.length e1) (.int .i64 mm.pc) (.slice (some ⟨i2, j2, none⟩) mm.mem.length e2) (.int .i64 mm.save) (.bool mm.lets) (.bool mm.waits) (.int .i64 mm.halt) (.slice (some ⟨i3, j3, none⟩) mm.ins.length e3) (.slice (some ⟨i4, 0, none⟩) mm.outs.length e4) (.int .i64 mm.count)) (type_ten (Z := Y) RY.out.2 (.slice (some ⟨i1, j1, none⟩) mm.regs.length e1) (.int .i64 mm.pc) (.slice (some ⟨i2, j2, none⟩) mm.mem.length e2) (.int .i64 mm.save) (.bool mm.lets) (.bool mm.waits) (.int .i64 mm.halt) (.slice (some ⟨i3, j3, none⟩) mm.ins.length e3) (.slice (some ⟨i4, 0, none⟩) mm.outs.length e4) (.int .i64 mm.count)))
          clear SIT2
          generalize ((((((((((d2.setCell ⟨Y, 0, none⟩ (.slice (some ⟨i1, j1, none⟩) mm.regs.length e1)).setCell ⟨Y, 1, none⟩ (.int .i64 mm.pc)).setCell ⟨Y, 2, none⟩ (.slice (some ⟨i2, j2, none⟩) mm.mem.length e2)).setCell ⟨Y, 3, none⟩ (.int .i64 mm.save)).setCell ⟨Y, 4, none⟩ (.bool mm.lets)).setCell ⟨Y, 5, none⟩ (.bool mm.waits)).setCell ⟨Y, 6, none⟩ (.int .i64 mm.halt)).setCell ⟨Y, 7, none⟩ (.slice (some ⟨i3, j3, none⟩) mm.ins.length e3)).setCell ⟨Y, 8, none⟩ (.slice (some ⟨i4, 0, none⟩) mm.outs.length e4)).setCell ⟨Y, 9, none⟩ (.int .i64 mm.count)) = d3 at SIT3 RY hHeld3 ⊢
          refine PhaseIn.takeD (i := 18) (v := ?_) [18, 19] 12 rfl (by rfl) (by kernel_rfl) (by kernel_rfl) (by kernel_rfl) (by kernel_rfl) (by kernel_rfl) (fun _ _ _ h => h) (Or.inl ⟨by kernel_rfl, ?_⟩) hHeld3 ?_
          rotate_left
          · intro w' hSw
            (try dsimp only at hSw)
            go_simp
            first | done | with_reducible rfl
          try simp only [Act.put, List.setIfInBounds_toArray, List.set]
          refine PhaseIn.late (i := 19) (v := ?_) (by kernel_rfl) rfl 13 (by rfl) (by omega) (Or.inl ⟨by kernel_rfl, ?_⟩) ?_
          rotate_left
          · intro w' hSw
            go_simp
            first | done | with_reducible rfl
          try simp only [Act.put, List.setIfInBounds_toArray, List.set]
          refine PhaseIn.done (by kernel_rfl) ?_ _
          clear hHeld3
          have y0 := RY.out.1.cell 0 _ rfl
          have y1 := RY.out.1.cell 1 _ rfl
          have y2 := RY.out.1.cell 2 _ rfl
          have y3 := RY.out.1.cell 3 _ rfl
          have y4 := RY.out.1.cell 4 _ rfl
          have y5 := RY.out.1.cell 5 _ rfl
          have y6 := RY.out.1.cell 6 _ rfl
          have y7 := RY.out.1.cell 7 _ rfl
          have y8 := RY.out.1.cell 8 _ rfl
          have y9 := RY.out.1.cell 9 _ rfl
          cases lf with
          | true =>
            have RD : Hid (R = mm) := show _ = _ by
              rw [RS.out]
              simp only [runM]
              rw [NW.out]
              rfl
            have ZB : Hid (Box (w.heap.size + 1 + 1) 30 [.slice none 0 0, .int .i64 0, .slice none 0 0, .int .i64 0, .bool false, .bool false, .int .i64 0, .slice none 0 0, .slice none 0 0, .int .i64 0] d3) := ⟨SIT3.out.z.1, SIT3.out.z.2⟩
            have ZN : Hid (w.heap.size + 1 + 1 ∉ mb [.slice (some ⟨i1, j1, none⟩) mm.regs.length e1, .int .i64 mm.pc, .slice (some ⟨i2, j2, none⟩) mm.mem.length e2, .int .i64 mm.save, .bool mm.lets, .bool mm.waits, .int .i64 mm.halt, .slice (some ⟨i3, j3, none⟩) mm.ins.length e3, .slice (some ⟨i4, 0, none⟩) mm.outs.length e4, .int .i64 mm.count]) := fun e => (SIT3.out.z.2.ne (SIT3.out.mach.mb_int _ e) mach_int) rfl
            go_wp2_with (refine wpList_lay rfl rfl _ _ rfl (w.heap.size + 1 + 1) _ _ _ _ _ _ _ _ _ _ ZB.out rfl _ _ _ _ _ _ _ _ _ _ _ _ _ _ _ _ _ _ rfl ?_; intro u9 RB TB; refine Hid.out ?_)
            have HC9 := hide ((SIT3.out.mach.turnI TB.out ZN.out).lowI U3.out.1)
            have BW9 := hide (SIT3.out.bw.trans (TB.out.below (by omega) (Nat.le_of_lt SIT3.out.b.2.lt)))
            have z0 := RB.out.r.cell 0 _ rfl
            have z1 := RB.out.r.cell 1 _ rfl
            have z2 := RB.out.r.cell 2 _ rfl
            have z3 := RB.out.r.cell 3 _ rfl
            have z4 := RB.out.r.cell 4 _ rfl
            have z5 := RB.out.r.cell 5 _ rfl
            have z6 := RB.out.r.cell 6 _ rfl
            have z7 := RB.out.r.cell 7 _ rfl
            have z8 := RB.out.r.cell 8 _ rfl
            have z9 := RB.out.r.cell 9 _ rfl
            clear RB TB SIT3 ZB ZN RY RS IV IN NW IN2 OFF y0 y1 y2 y3 y4 y5 y6 y7 y8 y9 T7 XY G1 OL XW ER EVE VL
            refine hide ?_
            iterate 11 go_step
            exact bodyPost_ret (v := .tuple #[.agg #[.slice (some ⟨i1, j1, none⟩) mm.regs.length e1, .int .i64 mm.pc, .slice (some ⟨i2, j2, none⟩) mm.mem.length e2, .int .i64 mm.save, .bool mm.lets, .bool mm.waits, .int .i64 mm.halt, .slice (some ⟨i3, j3, none⟩) mm.ins.length e3, .slice (some ⟨i4, 0, none⟩) mm.outs.length e4, .int .i64 mm.count], .bool kk]) (by rw [EQ.out]; simp [results, Tryz.results6, go_sem, z0, z1, z2, z3, z4, z5, z6, z7, z8, z9]) rfl ⟨IR.out [.slice (some ⟨i1, j1, none⟩) mm.regs.length e1, .int .i64 mm.pc, .slice (some ⟨i2, j2, none⟩) mm.mem.length e2, .int .i64 mm.save, .bool mm.lets, .bool mm.waits, .int .i64 mm.halt, .slice (some ⟨i3, j3, none⟩) mm.ins.length e3, .slice (some ⟨i4, 0, none⟩) mm.outs.length e4, .int .i64 mm.count] _ (fun e => by rw [BOTH.out] at e; cases e) (fun _ => by rw [RD.out]; exact HC9.out), BW9.out⟩
          | false =>
            have RS2 : Hid (R = runM ⟨bp, ln, ops, en, bx, by_, bk⟩ (ops.drop (k + 1)) mm (vs ++ [nw])) := show _ = _ by
              rw [RS.out]
              simp only [runM]
              rw [NW.out]
              rfl
            have IV2 : Hid (Inv mm (vs ++ [nw]) ∧ mm.outs.length ≤ 2000000 + k + 1 ∧ mm.count = count) := ⟨IN2.out.1, by have h8 : oa.length ≤ 2000000 + k := IV.out.2.1; have h9 := IN2.out.2.1; omega, (IN2.out.2.2 rfl).trans IV.out.2.2⟩
            have XB : Hid (Box u3.heap.size 30 [.slice (some ⟨f1, g1, none⟩) ra.length h1, .int .i64 pa, .slice (some ⟨f2, g2, none⟩) ma.length h2, .int .i64 sa, .bool la, .bool wa, .int .i64 ha1, .slice (some ⟨f3, g3, none⟩) ia.length h3, .slice (some ⟨f4, 0, none⟩) oa.length h4, .int .i64 ca] d3) := ⟨SIT3.out.x.1, SIT3.out.x.2⟩
            clear RS IV IN NW IN2 OFF
            go_wp2_with (refine wpList_lay rfl rfl _ _ rfl (u3.heap.size) _ _ _ _ _ _ _ _ _ _ XB.out rfl _ _ _ _ _ _ _ _ _ _ _ _ _ _ _ _ _ _ rfl ?_; intro u9 RB TB; refine Hid.out ?_)
            have SIT4 := hide (Sit.self SIT3.out TB.out NX.out RB.out.r RB.out.t)
            have OV := hide SIT4.out.own
            have HC := hide SIT4.out.mach
            have GN := hide SIT4.out.gn
            have RX := hide SIT4.out.x
            have RB := hide SIT4.out.b
            have RZ := hide SIT4.out.z
            have BW := hide SIT4.out.bw
            have LU := hide SIT4.out.lu
            clear SIT3 SIT4 TB XB RY y0 y1 y2 y3 y4 y5 y6 y7 y8 y9
            refine hide ?_
            have bo := alloc_below u9 (.cells #[.int .i64 nw] 3)
            have VT2 := hide OV.out.isT
            have OW := hide (OV.out.turn (Turn.of_below (B := u9.heap.size) bo) (Nat.ne_of_lt VT2.out.lt) VT2.out.lt)
            have CN : Hid ((u9.alloc (.cells #[.int .i64 nw] 3)).cell? ((⟨u9.heap.size, 0, none⟩ : Addr).add 0) = some (.int .i64 nw)) := show _ = _ by
              rw [Go.WideShapes.add_plain]
              have h9 := World.cell?_alloc_new u9 #[.int .i64 nw] 3 0
              first | exact h9 | simpa using h9
            have LO : Hid (u2.heap.size ≤ (u9.alloc (.cells #[.int .i64 nw] 3)).heap.size) := Nat.le_trans LU.out bo.size
            have VLE : vs.length ≤ 1000000000000 := by rw [VL.out]; omega
            go_wp2_with (at_builtin; refine wpList_push rfl _ _ rfl u2.heap.size g cp vs (by rw [VL.out]; rfl) OW.out LO.out _ nw rfl CN.out VLE ?_; intro g9 c9 u9 ho9 hor9 hlt9 ht9; refine Hid.out ?_)
            have X9 : Hid (u3.heap.size ≠ g ∧ w.heap.size ≠ g ∧ w.heap.size + 1 + 1 ≠ g) := ⟨RX.out.2.ne VT2.out mach_int, RB.out.2.ne VT2.out block_int, RZ.out.2.ne VT2.out mach_int⟩
            have GN9 : Hid (g9 ∉ mb [.slice (some ⟨i1, j1, none⟩) mm.regs.length e1, .int .i64 mm.pc, .slice (some ⟨i2, j2, none⟩) mm.mem.length e2, .int .i64 mm.save, .bool mm.lets, .bool mm.waits, .int .i64 mm.halt, .slice (some ⟨i3, j3, none⟩) mm.ins.length e3, .slice (some ⟨i4, 0, none⟩) mm.outs.length e4, .int .i64 mm.count]) := fun hg => by
              rcases hor9 with e | e
              · exact GN.out (by rw [← e]; exact hg)
              · exact absurd (Nat.lt_of_lt_of_le (HC.out.mb_lt g9 hg).2 bo.size) (Nat.not_lt.2 e)
            have LG : Hid (u2.heap.size ≤ g) := show _ ≤ _ by
              obtain ⟨g', cp', ev, hl, _, _⟩ := OV.out.form (by simp)
              cases ev
              exact hl
            replace HC := hide ((HC.out.below bo).turnI ht9 GN.out)
            replace RX := hide (And.intro ((RX.out.1.below bo).turn ht9 X9.out.1) ((RX.out.2.below bo).turn ht9 X9.out.1))
            replace RB := hide (And.intro ((RB.out.1.below bo).turn ht9 X9.out.2.1) ((RB.out.2.below bo).turn ht9 X9.out.2.1))
            replace RZ := hide (And.intro ((RZ.out.1.below bo).turn ht9 X9.out.2.2) ((RZ.out.2.below bo).turn ht9 X9.out.2.2))
            replace BW := hide ((BW.out.trans (bo.mono BW.out.size)).trans (ht9.below (Nat.le_trans U3.out.1 LG.out) (Nat.le_trans BW.out.size bo.size)))
            replace LU := hide (Nat.le_trans (Nat.le_trans LU.out bo.size) ht9.size)
            have OV9 := hide ho9
            have VL9 : Hid ((vs ++ [nw]).length = k + 1) := show _ = _ by rw [List.length_append, VL.out]; rfl
            clear bo VT2 OW CN LO ho9 hor9 hlt9 ht9 GN OV X9 LG
            refine hide ?_
            go_wp2
            exact ⟨⟨k + 1, g9, c9, vs ++ [nw], [.slice (some ⟨i1, j1, none⟩) mm.regs.length e1, .int .i64 mm.pc, .slice (some ⟨i2, j2, none⟩) mm.mem.length e2, .int .i64 mm.save, .bool mm.lets, .bool mm.waits, .int .i64 mm.halt, .slice (some ⟨i3, j3, none⟩) mm.ins.length e3, .slice (some ⟨i4, 0, none⟩) mm.outs.length e4, .int .i64 mm.count], mm, by omega, by go_num, by rw [VL.out], VL9, OV9, HC, GN9, RX, RB, RZ, BW, RS2, IV2, LU⟩, by simp [intOf]; omega⟩

        · unfold Oper.wpIn
          refine ⟨fun _ _ => trivial, ?_⟩
          go_simp
          have bY := alloc_below d1 (.cells #[.slice none 0 0, .int .i64 0, .slice none 0 0, .int .i64 0, .bool false, .bool false, .int .i64 0, .slice none 0 0, .slice none 0 0, .int .i64 0] 30)
          have RY := hide (And.intro (Rec.new d1 [.slice none 0 0, .int .i64 0, .slice none 0 0, .int .i64 0, .bool false, .bool false, .int .i64 0, .slice none 0 0, .slice none 0 0, .int .i64 0] 30) (IsT.new d1 #[.slice none 0 0, .int .i64 0, .slice none 0 0, .int .i64 0, .bool false, .bool false, .int .i64 0, .slice none 0 0, .slice none 0 0, .int .i64 0] 30))
          have XY : Hid (u3.heap.size ≠ d1.heap.size ∧ w.heap.size + 1 + 1 < d1.heap.size ∧ wr.heap.size ≠ d1.heap.size) := ⟨Nat.ne_of_lt SIT.out.x.1.lt, SIT.out.z.1.lt, Nat.ne_of_lt RO.out.1.lt⟩
          replace SIT := hide (Sit.below SIT.out bY)
          replace RO := hide (And.intro (RO.out.1.below bY) (RO.out.2.below bY))
          clear bY hHeld
          have hHeld : Rec u3.heap.size [.slice (some ⟨f1, g1, none⟩) ra.length h1, .int .i64 pa, .slice (some ⟨f2, g2, none⟩) ma.length h2, .int .i64 sa, .bool la, .bool wa, .int .i64 ha1, .slice (some ⟨f3, g3, none⟩) ia.length h3, .slice (some ⟨f4, 0, none⟩) oa.length h4, .int .i64 ca] (d1.alloc (.cells #[.slice none 0 0, .int .i64 0, .slice none 0 0, .int .i64 0, .bool false, .bool false, .int .i64 0, .slice none 0 0, .slice none 0 0, .int .i64 0] 30)) ∧ Rec wr.heap.size [.int .i64 5, .int .i64 x_, .int .i64 y_, .int .i64 k_, .int .i64 t_] (d1.alloc (.cells #[.slice none 0 0, .int .i64 0, .slice none 0 0, .int .i64 0, .bool false, .bool false, .int .i64 0, .slice none 0 0, .slice none 0 0, .int .i64 0] 30)) ∧ Rec w.heap.size [.int .i64 bp, .int .i64 ln, .slice (some ⟨B, off, none⟩) ops.length cap, .int .i64 en, .int .i64 bx, .int .i64 by_, .int .i64 bk] (d1.alloc (.cells #[.slice none 0 0, .int .i64 0, .slice none 0 0, .int .i64 0, .bool false, .bool false, .int .i64 0, .slice none 0 0, .slice none 0 0, .int .i64 0] 30)) ∧ Row (d1.alloc (.cells #[.slice none 0 0, .int .i64 0, .slice none 0 0, .int .i64 0, .bool false, .bool false, .int .i64 0, .slice none 0 0, .slice none 0 0, .int .i64 0] 30)) g (.slice (some ⟨g, 0, none⟩) k cp) vs := ⟨SIT.out.x.1, RO.out.1, SIT.out.b.1, by have := SIT.out.row; rw [VL.out] at this; exact this⟩
          refine hK _ _ (fun _ => hHeld) ?_
          clear hK K
          try simp only [Act.put, List.setIfInBounds_toArray, List.set]
          generalize d1.alloc (.cells #[.slice none 0 0, .int .i64 0, .slice none 0 0, .int .i64 0, .bool false, .bool false, .int .i64 0, .slice none 0 0, .slice none 0 0, .int .i64 0] 30) = dd at SIT RY RO hHeld ⊢
          generalize d1.heap.size = Y at RY XY ⊢
          refine PhaseIn.one (i := 11) (by kernel_rfl) rfl (by kernel_rfl) (fun K hK => ?_)
          unfold Oper.wpIn
          refine ⟨fun _ _ => trivial, ?_⟩
          go_simp
          refine ⟨rfl, (callsIn_wide.2 (EVE.out _ SIT.out.mach G1.out OL.out (show (4 : Int) ≤ 5 ∧ (5 : Int) ≤ 7 by omega) XW.out T7.out.1 T7.out.2)).mono ?_⟩
          rintro e d2 ⟨c', rfl, hc, hi, ho, hg⟩
          obtain ⟨i1, j1, e1, i2, j2, e2, i3, j3, e3, i4, e4, rfl⟩ := forms hc
          simp only [mv] at hc hi ho hg ⊢
          have SIT2 := hide (Sit.event SIT.out U3.out.1 hi ho hc hg)
          have RO2 := hide (Rec.ints RO.out.1 RO.out.2 op_int hi)
          replace RY := hide (And.intro (Rec.ints RY.out.1 RY.out.2 mach_int hi) (RY.out.2.ints mach_int hi))
          clear hc hi ho hg
          have hHeld2 : Rec u3.heap.size [.slice (some ⟨f1, g1, none⟩) ra.length h1, .int .i64 pa, .slice (some ⟨f2, g2, none⟩) ma.length h2, .int .i64 sa, .bool la, .bool wa, .int .i64 ha1, .slice (some ⟨f3, g3, none⟩) ia.length h3, .slice (some ⟨f4, 0, none⟩) oa.length h4, .int .i64 ca] d2 ∧ Rec wr.heap.size [.int .i64 5, .int .i64 x_, .int .i64 y_, .int .i64 k_, .int .i64 t_] d2 ∧ Rec w.heap.size [.int .i64 bp, .int .i64 ln, .slice (some ⟨B, off, none⟩) ops.length cap, .int .i64 en, .int .i64 bx, .int .i64 by_, .int .i64 bk] d2 ∧ Row d2 g (.slice (some ⟨g, 0, none⟩) k cp) vs := ⟨SIT2.out.x.1, RO2.out, SIT2.out.b.1, by have := SIT2.out.row; rw [VL.out] at this; exact this⟩
          refine hK _ _ (fun _ => hHeld2) ?_
          clear hK K hHeld SIT RO RO2
          try simp only [Act.put, List.setIfInBounds_toArray, List.set]
          refine PhaseIn.takeD (i := 12) (v := ?_) [12, 13, 14, 15, 17, 18, 19] 87 rfl (by rfl) (by kernel_rfl) (by kernel_rfl) (by kernel_rfl) (by kernel_rfl) (by kernel_rfl) (fun _ _ _ h => h) (Or.inl ⟨by kernel_rfl, ?_⟩) hHeld2 ?_
          rotate_left
          · intro w' hSw
            (try dsimp only at hSw)
            go_simp
            first | done | with_reducible rfl
          try simp only [Act.put, List.setIfInBounds_toArray, List.set]
          refine PhaseIn.takeD (i := 13) (v := ?_) [13, 17, 18, 19] 100 rfl (by rfl) (by kernel_rfl) (by kernel_rfl) (by kernel_rfl) (by kernel_rfl) (by kernel_rfl) (fun _ _ _ h => h) (Or.inl ⟨by kernel_rfl, ?_⟩) hHeld2 ?_
          rotate_left
          · intro w' hSw
            (try dsimp only at hSw)
            go_simp
            first | done | with_reducible rfl
          try simp only [Act.put, List.setIfInBounds_toArray, List.set]
          refine PhaseIn.takeD (i := 14) (v := ?_) [14, 18, 19] 101 rfl (by rfl) (by kernel_rfl) (by kernel_rfl) (by kernel_rfl) (by kernel_rfl) (by kernel_rfl) (fun _ _ _ h => h) (Or.inl ⟨by kernel_rfl, ?_⟩) hHeld2 ?_
          rotate_left
          · intro w' hSw
            (try dsimp only at hSw)
            go_simp
            first | done | with_reducible rfl
          try simp only [Act.put, List.setIfInBounds_toArray, List.set]
          refine PhaseIn.takeD (i := 15) (v := ?_) [15, 19] 102 rfl (by rfl) (by kernel_rfl) (by kernel_rfl) (by kernel_rfl) (by kernel_rfl) (by kernel_rfl) (fun _ _ _ h => h) (Or.inl ⟨by kernel_rfl, ?_⟩) hHeld2 ?_
          rotate_left
          · intro w' hSw
            (try dsimp only at hSw)
            go_simp
            first | done | with_reducible rfl
          try simp only [Act.put, List.setIfInBounds_toArray, List.set]
          have z0 := RY.out.1.cell 0 _ rfl
          have s0 := RY.out.1.soft 0
          have z1 := RY.out.1.cell 1 _ rfl
          have s1 := RY.out.1.soft 1
          have z2 := RY.out.1.cell 2 _ rfl
          have s2 := RY.out.1.soft 2
          have z3 := RY.out.1.cell 3 _ rfl
          have s3 := RY.out.1.soft 3
          have z4 := RY.out.1.cell 4 _ rfl
          have s4 := RY.out.1.soft 4
          have z5 := RY.out.1.cell 5 _ rfl
          have s5 := RY.out.1.soft 5
          have z6 := RY.out.1.cell 6 _ rfl
          have s6 := RY.out.1.soft 6
          have z7 := RY.out.1.cell 7 _ rfl
          have s7 := RY.out.1.soft 7
          have z8 := RY.out.1.cell 8 _ rfl
          have s8 := RY.out.1.soft 8
          have z9 := RY.out.1.cell 9 _ rfl
          have s9 := RY.out.1.soft 9
          refine PhaseIn.one (i := 17) (by kernel_rfl) rfl (by kernel_rfl) (fun K hK => ?_)
          unfold Oper.wpIn
          refine ⟨fun _ _ => trivial, ?_⟩
          go_simp
          have SIT3 := hide (Sit.box SIT2.out (turn_ten Y d2 (.slice (some ⟨i1, j1, none⟩) mm.regs.length e1) (.int .i64 mm.pc) (.slice (some ⟨i2, j2, none⟩) mm.mem.length e2) (.int .i64 mm.save) (.bool mm.lets) (.bool mm.waits) (.int .i64 mm.halt) (.slice (some ⟨i3, j3, none⟩) mm.ins.length e3) (.slice (some ⟨i4, 0, none⟩) mm.outs.length e4) (.int .i64 mm.count)) RY.out.2 XY.out.1 XY.out.2.1)
          have hHeld3 : Rec u3.heap.size [.slice (some ⟨f1, g1, none⟩) ra.length h1, .int .i64 pa, .slice (some ⟨f2, g2, none⟩) ma.length h2, .int .i64 sa, .bool la, .bool wa, .int .i64 ha1, .slice (some ⟨f3, g3, none⟩) ia.length h3, .slice (some ⟨f4, 0, none⟩) oa.length h4, .int .i64 ca] ((((((((((d2.setCell ⟨Y, 0, none⟩ (.slice (some ⟨i1, j1, none⟩) mm.regs.length e1)).setCell ⟨Y, 1, none⟩ (.int .i64 mm.pc)).setCell ⟨Y, 2, none⟩ (.slice (some ⟨i2, j2, none⟩) mm.mem.length e2)).setCell ⟨Y, 3, none⟩ (.int .i64 mm.save)).setCell ⟨Y, 4, none⟩ (.bool mm.lets)).setCell ⟨Y, 5, none⟩ (.bool mm.waits)).setCell ⟨Y, 6, none⟩ (.int .i64 mm.halt)).setCell ⟨Y, 7, none⟩ (.slice (some ⟨i3, j3, none⟩) mm.ins.length e3)).setCell ⟨Y, 8, none⟩ (.slice (some ⟨i4, 0, none⟩) mm.outs.length e4)).setCell ⟨Y, 9, none⟩ (.int .i64 mm.count)) ∧ Rec wr.heap.size [.int .i64 5, .int .i64 x_, .int .i64 y_, .int .i64 k_, .int .i64 t_] ((((((((((d2.setCell ⟨Y, 0, none⟩ (.slice (some ⟨i1, j1, none⟩) mm.regs.length e1)).setCell ⟨Y, 1, none⟩ (.int .i64 mm.pc)).setCell ⟨Y, 2, none⟩ (.slice (some ⟨i2, j2, none⟩) mm.mem.length e2)).setCell ⟨Y, 3, none⟩ (.int .i64 mm.save)).setCell ⟨Y, 4, none⟩ (.bool mm.lets)).setCell ⟨Y, 5, none⟩ (.bool mm.waits)).setCell ⟨Y, 6, none⟩ (.int .i64 mm.halt)).setCell ⟨Y, 7, none⟩ (.slice (some ⟨i3, j3, none⟩) mm.ins.length e3)).setCell ⟨Y, 8, none⟩ (.slice (some ⟨i4, 0, none⟩) mm.outs.length e4)).setCell ⟨Y, 9, none⟩ (.int .i64 mm.count)) ∧ Rec w.heap.size [.int .i64 bp, .int .i64 ln, .slice (some ⟨B, off, none⟩) ops.length cap, .int .i64 en, .int .i64 bx, .int .i64 by_, .int .i64 bk] ((((((((((d2.setCell ⟨Y, 0, none⟩ (.slice (some ⟨i1, j1, none⟩) mm.regs.length e1)).setCell ⟨Y, 1, none⟩ (.int .i64 mm.pc)).setCell ⟨Y, 2, none⟩ (.slice (some ⟨i2, j2, none⟩) mm.mem.length e2)).setCell ⟨Y, 3, none⟩ (.int .i64 mm.save)).setCell ⟨Y, 4, none⟩ (.bool mm.lets)).setCell ⟨Y, 5, none⟩ (.bool mm.waits)).setCell ⟨Y, 6, none⟩ (.int .i64 mm.halt)).setCell ⟨Y, 7, none⟩ (.slice (some ⟨i3, j3, none⟩) mm.ins.length e3)).setCell ⟨Y, 8, none⟩ (.slice (some ⟨i4, 0, none⟩) mm.outs.length e4)).setCell ⟨Y, 9, none⟩ (.int .i64 mm.count)) ∧ Row ((((((((((d2.setCell ⟨Y, 0, none⟩ (.slice (some ⟨i1, j1, none⟩) mm.regs.length e1)).setCell ⟨Y, 1, none⟩ (.int .i64 mm.pc)).setCell ⟨Y, 2, none⟩ (.slice (some ⟨i2, j2, none⟩) mm.mem.length e2)).setCell ⟨Y, 3, none⟩ (.int .i64 mm.save)).setCell ⟨Y, 4, none⟩ (.bool mm.lets)).setCell ⟨Y, 5, none⟩ (.bool mm.waits)).setCell ⟨Y, 6, none⟩ (.int .i64 mm.halt)).setCell ⟨Y, 7, none⟩ (.slice (some ⟨i3, j3, none⟩) mm.ins.length e3)).setCell ⟨Y, 8, none⟩ (.slice (some ⟨i4, 0, none⟩) mm.outs.length e4)).setCell ⟨Y, 9, none⟩ (.int .i64 mm.count)) g (.slice (some ⟨g, 0, none⟩) k cp) vs := ⟨SIT3.out.x.1, hHeld2.2.1.turn (turn_ten Y d2 (.slice (some ⟨i1, j1, none⟩) mm.regs.length e1) (.int .i64 mm.pc) (.slice (some ⟨i2, j2, none⟩) mm.mem.length e2) (.int .i64 mm.save) (.bool mm.lets) (.bool mm.waits) (.int .i64 mm.halt) (.slice (some ⟨i3, j3, none⟩) mm.ins.length e3) (.slice (some ⟨i4, 0, none⟩) mm.outs.length e4) (.int .i64 mm.count)) XY.out.2.2, SIT3.out.b.1, by have := SIT3.out.row; rw [VL.out] at this; exact this⟩
          refine hK _ _ (fun _ => hHeld3) ?_
          clear hK K hHeld2 z0 s0 z1 s1 z2 s2 z3 s3 z4 s4 z5 s5 z6 s6 z7 s7 z8 s8 z9 s9
          try simp only [Act.put, List.setIfInBounds_toArray, List.set]
          replace RY := hide (And.intro (rec_ten RY.out.1 (.slice (some ⟨i1, j1, none⟩) mm.regs.length e1) (.int .i64 mm.pc) (.slice (some ⟨i2, j2, none⟩) mm.mem.length e2) (.int .i64 mm.save) (.bool mm.lets) (.bool mm.waits) (.int .i64 mm.halt) (.slice (some ⟨i3, j3, none⟩) mm.ins.length e3) (.slice (some ⟨i4, 0, none⟩) mm.outs.length e4) (.int .i64 mm.count)) (type_ten (Z := Y) RY.out.2 (.slice (some ⟨i1, j1, none⟩) mm.regs.length e1) (.int .i64 mm.pc) (.slice (some ⟨i2, j2, none⟩) mm.mem.length e2) (.int .i64 mm.save) (.bool mm.lets) (.bool mm.waits) (.int .i64 mm.halt) (.slice (some ⟨i3, j3, none⟩) mm.ins.length e3) (.slice (some ⟨i4, 0, none⟩) mm.outs.length e4) (.int .i64 mm.count)))
          clear SIT2
          generalize ((((((((((d2.setCell ⟨Y, 0, none⟩ (.slice (some ⟨i1, j1, none⟩) mm.regs.length e1)).setCell ⟨Y, 1, none⟩ (.int .i64 mm.pc)).setCell ⟨Y, 2, none⟩ (.slice (some ⟨i2, j2, none⟩) mm.mem.length e2)).setCell ⟨Y, 3, none⟩ (.int .i64 mm.save)).setCell ⟨Y, 4, none⟩ (.bool mm.lets)).setCell ⟨Y, 5, none⟩ (.bool mm.waits)).setCell ⟨Y, 6, none⟩ (.int .i64 mm.halt)).setCell ⟨Y, 7, none⟩ (.slice (some ⟨i3, j3, none⟩) mm.ins.length e3)).setCell ⟨Y, 8, none⟩ (.slice (some ⟨i4, 0, none⟩) mm.outs.length e4)).setCell ⟨Y, 9, none⟩ (.int .i64 mm.count)) = d3 at SIT3 RY hHeld3 ⊢
          refine PhaseIn.takeD (i := 18) (v := ?_) [18, 19] 12 rfl (by rfl) (by kernel_rfl) (by kernel_rfl) (by kernel_rfl) (by kernel_rfl) (by kernel_rfl) (fun _ _ _ h => h) (Or.inl ⟨by kernel_rfl, ?_⟩) hHeld3 ?_
          rotate_left
          · intro w' hSw
            (try dsimp only at hSw)
            go_simp
            first | done | with_reducible rfl
          try simp only [Act.put, List.setIfInBounds_toArray, List.set]
          refine PhaseIn.late (i := 19) (v := ?_) (by kernel_rfl) rfl 13 (by rfl) (by omega) (Or.inl ⟨by kernel_rfl, ?_⟩) ?_
          rotate_left
          · intro w' hSw
            go_simp
            first | done | with_reducible rfl
          try simp only [Act.put, List.setIfInBounds_toArray, List.set]
          refine PhaseIn.done (by kernel_rfl) ?_ _
          clear hHeld3
          have y0 := RY.out.1.cell 0 _ rfl
          have y1 := RY.out.1.cell 1 _ rfl
          have y2 := RY.out.1.cell 2 _ rfl
          have y3 := RY.out.1.cell 3 _ rfl
          have y4 := RY.out.1.cell 4 _ rfl
          have y5 := RY.out.1.cell 5 _ rfl
          have y6 := RY.out.1.cell 6 _ rfl
          have y7 := RY.out.1.cell 7 _ rfl
          have y8 := RY.out.1.cell 8 _ rfl
          have y9 := RY.out.1.cell 9 _ rfl
          cases lf with
          | true =>
            have RD : Hid (R = mm) := show _ = _ by
              rw [RS.out]
              simp only [runM]
              rw [NW.out]
              rfl
            have ZB : Hid (Box (w.heap.size + 1 + 1) 30 [.slice none 0 0, .int .i64 0, .slice none 0 0, .int .i64 0, .bool false, .bool false, .int .i64 0, .slice none 0 0, .slice none 0 0, .int .i64 0] d3) := ⟨SIT3.out.z.1, SIT3.out.z.2⟩
            have ZN : Hid (w.heap.size + 1 + 1 ∉ mb [.slice (some ⟨i1, j1, none⟩) mm.regs.length e1, .int .i64 mm.pc, .slice (some ⟨i2, j2, none⟩) mm.mem.length e2, .int .i64 mm.save, .bool mm.lets, .bool mm.waits, .int .i64 mm.halt, .slice (some ⟨i3, j3, none⟩) mm.ins.length e3, .slice (some ⟨i4, 0, none⟩) mm.outs.length e4, .int .i64 mm.count]) := fun e => (SIT3.out.z.2.ne (SIT3.out.mach.mb_int _ e) mach_int) rfl
            go_wp2_with (refine wpList_lay rfl rfl _ _ rfl (w.heap.size + 1 + 1) _ _ _ _ _ _ _ _ _ _ ZB.out rfl _ _ _ _ _ _ _ _ _ _ _ _ _ _ _ _ _ _ rfl ?_; intro u9 RB TB; refine Hid.out ?_)
            have HC9 := hide ((SIT3.out.mach.turnI TB.out ZN.out).lowI U3.out.1)
            have BW9 := hide (SIT3.out.bw.trans (TB.out.below (by omega) (Nat.le_of_lt SIT3.out.b.2.lt)))
            have z0 := RB.out.r.cell 0 _ rfl
            have z1 := RB.out.r.cell 1 _ rfl
            have z2 := RB.out.r.cell 2 _ rfl
            have z3 := RB.out.r.cell 3 _ rfl
            have z4 := RB.out.r.cell 4 _ rfl
            have z5 := RB.out.r.cell 5 _ rfl
            have z6 := RB.out.r.cell 6 _ rfl
            have z7 := RB.out.r.cell 7 _ rfl
            have z8 := RB.out.r.cell 8 _ rfl
            have z9 := RB.out.r.cell 9 _ rfl
            clear RB TB SIT3 ZB ZN RY RS IV IN NW IN2 OFF y0 y1 y2 y3 y4 y5 y6 y7 y8 y9 T7 XY G1 OL XW ER EVE VL
            refine hide ?_
            iterate 11 go_step
            exact bodyPost_ret (v := .tuple #[.agg #[.slice (some ⟨i1, j1, none⟩) mm.regs.length e1, .int .i64 mm.pc, .slice (some ⟨i2, j2, none⟩) mm.mem.length e2, .int .i64 mm.save, .bool mm.lets, .bool mm.waits, .int .i64 mm.halt, .slice (some ⟨i3, j3, none⟩) mm.ins.length e3, .slice (some ⟨i4, 0, none⟩) mm.outs.length e4, .int .i64 mm.count], .bool kk]) (by rw [EQ.out]; simp [results, Tryz.results6, go_sem, z0, z1, z2, z3, z4, z5, z6, z7, z8, z9]) rfl ⟨IR.out [.slice (some ⟨i1, j1, none⟩) mm.regs.length e1, .int .i64 mm.pc, .slice (some ⟨i2, j2, none⟩) mm.mem.length e2, .int .i64 mm.save, .bool mm.lets, .bool mm.waits, .int .i64 mm.halt, .slice (some ⟨i3, j3, none⟩) mm.ins.length e3, .slice (some ⟨i4, 0, none⟩) mm.outs.length e4, .int .i64 mm.count] _ (fun e => by rw [BOTH.out] at e; cases e) (fun _ => by rw [RD.out]; exact HC9.out), BW9.out⟩
          | false =>
            have RS2 : Hid (R = runM ⟨bp, ln, ops, en, bx, by_, bk⟩ (ops.drop (k + 1)) mm (vs ++ [nw])) := show _ = _ by
              rw [RS.out]
              simp only [runM]
              rw [NW.out]
              rfl
            have IV2 : Hid (Inv mm (vs ++ [nw]) ∧ mm.outs.length ≤ 2000000 + k + 1 ∧ mm.count = count) := ⟨IN2.out.1, by have h8 : oa.length ≤ 2000000 + k := IV.out.2.1; have h9 := IN2.out.2.1; omega, (IN2.out.2.2 rfl).trans IV.out.2.2⟩
            have XB : Hid (Box u3.heap.size 30 [.slice (some ⟨f1, g1, none⟩) ra.length h1, .int .i64 pa, .slice (some ⟨f2, g2, none⟩) ma.length h2, .int .i64 sa, .bool la, .bool wa, .int .i64 ha1, .slice (some ⟨f3, g3, none⟩) ia.length h3, .slice (some ⟨f4, 0, none⟩) oa.length h4, .int .i64 ca] d3) := ⟨SIT3.out.x.1, SIT3.out.x.2⟩
            clear RS IV IN NW IN2 OFF
            go_wp2_with (refine wpList_lay rfl rfl _ _ rfl (u3.heap.size) _ _ _ _ _ _ _ _ _ _ XB.out rfl _ _ _ _ _ _ _ _ _ _ _ _ _ _ _ _ _ _ rfl ?_; intro u9 RB TB; refine Hid.out ?_)
            have SIT4 := hide (Sit.self SIT3.out TB.out NX.out RB.out.r RB.out.t)
            have OV := hide SIT4.out.own
            have HC := hide SIT4.out.mach
            have GN := hide SIT4.out.gn
            have RX := hide SIT4.out.x
            have RB := hide SIT4.out.b
            have RZ := hide SIT4.out.z
            have BW := hide SIT4.out.bw
            have LU := hide SIT4.out.lu
            clear SIT3 SIT4 TB XB RY y0 y1 y2 y3 y4 y5 y6 y7 y8 y9
            refine hide ?_
            have bo := alloc_below u9 (.cells #[.int .i64 nw] 3)
            have VT2 := hide OV.out.isT
            have OW := hide (OV.out.turn (Turn.of_below (B := u9.heap.size) bo) (Nat.ne_of_lt VT2.out.lt) VT2.out.lt)
            have CN : Hid ((u9.alloc (.cells #[.int .i64 nw] 3)).cell? ((⟨u9.heap.size, 0, none⟩ : Addr).add 0) = some (.int .i64 nw)) := show _ = _ by
              rw [Go.WideShapes.add_plain]
              have h9 := World.cell?_alloc_new u9 #[.int .i64 nw] 3 0
              first | exact h9 | simpa using h9
            have LO : Hid (u2.heap.size ≤ (u9.alloc (.cells #[.int .i64 nw] 3)).heap.size) := Nat.le_trans LU.out bo.size
            have VLE : vs.length ≤ 1000000000000 := by rw [VL.out]; omega
            go_wp2_with (at_builtin; refine wpList_push rfl _ _ rfl u2.heap.size g cp vs (by rw [VL.out]; rfl) OW.out LO.out _ nw rfl CN.out VLE ?_; intro g9 c9 u9 ho9 hor9 hlt9 ht9; refine Hid.out ?_)
            have X9 : Hid (u3.heap.size ≠ g ∧ w.heap.size ≠ g ∧ w.heap.size + 1 + 1 ≠ g) := ⟨RX.out.2.ne VT2.out mach_int, RB.out.2.ne VT2.out block_int, RZ.out.2.ne VT2.out mach_int⟩
            have GN9 : Hid (g9 ∉ mb [.slice (some ⟨i1, j1, none⟩) mm.regs.length e1, .int .i64 mm.pc, .slice (some ⟨i2, j2, none⟩) mm.mem.length e2, .int .i64 mm.save, .bool mm.lets, .bool mm.waits, .int .i64 mm.halt, .slice (some ⟨i3, j3, none⟩) mm.ins.length e3, .slice (some ⟨i4, 0, none⟩) mm.outs.length e4, .int .i64 mm.count]) := fun hg => by
              rcases hor9 with e | e
              · exact GN.out (by rw [← e]; exact hg)
              · exact absurd (Nat.lt_of_lt_of_le (HC.out.mb_lt g9 hg).2 bo.size) (Nat.not_lt.2 e)
            have LG : Hid (u2.heap.size ≤ g) := show _ ≤ _ by
              obtain ⟨g', cp', ev, hl, _, _⟩ := OV.out.form (by simp)
              cases ev
              exact hl
            replace HC := hide ((HC.out.below bo).turnI ht9 GN.out)
            replace RX := hide (And.intro ((RX.out.1.below bo).turn ht9 X9.out.1) ((RX.out.2.below bo).turn ht9 X9.out.1))
            replace RB := hide (And.intro ((RB.out.1.below bo).turn ht9 X9.out.2.1) ((RB.out.2.below bo).turn ht9 X9.out.2.1))
            replace RZ := hide (And.intro ((RZ.out.1.below bo).turn ht9 X9.out.2.2) ((RZ.out.2.below bo).turn ht9 X9.out.2.2))
            replace BW := hide ((BW.out.trans (bo.mono BW.out.size)).trans (ht9.below (Nat.le_trans U3.out.1 LG.out) (Nat.le_trans BW.out.size bo.size)))
            replace LU := hide (Nat.le_trans (Nat.le_trans LU.out bo.size) ht9.size)
            have OV9 := hide ho9
            have VL9 : Hid ((vs ++ [nw]).length = k + 1) := show _ = _ by rw [List.length_append, VL.out]; rfl
            clear bo VT2 OW CN LO ho9 hor9 hlt9 ht9 GN OV X9 LG
            refine hide ?_
            go_wp2
            exact ⟨⟨k + 1, g9, c9, vs ++ [nw], [.slice (some ⟨i1, j1, none⟩) mm.regs.length e1, .int .i64 mm.pc, .slice (some ⟨i2, j2, none⟩) mm.mem.length e2, .int .i64 mm.save, .bool mm.lets, .bool mm.waits, .int .i64 mm.halt, .slice (some ⟨i3, j3, none⟩) mm.ins.length e3, .slice (some ⟨i4, 0, none⟩) mm.outs.length e4, .int .i64 mm.count], mm, by omega, by go_num, by rw [VL.out], VL9, OV9, HC, GN9, RX, RB, RZ, BW, RS2, IV2, LU⟩, by simp [intOf]; omega⟩

      · obtain ⟨mm, nw, lf, er⟩ : ∃ mm nw lf, evM ⟨bp, ln, ops, en, bx, by_, bk⟩ ⟨ra, pa, ma, sa, la, wa, ha1, ia, oa, ca⟩ ⟨6, x_, y_, k_, t_⟩ (atI vs x_) (atI vs y_) = (mm, nw, lf) := ⟨_, _, _, rfl⟩
        have NW : Hid (stepM ⟨bp, ln, ops, en, bx, by_, bk⟩ ⟨ra, pa, ma, sa, la, wa, ha1, ia, oa, ca⟩ vs ⟨6, x_, y_, k_, t_⟩ = (mm, nw, lf)) := show _ = _ by
          rw [← er]
          rfl
        have IN2 := hide (show Inv mm (vs ++ [nw]) ∧ mm.outs.length ≤ oa.length + 1 ∧ (lf = false → mm.count = ca) by have h9 := IN.out; rw [NW.out] at h9; exact h9)
        have G1 : Hid (Go1 ⟨ra, pa, ma, sa, la, wa, ha1, ia, oa, ca⟩ ⟨bp, ln, ops, en, bx, by_, bk⟩) := ⟨IV.out.1.regs, IV.out.1.mem, by have h8 : ca = count := IV.out.2.2; show 0 ≤ ca; omega, by have h8 : ca = count := IV.out.2.2; show ca ≤ 1000000; omega, p0, p64, (show (0 : Int) ≤ ln by omega), l8⟩
        have OL : Hid (oa.length ≤ 1000000000) := show _ ≤ _ by have h8 : oa.length ≤ 2000000 + k := IV.out.2.1; omega
        have XW := hide (at_w IV.out.1.vw x_).1
        have ER := hide er
        clear er
        go_wp2_with fail
        refine (wpIn_wide (n := 0)).1 ?_
        generalize (wr.alloc (.cells #[.int .i64 6, .int .i64 x_, .int .i64 y_, .int .i64 k_, .int .i64 t_] 49)) = d0 at RX RB RZ RO OV HC BW LU ⊢
        have bA : Below d0.heap.size d0 d0.drew := (Below.refl _ _).drew
        have SIT := hide (Sit.below (show Sit w d0 w.heap.size u3.heap.size u2.heap.size g cp [.int .i64 bp, .int .i64 ln, .slice (some ⟨B, off, none⟩) ops.length cap, .int .i64 en, .int .i64 bx, .int .i64 by_, .int .i64 bk] [.slice none 0 0, .int .i64 0, .slice none 0 0, .int .i64 0, .bool false, .bool false, .int .i64 0, .slice none 0 0, .slice none 0 0, .int .i64 0] [.slice (some ⟨f1, g1, none⟩) ra.length h1, .int .i64 pa, .slice (some ⟨f2, g2, none⟩) ma.length h2, .int .i64 sa, .bool la, .bool wa, .int .i64 ha1, .slice (some ⟨f3, g3, none⟩) ia.length h3, .slice (some ⟨f4, 0, none⟩) oa.length h4, .int .i64 ca] [.slice (some ⟨f1, g1, none⟩) ra.length h1, .int .i64 pa, .slice (some ⟨f2, g2, none⟩) ma.length h2, .int .i64 sa, .bool la, .bool wa, .int .i64 ha1, .slice (some ⟨f3, g3, none⟩) ia.length h3, .slice (some ⟨f4, 0, none⟩) oa.length h4, .int .i64 ca] ⟨ra, pa, ma, sa, la, wa, ha1, ia, oa, ca⟩ vs from ⟨OV.out, HC.out, GN.out, RX.out, RB.out, RZ.out, BW.out, LU.out⟩) bA)
        replace RO := hide (And.intro (RO.out.1.below bA) (RO.out.2.below bA))
        clear bA OV HC GN RX RB RZ BW LU
        refine PhaseIn.region (S := fun D => Rec u3.heap.size [.slice (some ⟨f1, g1, none⟩) ra.length h1, .int .i64 pa, .slice (some ⟨f2, g2, none⟩) ma.length h2, .int .i64 sa, .bool la, .bool wa, .int .i64 ha1, .slice (some ⟨f3, g3, none⟩) ia.length h3, .slice (some ⟨f4, 0, none⟩) oa.length h4, .int .i64 ca] D ∧ Rec wr.heap.size [.int .i64 6, .int .i64 x_, .int .i64 y_, .int .i64 k_, .int .i64 t_] D ∧ Rec w.heap.size [.int .i64 bp, .int .i64 ln, .slice (some ⟨B, off, none⟩) ops.length cap, .int .i64 en, .int .i64 bx, .int .i64 by_, .int .i64 bk] D ∧ Row D g (.slice (some ⟨g, 0, none⟩) k cp) vs) 19 (by kernel_rfl) ?_
        generalize d0.drew = d1 at SIT RO ⊢
        have hHeld : Rec u3.heap.size [.slice (some ⟨f1, g1, none⟩) ra.length h1, .int .i64 pa, .slice (some ⟨f2, g2, none⟩) ma.length h2, .int .i64 sa, .bool la, .bool wa, .int .i64 ha1, .slice (some ⟨f3, g3, none⟩) ia.length h3, .slice (some ⟨f4, 0, none⟩) oa.length h4, .int .i64 ca] d1 ∧ Rec wr.heap.size [.int .i64 6, .int .i64 x_, .int .i64 y_, .int .i64 k_, .int .i64 t_] d1 ∧ Rec w.heap.size [.int .i64 bp, .int .i64 ln, .slice (some ⟨B, off, none⟩) ops.length cap, .int .i64 en, .int .i64 bx, .int .i64 by_, .int .i64 bk] d1 ∧ Row d1 g (.slice (some ⟨g, 0, none⟩) k cp) vs := ⟨SIT.out.x.1, RO.out.1, SIT.out.b.1, by have := SIT.out.row; rw [VL.out] at this; exact this⟩
        have x0 : (0 : Int) ≤ x_ := OFF.out.x.1
        have x1 : x_ ≤ 1000 := by have h9 : x_ ≤ 48 := OFF.out.x.2; omega
        have y0 : (0 : Int) ≤ y_ := OFF.out.y.1
        have y1 : y_ ≤ 1000 := by have h9 : y_ ≤ 48 := OFF.out.y.2; omega
        have T7 : Hid ((0 : Int) ≤ t_ ∧ t_ ≤ 7) := OFF.out.t
        have EV := l6Event ⟨ra, pa, ma, sa, la, wa, ha1, ia, oa, ca⟩ ⟨bp, ln, ops, en, bx, by_, bk⟩ (some ⟨B, off, none⟩) ops.length cap ⟨6, x_, y_, k_, t_⟩ (atI vs x_) (atI vs y_) u2.heap.size [.slice (some ⟨f1, g1, none⟩) ra.length h1, .int .i64 pa, .slice (some ⟨f2, g2, none⟩) ma.length h2, .int .i64 sa, .bool la, .bool wa, .int .i64 ha1, .slice (some ⟨f3, g3, none⟩) ia.length h3, .slice (some ⟨f4, 0, none⟩) oa.length h4, .int .i64 ca]
        rw [ER.out] at EV
        have EVE := hide EV
        clear EV
        refine PhaseIn.takeD (i := 0) (v := ?_) [0, 11, 12, 13, 14, 15, 17, 18, 19] 88 rfl (by rfl) (by kernel_rfl) (by kernel_rfl) (by kernel_rfl) (by kernel_rfl) (by kernel_rfl) (fun _ _ _ h => h) (Or.inl ⟨by kernel_rfl, ?_⟩) hHeld ?_
        rotate_left
        · intro w' hSw
          (try dsimp only at hSw)
          have z0 := hSw.1.cell 0 _ rfl; have z1 := hSw.1.cell 1 _ rfl; have z2 := hSw.1.cell 2 _ rfl; have z3 := hSw.1.cell 3 _ rfl; have z4 := hSw.1.cell 4 _ rfl; have z5 := hSw.1.cell 5 _ rfl; have z6 := hSw.1.cell 6 _ rfl; have z7 := hSw.1.cell 7 _ rfl; have z8 := hSw.1.cell 8 _ rfl; have z9 := hSw.1.cell 9 _ rfl
          go_simp
          first | done | with_reducible rfl
        try simp only [Act.put, List.setIfInBounds_toArray, List.set]
        refine PhaseIn.takeD (i := 1) (v := ?_) [1, 11, 12, 13, 14, 15, 17, 18, 19] 89 rfl (by rfl) (by kernel_rfl) (by kernel_rfl) (by kernel_rfl) (by kernel_rfl) (by kernel_rfl) (fun _ _ _ h => h) (Or.inl ⟨by kernel_rfl, ?_⟩) hHeld ?_
        rotate_left
        · intro w' hSw
          (try dsimp only at hSw)
          have z0 := hSw.2.2.1.cell 0 _ rfl; have z1 := hSw.2.2.1.cell 1 _ rfl; have z2 := hSw.2.2.1.cell 2 _ rfl; have z3 := hSw.2.2.1.cell 3 _ rfl; have z4 := hSw.2.2.1.cell 4 _ rfl; have z5 := hSw.2.2.1.cell 5 _ rfl; have z6 := hSw.2.2.1.cell 6 _ rfl
          go_simp
          first | done | with_reducible rfl
        try simp only [Act.put, List.setIfInBounds_toArray, List.set]
        refine PhaseIn.takeD (i := 2) (v := ?_) [2, 11, 12, 13, 14, 15, 17, 18, 19] 90 rfl (by rfl) (by kernel_rfl) (by kernel_rfl) (by kernel_rfl) (by kernel_rfl) (by kernel_rfl) (fun _ _ _ h => h) (Or.inl ⟨by kernel_rfl, ?_⟩) hHeld ?_
        rotate_left
        · intro w' hSw
          (try dsimp only at hSw)
          have z0 := hSw.2.1.cell 0 _ rfl; have z1 := hSw.2.1.cell 1 _ rfl; have z2 := hSw.2.1.cell 2 _ rfl; have z3 := hSw.2.1.cell 3 _ rfl; have z4 := hSw.2.1.cell 4 _ rfl
          go_simp
          first | done | with_reducible rfl
        try simp only [Act.put, List.setIfInBounds_toArray, List.set]
        refine PhaseIn.takeD (i := 3) (v := ?_) [3, 6, 10, 11, 12, 13, 14, 15, 17, 18, 19] 91 rfl (by rfl) (by kernel_rfl) (by kernel_rfl) (by kernel_rfl) (by kernel_rfl) (by kernel_rfl) (fun _ _ _ h => h) (Or.inl ⟨by kernel_rfl, ?_⟩) hHeld ?_
        rotate_left
        · intro w' hSw
          (try dsimp only at hSw)
          go_simp
          first | done | with_reducible rfl
        try simp only [Act.put, List.setIfInBounds_toArray, List.set]
        refine PhaseIn.takeD (i := 4) (v := ?_) [4, 5, 6, 10, 11, 12, 13, 14, 15, 17, 18, 19] 92 rfl (by rfl) (by kernel_rfl) (by kernel_rfl) (by kernel_rfl) (by kernel_rfl) (by kernel_rfl) (fun _ _ _ h => h) (Or.inl ⟨by kernel_rfl, ?_⟩) hHeld ?_
        rotate_left
        · intro w' hSw
          (try dsimp only at hSw)
          go_simp
          first | done | with_reducible rfl
        try simp only [Act.put, List.setIfInBounds_toArray, List.set]
        refine PhaseIn.takeD (i := 5) (v := ?_) [5, 6, 10, 11, 12, 13, 14, 15, 17, 18, 19] 93 rfl (by rfl) (by kernel_rfl) (by kernel_rfl) (by kernel_rfl) (by kernel_rfl) (by kernel_rfl) (fun _ _ _ h => h) (Or.inl ⟨by kernel_rfl, ?_⟩) hHeld ?_
        rotate_left
        · intro w' hSw
          (try dsimp only at hSw)
          have z1 := hSw.2.1.cell 1 _ rfl
          go_simp
          first | done | with_reducible rfl
        try simp only [Act.put, List.setIfInBounds_toArray, List.set]
        refine PhaseIn.takeC (i := 6) (v := .int .i64 (atI vs x_)) [6, 10, 11, 12, 13, 14, 15, 17, 18, 19] 94 21 #[.slice (some ⟨g, 0, none⟩) k cp, .int .i64 x_] rfl (by rfl) (by kernel_rfl) (by kernel_rfl) (by kernel_rfl) (by kernel_rfl) (by kernel_rfl) (fun _ _ _ h => h) (by kernel_rfl) ?_ (fun w' hSw => l5At vs x_ x0 x1 _ _ _ hSw.2.2.2) hHeld ?_
        · intro w' hSw
          go_simp
          first | done | with_reducible rfl
        try simp only [Act.put, List.setIfInBounds_toArray, List.set]
        refine PhaseIn.takeD (i := 7) (v := ?_) [7, 10, 11, 12, 13, 14, 15, 17, 18, 19] 95 rfl (by rfl) (by kernel_rfl) (by kernel_rfl) (by kernel_rfl) (by kernel_rfl) (by kernel_rfl) (fun _ _ _ h => h) (Or.inl ⟨by kernel_rfl, ?_⟩) hHeld ?_
        rotate_left
        · intro w' hSw
          (try dsimp only at hSw)
          go_simp
          first | done | with_reducible rfl
        try simp only [Act.put, List.setIfInBounds_toArray, List.set]
        refine PhaseIn.takeD (i := 8) (v := ?_) [8, 9, 10, 11, 12, 13, 14, 15, 17, 18, 19] 96 rfl (by rfl) (by kernel_rfl) (by kernel_rfl) (by kernel_rfl) (by kernel_rfl) (by kernel_rfl) (fun _ _ _ h => h) (Or.inl ⟨by kernel_rfl, ?_⟩) hHeld ?_
        rotate_left
        · intro w' hSw
          (try dsimp only at hSw)
          go_simp
          first | done | with_reducible rfl
        try simp only [Act.put, List.setIfInBounds_toArray, List.set]
        refine PhaseIn.takeD (i := 9) (v := ?_) [9, 10, 11, 12, 13, 14, 15, 17, 18, 19] 97 rfl (by rfl) (by kernel_rfl) (by kernel_rfl) (by kernel_rfl) (by kernel_rfl) (by kernel_rfl) (fun _ _ _ h => h) (Or.inl ⟨by kernel_rfl, ?_⟩) hHeld ?_
        rotate_left
        · intro w' hSw
          (try dsimp only at hSw)
          have z2 := hSw.2.1.cell 2 _ rfl
          go_simp
          first | done | with_reducible rfl
        try simp only [Act.put, List.setIfInBounds_toArray, List.set]
        refine PhaseIn.takeC (i := 10) (v := .int .i64 (atI vs y_)) [10, 11, 12, 13, 14, 15, 17, 18, 19] 98 21 #[.slice (some ⟨g, 0, none⟩) k cp, .int .i64 y_] rfl (by rfl) (by kernel_rfl) (by kernel_rfl) (by kernel_rfl) (by kernel_rfl) (by kernel_rfl) (fun _ _ _ h => h) (by kernel_rfl) ?_ (fun w' hSw => l5At vs y_ y0 y1 _ _ _ hSw.2.2.2) hHeld ?_
        · intro w' hSw
          go_simp
          first | done | with_reducible rfl
        try simp only [Act.put, List.setIfInBounds_toArray, List.set]
        refine PhaseIn.two (i := 11) (j := 16) (by kernel_rfl) rfl rfl (by kernel_rfl) (by kernel_rfl) (fun K hK => ?_) (fun K hK => ?_)
        · unfold Oper.wpIn
          refine ⟨fun _ _ => trivial, ?_⟩
          go_simp
          refine ⟨rfl, (callsIn_wide.2 (EVE.out _ SIT.out.mach G1.out OL.out (show (4 : Int) ≤ 6 ∧ (6 : Int) ≤ 7 by omega) XW.out T7.out.1 T7.out.2)).mono ?_⟩
          rintro e dd ⟨c', rfl, hc, hi, ho, hg⟩
          obtain ⟨i1, j1, e1, i2, j2, e2, i3, j3, e3, i4, e4, rfl⟩ := forms hc
          simp only [mv] at hc hi ho hg ⊢
          have SIT2 := hide (Sit.event SIT.out U3.out.1 hi ho hc hg)
          have RO2 := hide (Rec.ints RO.out.1 RO.out.2 op_int hi)
          clear hc hi ho hg
          have hHeld2 : Rec u3.heap.size [.slice (some ⟨f1, g1, none⟩) ra.length h1, .int .i64 pa, .slice (some ⟨f2, g2, none⟩) ma.length h2, .int .i64 sa, .bool la, .bool wa, .int .i64 ha1, .slice (some ⟨f3, g3, none⟩) ia.length h3, .slice (some ⟨f4, 0, none⟩) oa.length h4, .int .i64 ca] dd ∧ Rec wr.heap.size [.int .i64 6, .int .i64 x_, .int .i64 y_, .int .i64 k_, .int .i64 t_] dd ∧ Rec w.heap.size [.int .i64 bp, .int .i64 ln, .slice (some ⟨B, off, none⟩) ops.length cap, .int .i64 en, .int .i64 bx, .int .i64 by_, .int .i64 bk] dd ∧ Row dd g (.slice (some ⟨g, 0, none⟩) k cp) vs := ⟨SIT2.out.x.1, RO2.out, SIT2.out.b.1, by have := SIT2.out.row; rw [VL.out] at this; exact this⟩
          refine hK _ _ (fun _ => hHeld2) ?_
          clear hK K hHeld SIT RO
          try simp only [Act.put, List.setIfInBounds_toArray, List.set]
          refine PhaseIn.takeD (i := 12) (v := ?_) [12, 13, 14, 15, 17, 18, 19] 87 rfl (by rfl) (by kernel_rfl) (by kernel_rfl) (by kernel_rfl) (by kernel_rfl) (by kernel_rfl) (fun _ _ _ h => h) (Or.inl ⟨by kernel_rfl, ?_⟩) hHeld2 ?_
          rotate_left
          · intro w' hSw
            (try dsimp only at hSw)
            go_simp
            first | done | with_reducible rfl
          try simp only [Act.put, List.setIfInBounds_toArray, List.set]
          refine PhaseIn.takeD (i := 13) (v := ?_) [13, 17, 18, 19] 100 rfl (by rfl) (by kernel_rfl) (by kernel_rfl) (by kernel_rfl) (by kernel_rfl) (by kernel_rfl) (fun _ _ _ h => h) (Or.inl ⟨by kernel_rfl, ?_⟩) hHeld2 ?_
          rotate_left
          · intro w' hSw
            (try dsimp only at hSw)
            go_simp
            first | done | with_reducible rfl
          try simp only [Act.put, List.setIfInBounds_toArray, List.set]
          refine PhaseIn.takeD (i := 14) (v := ?_) [14, 18, 19] 101 rfl (by rfl) (by kernel_rfl) (by kernel_rfl) (by kernel_rfl) (by kernel_rfl) (by kernel_rfl) (fun _ _ _ h => h) (Or.inl ⟨by kernel_rfl, ?_⟩) hHeld2 ?_
          rotate_left
          · intro w' hSw
            (try dsimp only at hSw)
            go_simp
            first | done | with_reducible rfl
          try simp only [Act.put, List.setIfInBounds_toArray, List.set]
          refine PhaseIn.takeD (i := 15) (v := ?_) [15, 19] 102 rfl (by rfl) (by kernel_rfl) (by kernel_rfl) (by kernel_rfl) (by kernel_rfl) (by kernel_rfl) (fun _ _ _ h => h) (Or.inl ⟨by kernel_rfl, ?_⟩) hHeld2 ?_
          rotate_left
          · intro w' hSw
            (try dsimp only at hSw)
            go_simp
            first | done | with_reducible rfl
          try simp only [Act.put, List.setIfInBounds_toArray, List.set]
          refine PhaseIn.one (i := 16) (by kernel_rfl) rfl (by kernel_rfl) (fun K hK => ?_)
          unfold Oper.wpIn
          refine ⟨fun _ _ => trivial, ?_⟩
          go_simp
          have bY := alloc_below dd (.cells #[.slice none 0 0, .int .i64 0, .slice none 0 0, .int .i64 0, .bool false, .bool false, .int .i64 0, .slice none 0 0, .slice none 0 0, .int .i64 0] 30)
          have RY := hide (And.intro (Rec.new dd [.slice none 0 0, .int .i64 0, .slice none 0 0, .int .i64 0, .bool false, .bool false, .int .i64 0, .slice none 0 0, .slice none 0 0, .int .i64 0] 30) (IsT.new dd #[.slice none 0 0, .int .i64 0, .slice none 0 0, .int .i64 0, .bool false, .bool false, .int .i64 0, .slice none 0 0, .slice none 0 0, .int .i64 0] 30))
          have XY : Hid (u3.heap.size ≠ dd.heap.size ∧ w.heap.size + 1 + 1 < dd.heap.size ∧ wr.heap.size ≠ dd.heap.size) := ⟨Nat.ne_of_lt SIT2.out.x.1.lt, SIT2.out.z.1.lt, Nat.ne_of_lt RO2.out.lt⟩
          replace SIT2 := hide (Sit.below SIT2.out bY)
          replace RO2 := hide (RO2.out.below bY)
          clear bY hHeld2
          have hHeld2 : Rec u3.heap.size [.slice (some ⟨f1, g1, none⟩) ra.length h1, .int .i64 pa, .slice (some ⟨f2, g2, none⟩) ma.length h2, .int .i64 sa, .bool la, .bool wa, .int .i64 ha1, .slice (some ⟨f3, g3, none⟩) ia.length h3, .slice (some ⟨f4, 0, none⟩) oa.length h4, .int .i64 ca] (dd.alloc (.cells #[.slice none 0 0, .int .i64 0, .slice none 0 0, .int .i64 0, .bool false, .bool false, .int .i64 0, .slice none 0 0, .slice none 0 0, .int .i64 0] 30)) ∧ Rec wr.heap.size [.int .i64 6, .int .i64 x_, .int .i64 y_, .int .i64 k_, .int .i64 t_] (dd.alloc (.cells #[.slice none 0 0, .int .i64 0, .slice none 0 0, .int .i64 0, .bool false, .bool false, .int .i64 0, .slice none 0 0, .slice none 0 0, .int .i64 0] 30)) ∧ Rec w.heap.size [.int .i64 bp, .int .i64 ln, .slice (some ⟨B, off, none⟩) ops.length cap, .int .i64 en, .int .i64 bx, .int .i64 by_, .int .i64 bk] (dd.alloc (.cells #[.slice none 0 0, .int .i64 0, .slice none 0 0, .int .i64 0, .bool false, .bool false, .int .i64 0, .slice none 0 0, .slice none 0 0, .int .i64 0] 30)) ∧ Row (dd.alloc (.cells #[.slice none 0 0, .int .i64 0, .slice none 0 0, .int .i64 0, .bool false, .bool false, .int .i64 0, .slice none 0 0, .slice none 0 0, .int .i64 0] 30)) g (.slice (some ⟨g, 0, none⟩) k cp) vs := ⟨SIT2.out.x.1, RO2.out, SIT2.out.b.1, by have := SIT2.out.row; rw [VL.out] at this; exact this⟩
          refine hK _ _ (fun _ => hHeld2) ?_
          clear hK K RO2
          try simp only [Act.put, List.setIfInBounds_toArray, List.set]
          generalize dd.alloc (.cells #[.slice none 0 0, .int .i64 0, .slice none 0 0, .int .i64 0, .bool false, .bool false, .int .i64 0, .slice none 0 0, .slice none 0 0, .int .i64 0] 30) = d2 at SIT2 RY hHeld2 ⊢
          generalize dd.heap.size = Y at RY XY ⊢
          have z0 := RY.out.1.cell 0 _ rfl
          have s0 := RY.out.1.soft 0
          have z1 := RY.out.1.cell 1 _ rfl
          have s1 := RY.out.1.soft 1
          have z2 := RY.out.1.cell 2 _ rfl
          have s2 := RY.out.1.soft 2
          have z3 := RY.out.1.cell 3 _ rfl
          have s3 := RY.out.1.soft 3
          have z4 := RY.out.1.cell 4 _ rfl
          have s4 := RY.out.1.soft 4
          have z5 := RY.out.1.cell 5 _ rfl
          have s5 := RY.out.1.soft 5
          have z6 := RY.out.1.cell 6 _ rfl
          have s6 := RY.out.1.soft 6
          have z7 := RY.out.1.cell 7 _ rfl
          have s7 := RY.out.1.soft 7
          have z8 := RY.out.1.cell 8 _ rfl
          have s8 := RY.out.1.soft 8
          have z9 := RY.out.1.cell 9 _ rfl
          have s9 := RY.out.1.soft 9
          refine PhaseIn.one (i := 17) (by kernel_rfl) rfl (by kernel_rfl) (fun K hK => ?_)
          unfold Oper.wpIn
          refine ⟨fun _ _ => trivial, ?_⟩
          go_simp
          have SIT3 := hide (Sit.box SIT2.out (turn_ten Y d2 (.slice (some ⟨i1, j1, none⟩) mm.regs.length e1) (.int .i64 mm.pc) (.slice (some ⟨i2, j2, none⟩) mm.mem.length e2) (.int .i64 mm.save) (.bool mm.lets) (.bool mm.waits) (.int .i64 mm.halt) (.slice (some ⟨i3, j3, none⟩) mm.ins.length e3) (.slice (some ⟨i4, 0, none⟩) mm.outs.length e4) (.int .i64 mm.count)) RY.out.2 XY.out.1 XY.out.2.1)
          have hHeld3 : Rec u3.heap.size [.slice (some ⟨f1, g1, none⟩) ra.length h1, .int .i64 pa, .slice (some ⟨f2, g2, none⟩) ma.length h2, .int .i64 sa, .bool la, .bool wa, .int .i64 ha1, .slice (some ⟨f3, g3, none⟩) ia.length h3, .slice (some ⟨f4, 0, none⟩) oa.length h4, .int .i64 ca] ((((((((((d2.setCell ⟨Y, 0, none⟩ (.slice (some ⟨i1, j1, none⟩) mm.regs.length e1)).setCell ⟨Y, 1, none⟩ (.int .i64 mm.pc)).setCell ⟨Y, 2, none⟩ (.slice (some ⟨i2, j2, none⟩) mm.mem.length e2)).setCell ⟨Y, 3, none⟩ (.int .i64 mm.save)).setCell ⟨Y, 4, none⟩ (.bool mm.lets)).setCell ⟨Y, 5, none⟩ (.bool mm.waits)).setCell ⟨Y, 6, none⟩ (.int .i64 mm.halt)).setCell ⟨Y, 7, none⟩ (.slice (some ⟨i3, j3, none⟩) mm.ins.length e3)).setCell ⟨Y, 8, none⟩ (.slice (some ⟨i4, 0, none⟩) mm.outs.length e4)).setCell ⟨Y, 9, none⟩ (.int .i64 mm.count)) ∧ Rec wr.heap.size [.int .i64 6, .int .i64 x_, .int .i64 y_, .int .i64 k_, .int .i64 t_] ((((((((((d2.setCell ⟨Y, 0, none⟩ (.slice (some ⟨i1, j1, none⟩) mm.regs.length e1)).setCell ⟨Y, 1, none⟩ (.int .i64 mm.pc)).setCell ⟨Y, 2, none⟩ (.slice (some ⟨i2, j2, none⟩) mm.mem.length e2)).setCell ⟨Y, 3, none⟩ (.int .i64 mm.save)).setCell ⟨Y, 4, none⟩ (.bool mm.lets)).setCell ⟨Y, 5, none⟩ (.bool mm.waits)).setCell ⟨Y, 6, none⟩ (.int .i64 mm.halt)).setCell ⟨Y, 7, none⟩ (.slice (some ⟨i3, j3, none⟩) mm.ins.length e3)).setCell ⟨Y, 8, none⟩ (.slice (some ⟨i4, 0, none⟩) mm.outs.length e4)).setCell ⟨Y, 9, none⟩ (.int .i64 mm.count)) ∧ Rec w.heap.size [.int .i64 bp, .int .i64 ln, .slice (some ⟨B, off, none⟩) ops.length cap, .int .i64 en, .int .i64 bx, .int .i64 by_, .int .i64 bk] ((((((((((d2.setCell ⟨Y, 0, none⟩ (.slice (some ⟨i1, j1, none⟩) mm.regs.length e1)).setCell ⟨Y, 1, none⟩ (.int .i64 mm.pc)).setCell ⟨Y, 2, none⟩ (.slice (some ⟨i2, j2, none⟩) mm.mem.length e2)).setCell ⟨Y, 3, none⟩ (.int .i64 mm.save)).setCell ⟨Y, 4, none⟩ (.bool mm.lets)).setCell ⟨Y, 5, none⟩ (.bool mm.waits)).setCell ⟨Y, 6, none⟩ (.int .i64 mm.halt)).setCell ⟨Y, 7, none⟩ (.slice (some ⟨i3, j3, none⟩) mm.ins.length e3)).setCell ⟨Y, 8, none⟩ (.slice (some ⟨i4, 0, none⟩) mm.outs.length e4)).setCell ⟨Y, 9, none⟩ (.int .i64 mm.count)) ∧ Row ((((((((((d2.setCell ⟨Y, 0, none⟩ (.slice (some ⟨i1, j1, none⟩) mm.regs.length e1)).setCell ⟨Y, 1, none⟩ (.int .i64 mm.pc)).setCell ⟨Y, 2, none⟩ (.slice (some ⟨i2, j2, none⟩) mm.mem.length e2)).setCell ⟨Y, 3, none⟩ (.int .i64 mm.save)).setCell ⟨Y, 4, none⟩ (.bool mm.lets)).setCell ⟨Y, 5, none⟩ (.bool mm.waits)).setCell ⟨Y, 6, none⟩ (.int .i64 mm.halt)).setCell ⟨Y, 7, none⟩ (.slice (some ⟨i3, j3, none⟩) mm.ins.length e3)).setCell ⟨Y, 8, none⟩ (.slice (some ⟨i4, 0, none⟩) mm.outs.length e4)).setCell ⟨Y, 9, none⟩ (.int .i64 mm.count)) g (.slice (some ⟨g, 0, none⟩) k cp) vs := ⟨SIT3.out.x.1, hHeld2.2.1.turn (turn_ten Y d2 (.slice (some ⟨i1, j1, none⟩) mm.regs.length e1) (.int .i64 mm.pc) (.slice (some ⟨i2, j2, none⟩) mm.mem.length e2) (.int .i64 mm.save) (.bool mm.lets) (.bool mm.waits) (.int .i64 mm.halt) (.slice (some ⟨i3, j3, none⟩) mm.ins.length e3) (.slice (some ⟨i4, 0, none⟩) mm.outs.length e4) (.int .i64 mm.count)) XY.out.2.2, SIT3.out.b.1, by have := SIT3.out.row; rw [VL.out] at this; exact this⟩
          refine hK _ _ (fun _ => hHeld3) ?_
          clear hK K hHeld2 z0 s0 z1 s1 z2 s2 z3 s3 z4 s4 z5 s5 z6 s6 z7 s7 z8 s8 z9 s9
          try simp only [Act.put, List.setIfInBounds_toArray, List.set]
          replace RY := hide (And.intro (rec_ten RY.out.1 (.slice (some ⟨i1, j1, none⟩) mm.regs.length e1) (.int .i64 mm.pc) (.slice (some ⟨i2, j2, none⟩) mm.mem.length e2) (.int .i64 mm.save) (.bool mm.lets) (.bool mm.waits) (.int .i64 mm.halt) (.slice (some ⟨i3, j3, none⟩) mm.ins.length e3) (.slice (some ⟨i4, 0, none⟩) mm.outs.length e4) (.int .i64 mm.count)) (type_ten (Z := Y) RY.out.2 (.slice (some ⟨i1, j1, none⟩) mm.regs.length e1) (.int .i64 mm.pc) (.slice (some ⟨i2, j2, none⟩) mm.mem.length e2) (.int .i64 mm.save) (.bool mm.lets) (.bool mm.waits) (.int .i64 mm.halt) (.slice (some ⟨i3, j3, none⟩) mm.ins.length e3) (.slice (some ⟨i4, 0, none⟩) mm.outs.length e4) (.int .i64 mm.count)))
          clear SIT2
          generalize ((((((((((d2.setCell ⟨Y, 0, none⟩ (.slice (some ⟨i1, j1, none⟩) mm.regs.length e1)).setCell ⟨Y, 1, none⟩ (.int .i64 mm.pc)).setCell ⟨Y, 2, none⟩ (.slice (some ⟨i2, j2, none⟩) mm.mem.length e2)).setCell ⟨Y, 3, none⟩ (.int .i64 mm.save)).setCell ⟨Y, 4, none⟩ (.bool mm.lets)).setCell ⟨Y, 5, none⟩ (.bool mm.waits)).setCell ⟨Y, 6, none⟩ (.int .i64 mm.halt)).setCell ⟨Y, 7, none⟩ (.slice (some ⟨i3, j3, none⟩) mm.ins.length e3)).setCell ⟨Y, 8, none⟩ (.slice (some ⟨i4, 0, none⟩) mm.outs.length e4)).setCell ⟨Y, 9, none⟩ (.int .i64 mm.count)) = d3 at SIT3 RY hHeld3 ⊢
          refine PhaseIn.takeD (i := 18) (v := ?_) [18, 19] 12 rfl (by rfl) (by kernel_rfl) (by kernel_rfl) (by kernel_rfl) (by kernel_rfl) (by kernel_rfl) (fun _ _ _ h => h) (Or.inl ⟨by kernel_rfl, ?_⟩) hHeld3 ?_
          rotate_left
          · intro w' hSw
            (try dsimp only at hSw)
            go_simp
            first | done | with_reducible rfl
          try simp only [Act.put, List.setIfInBounds_toArray, List.set]
          refine PhaseIn.late (i := 19) (v := ?_) (by kernel_rfl) rfl 13 (by rfl) (by omega) (Or.inl ⟨by kernel_rfl, ?_⟩) ?_
          rotate_left
          · intro w' hSw
            go_simp
            first | done | with_reducible rfl
          try simp only [Act.put, List.setIfInBounds_toArray, List.set]
          refine PhaseIn.done (by kernel_rfl) ?_ _
          clear hHeld3
          have y0 := RY.out.1.cell 0 _ rfl
          have y1 := RY.out.1.cell 1 _ rfl
          have y2 := RY.out.1.cell 2 _ rfl
          have y3 := RY.out.1.cell 3 _ rfl
          have y4 := RY.out.1.cell 4 _ rfl
          have y5 := RY.out.1.cell 5 _ rfl
          have y6 := RY.out.1.cell 6 _ rfl
          have y7 := RY.out.1.cell 7 _ rfl
          have y8 := RY.out.1.cell 8 _ rfl
          have y9 := RY.out.1.cell 9 _ rfl
          cases lf with
          | true =>
            have RD : Hid (R = mm) := show _ = _ by
              rw [RS.out]
              simp only [runM]
              rw [NW.out]
              rfl
            have ZB : Hid (Box (w.heap.size + 1 + 1) 30 [.slice none 0 0, .int .i64 0, .slice none 0 0, .int .i64 0, .bool false, .bool false, .int .i64 0, .slice none 0 0, .slice none 0 0, .int .i64 0] d3) := ⟨SIT3.out.z.1, SIT3.out.z.2⟩
            have ZN : Hid (w.heap.size + 1 + 1 ∉ mb [.slice (some ⟨i1, j1, none⟩) mm.regs.length e1, .int .i64 mm.pc, .slice (some ⟨i2, j2, none⟩) mm.mem.length e2, .int .i64 mm.save, .bool mm.lets, .bool mm.waits, .int .i64 mm.halt, .slice (some ⟨i3, j3, none⟩) mm.ins.length e3, .slice (some ⟨i4, 0, none⟩) mm.outs.length e4, .int .i64 mm.count]) := fun e => (SIT3.out.z.2.ne (SIT3.out.mach.mb_int _ e) mach_int) rfl
            go_wp2_with (refine wpList_lay rfl rfl _ _ rfl (w.heap.size + 1 + 1) _ _ _ _ _ _ _ _ _ _ ZB.out rfl _ _ _ _ _ _ _ _ _ _ _ _ _ _ _ _ _ _ rfl ?_; intro u9 RB TB; refine Hid.out ?_)
            have HC9 := hide ((SIT3.out.mach.turnI TB.out ZN.out).lowI U3.out.1)
            have BW9 := hide (SIT3.out.bw.trans (TB.out.below (by omega) (Nat.le_of_lt SIT3.out.b.2.lt)))
            have z0 := RB.out.r.cell 0 _ rfl
            have z1 := RB.out.r.cell 1 _ rfl
            have z2 := RB.out.r.cell 2 _ rfl
            have z3 := RB.out.r.cell 3 _ rfl
            have z4 := RB.out.r.cell 4 _ rfl
            have z5 := RB.out.r.cell 5 _ rfl
            have z6 := RB.out.r.cell 6 _ rfl
            have z7 := RB.out.r.cell 7 _ rfl
            have z8 := RB.out.r.cell 8 _ rfl
            have z9 := RB.out.r.cell 9 _ rfl
            clear RB TB SIT3 ZB ZN RY RS IV IN NW IN2 OFF y0 y1 y2 y3 y4 y5 y6 y7 y8 y9 T7 XY G1 OL XW ER EVE VL
            refine hide ?_
            iterate 11 go_step
            exact bodyPost_ret (v := .tuple #[.agg #[.slice (some ⟨i1, j1, none⟩) mm.regs.length e1, .int .i64 mm.pc, .slice (some ⟨i2, j2, none⟩) mm.mem.length e2, .int .i64 mm.save, .bool mm.lets, .bool mm.waits, .int .i64 mm.halt, .slice (some ⟨i3, j3, none⟩) mm.ins.length e3, .slice (some ⟨i4, 0, none⟩) mm.outs.length e4, .int .i64 mm.count], .bool kk]) (by rw [EQ.out]; simp [results, Tryz.results6, go_sem, z0, z1, z2, z3, z4, z5, z6, z7, z8, z9]) rfl ⟨IR.out [.slice (some ⟨i1, j1, none⟩) mm.regs.length e1, .int .i64 mm.pc, .slice (some ⟨i2, j2, none⟩) mm.mem.length e2, .int .i64 mm.save, .bool mm.lets, .bool mm.waits, .int .i64 mm.halt, .slice (some ⟨i3, j3, none⟩) mm.ins.length e3, .slice (some ⟨i4, 0, none⟩) mm.outs.length e4, .int .i64 mm.count] _ (fun e => by rw [BOTH.out] at e; cases e) (fun _ => by rw [RD.out]; exact HC9.out), BW9.out⟩
          | false =>
            have RS2 : Hid (R = runM ⟨bp, ln, ops, en, bx, by_, bk⟩ (ops.drop (k + 1)) mm (vs ++ [nw])) := show _ = _ by
              rw [RS.out]
              simp only [runM]
              rw [NW.out]
              rfl
            have IV2 : Hid (Inv mm (vs ++ [nw]) ∧ mm.outs.length ≤ 2000000 + k + 1 ∧ mm.count = count) := ⟨IN2.out.1, by have h8 : oa.length ≤ 2000000 + k := IV.out.2.1; have h9 := IN2.out.2.1; omega, (IN2.out.2.2 rfl).trans IV.out.2.2⟩
            have XB : Hid (Box u3.heap.size 30 [.slice (some ⟨f1, g1, none⟩) ra.length h1, .int .i64 pa, .slice (some ⟨f2, g2, none⟩) ma.length h2, .int .i64 sa, .bool la, .bool wa, .int .i64 ha1, .slice (some ⟨f3, g3, none⟩) ia.length h3, .slice (some ⟨f4, 0, none⟩) oa.length h4, .int .i64 ca] d3) := ⟨SIT3.out.x.1, SIT3.out.x.2⟩
            clear RS IV IN NW IN2 OFF
            go_wp2_with (refine wpList_lay rfl rfl _ _ rfl (u3.heap.size) _ _ _ _ _ _ _ _ _ _ XB.out rfl _ _ _ _ _ _ _ _ _ _ _ _ _ _ _ _ _ _ rfl ?_; intro u9 RB TB; refine Hid.out ?_)
            have SIT4 := hide (Sit.self SIT3.out TB.out NX.out RB.out.r RB.out.t)
            have OV := hide SIT4.out.own
            have HC := hide SIT4.out.mach
            have GN := hide SIT4.out.gn
            have RX := hide SIT4.out.x
            have RB := hide SIT4.out.b
            have RZ := hide SIT4.out.z
            have BW := hide SIT4.out.bw
            have LU := hide SIT4.out.lu
            clear SIT3 SIT4 TB XB RY y0 y1 y2 y3 y4 y5 y6 y7 y8 y9
            refine hide ?_
            have bo := alloc_below u9 (.cells #[.int .i64 nw] 3)
            have VT2 := hide OV.out.isT
            have OW := hide (OV.out.turn (Turn.of_below (B := u9.heap.size) bo) (Nat.ne_of_lt VT2.out.lt) VT2.out.lt)
            have CN : Hid ((u9.alloc (.cells #[.int .i64 nw] 3)).cell? ((⟨u9.heap.size, 0, none⟩ : Addr).add 0) = some (.int .i64 nw)) := show _ = _ by
              rw [Go.WideShapes.add_plain]
              have h9 := World.cell?_alloc_new u9 #[.int .i64 nw] 3 0
              first | exact h9 | simpa using h9
            have LO : Hid (u2.heap.size ≤ (u9.alloc (.cells #[.int .i64 nw] 3)).heap.size) := Nat.le_trans LU.out bo.size
            have VLE : vs.length ≤ 1000000000000 := by rw [VL.out]; omega
            go_wp2_with (at_builtin; refine wpList_push rfl _ _ rfl u2.heap.size g cp vs (by rw [VL.out]; rfl) OW.out LO.out _ nw rfl CN.out VLE ?_; intro g9 c9 u9 ho9 hor9 hlt9 ht9; refine Hid.out ?_)
            have X9 : Hid (u3.heap.size ≠ g ∧ w.heap.size ≠ g ∧ w.heap.size + 1 + 1 ≠ g) := ⟨RX.out.2.ne VT2.out mach_int, RB.out.2.ne VT2.out block_int, RZ.out.2.ne VT2.out mach_int⟩
            have GN9 : Hid (g9 ∉ mb [.slice (some ⟨i1, j1, none⟩) mm.regs.length e1, .int .i64 mm.pc, .slice (some ⟨i2, j2, none⟩) mm.mem.length e2, .int .i64 mm.save, .bool mm.lets, .bool mm.waits, .int .i64 mm.halt, .slice (some ⟨i3, j3, none⟩) mm.ins.length e3, .slice (some ⟨i4, 0, none⟩) mm.outs.length e4, .int .i64 mm.count]) := fun hg => by
              rcases hor9 with e | e
              · exact GN.out (by rw [← e]; exact hg)
              · exact absurd (Nat.lt_of_lt_of_le (HC.out.mb_lt g9 hg).2 bo.size) (Nat.not_lt.2 e)
            have LG : Hid (u2.heap.size ≤ g) := show _ ≤ _ by
              obtain ⟨g', cp', ev, hl, _, _⟩ := OV.out.form (by simp)
              cases ev
              exact hl
            replace HC := hide ((HC.out.below bo).turnI ht9 GN.out)
            replace RX := hide (And.intro ((RX.out.1.below bo).turn ht9 X9.out.1) ((RX.out.2.below bo).turn ht9 X9.out.1))
            replace RB := hide (And.intro ((RB.out.1.below bo).turn ht9 X9.out.2.1) ((RB.out.2.below bo).turn ht9 X9.out.2.1))
            replace RZ := hide (And.intro ((RZ.out.1.below bo).turn ht9 X9.out.2.2) ((RZ.out.2.below bo).turn ht9 X9.out.2.2))
            replace BW := hide ((BW.out.trans (bo.mono BW.out.size)).trans (ht9.below (Nat.le_trans U3.out.1 LG.out) (Nat.le_trans BW.out.size bo.size)))
            replace LU := hide (Nat.le_trans (Nat.le_trans LU.out bo.size) ht9.size)
            have OV9 := hide ho9
            have VL9 : Hid ((vs ++ [nw]).length = k + 1) := show _ = _ by rw [List.length_append, VL.out]; rfl
            clear bo VT2 OW CN LO ho9 hor9 hlt9 ht9 GN OV X9 LG
            refine hide ?_
            go_wp2
            exact ⟨⟨k + 1, g9, c9, vs ++ [nw], [.slice (some ⟨i1, j1, none⟩) mm.regs.length e1, .int .i64 mm.pc, .slice (some ⟨i2, j2, none⟩) mm.mem.length e2, .int .i64 mm.save, .bool mm.lets, .bool mm.waits, .int .i64 mm.halt, .slice (some ⟨i3, j3, none⟩) mm.ins.length e3, .slice (some ⟨i4, 0, none⟩) mm.outs.length e4, .int .i64 mm.count], mm, by omega, by go_num, by rw [VL.out], VL9, OV9, HC, GN9, RX, RB, RZ, BW, RS2, IV2, LU⟩, by simp [intOf]; omega⟩

        · unfold Oper.wpIn
          refine ⟨fun _ _ => trivial, ?_⟩
          go_simp
          have bY := alloc_below d1 (.cells #[.slice none 0 0, .int .i64 0, .slice none 0 0, .int .i64 0, .bool false, .bool false, .int .i64 0, .slice none 0 0, .slice none 0 0, .int .i64 0] 30)
          have RY := hide (And.intro (Rec.new d1 [.slice none 0 0, .int .i64 0, .slice none 0 0, .int .i64 0, .bool false, .bool false, .int .i64 0, .slice none 0 0, .slice none 0 0, .int .i64 0] 30) (IsT.new d1 #[.slice none 0 0, .int .i64 0, .slice none 0 0, .int .i64 0, .bool false, .bool false, .int .i64 0, .slice none 0 0, .slice none 0 0, .int .i64 0] 30))
          have XY : Hid (u3.heap.size ≠ d1.heap.size ∧ w.heap.size + 1 + 1 < d1.heap.size ∧ wr.heap.size ≠ d1.heap.size) := ⟨Nat.ne_of_lt SIT.out.x.1.lt, SIT.out.z.1.lt, Nat.ne_of_lt RO.out.1.lt⟩
          replace SIT := hide (Sit.below SIT.out bY)
          replace RO := hide (And.intro (RO.out.1.below bY) (RO.out.2.below bY))
          clear bY hHeld
          have hHeld : Rec u3.heap.size [.slice (some ⟨f1, g1, none⟩) ra.length h1, .int .i64 pa, .slice (some ⟨f2, g2, none⟩) ma.length h2, .int .i64 sa, .bool la, .bool wa, .int .i64 ha1, .slice (some ⟨f3, g3, none⟩) ia.length h3, .slice (some ⟨f4, 0, none⟩) oa.length h4, .int .i64 ca] (d1.alloc (.cells #[.slice none 0 0, .int .i64 0, .slice none 0 0, .int .i64 0, .bool false, .bool false, .int .i64 0, .slice none 0 0, .slice none 0 0, .int .i64 0] 30)) ∧ Rec wr.heap.size [.int .i64 6, .int .i64 x_, .int .i64 y_, .int .i64 k_, .int .i64 t_] (d1.alloc (.cells #[.slice none 0 0, .int .i64 0, .slice none 0 0, .int .i64 0, .bool false, .bool false, .int .i64 0, .slice none 0 0, .slice none 0 0, .int .i64 0] 30)) ∧ Rec w.heap.size [.int .i64 bp, .int .i64 ln, .slice (some ⟨B, off, none⟩) ops.length cap, .int .i64 en, .int .i64 bx, .int .i64 by_, .int .i64 bk] (d1.alloc (.cells #[.slice none 0 0, .int .i64 0, .slice none 0 0, .int .i64 0, .bool false, .bool false, .int .i64 0, .slice none 0 0, .slice none 0 0, .int .i64 0] 30)) ∧ Row (d1.alloc (.cells #[.slice none 0 0, .int .i64 0, .slice none 0 0, .int .i64 0, .bool false, .bool false, .int .i64 0, .slice none 0 0, .slice none 0 0, .int .i64 0] 30)) g (.slice (some ⟨g, 0, none⟩) k cp) vs := ⟨SIT.out.x.1, RO.out.1, SIT.out.b.1, by have := SIT.out.row; rw [VL.out] at this; exact this⟩
          refine hK _ _ (fun _ => hHeld) ?_
          clear hK K
          try simp only [Act.put, List.setIfInBounds_toArray, List.set]
          generalize d1.alloc (.cells #[.slice none 0 0, .int .i64 0, .slice none 0 0, .int .i64 0, .bool false, .bool false, .int .i64 0, .slice none 0 0, .slice none 0 0, .int .i64 0] 30) = dd at SIT RY RO hHeld ⊢
          generalize d1.heap.size = Y at RY XY ⊢
          refine PhaseIn.one (i := 11) (by kernel_rfl) rfl (by kernel_rfl) (fun K hK => ?_)
          unfold Oper.wpIn
          refine ⟨fun _ _ => trivial, ?_⟩
          go_simp
          refine ⟨rfl, (callsIn_wide.2 (EVE.out _ SIT.out.mach G1.out OL.out (show (4 : Int) ≤ 6 ∧ (6 : Int) ≤ 7 by omega) XW.out T7.out.1 T7.out.2)).mono ?_⟩
          rintro e d2 ⟨c', rfl, hc, hi, ho, hg⟩
          obtain ⟨i1, j1, e1, i2, j2, e2, i3, j3, e3, i4, e4, rfl⟩ := forms hc
          simp only [mv] at hc hi ho hg ⊢
          have SIT2 := hide (Sit.event SIT.out U3.out.1 hi ho hc hg)
          have RO2 := hide (Rec.ints RO.out.1 RO.out.2 op_int hi)
          replace RY := hide (And.intro (Rec.ints RY.out.1 RY.out.2 mach_int hi) (RY.out.2.ints mach_int hi))
          clear hc hi ho hg
          have hHeld2 : Rec u3.heap.size [.slice (some ⟨f1, g1, none⟩) ra.length h1, .int .i64 pa, .slice (some ⟨f2, g2, none⟩) ma.length h2, .int .i64 sa, .bool la, .bool wa, .int .i64 ha1, .slice (some ⟨f3, g3, none⟩) ia.length h3, .slice (some ⟨f4, 0, none⟩) oa.length h4, .int .i64 ca] d2 ∧ Rec wr.heap.size [.int .i64 6, .int .i64 x_, .int .i64 y_, .int .i64 k_, .int .i64 t_] d2 ∧ Rec w.heap.size [.int .i64 bp, .int .i64 ln, .slice (some ⟨B, off, none⟩) ops.length cap, .int .i64 en, .int .i64 bx, .int .i64 by_, .int .i64 bk] d2 ∧ Row d2 g (.slice (some ⟨g, 0, none⟩) k cp) vs := ⟨SIT2.out.x.1, RO2.out, SIT2.out.b.1, by have := SIT2.out.row; rw [VL.out] at this; exact this⟩
          refine hK _ _ (fun _ => hHeld2) ?_
          clear hK K hHeld SIT RO RO2
          try simp only [Act.put, List.setIfInBounds_toArray, List.set]
          refine PhaseIn.takeD (i := 12) (v := ?_) [12, 13, 14, 15, 17, 18, 19] 87 rfl (by rfl) (by kernel_rfl) (by kernel_rfl) (by kernel_rfl) (by kernel_rfl) (by kernel_rfl) (fun _ _ _ h => h) (Or.inl ⟨by kernel_rfl, ?_⟩) hHeld2 ?_
          rotate_left
          · intro w' hSw
            (try dsimp only at hSw)
            go_simp
            first | done | with_reducible rfl
          try simp only [Act.put, List.setIfInBounds_toArray, List.set]
          refine PhaseIn.takeD (i := 13) (v := ?_) [13, 17, 18, 19] 100 rfl (by rfl) (by kernel_rfl) (by kernel_rfl) (by kernel_rfl) (by kernel_rfl) (by kernel_rfl) (fun _ _ _ h => h) (Or.inl ⟨by kernel_rfl, ?_⟩) hHeld2 ?_
          rotate_left
          · intro w' hSw
            (try dsimp only at hSw)
            go_simp
            first | done | with_reducible rfl
          try simp only [Act.put, List.setIfInBounds_toArray, List.set]
          refine PhaseIn.takeD (i := 14) (v := ?_) [14, 18, 19] 101 rfl (by rfl) (by kernel_rfl) (by kernel_rfl) (by kernel_rfl) (by kernel_rfl) (by kernel_rfl) (fun _ _ _ h => h) (Or.inl ⟨by kernel_rfl, ?_⟩) hHeld2 ?_
          rotate_left
          · intro w' hSw
            (try dsimp only at hSw)
            go_simp
            first | done | with_reducible rfl
          try simp only [Act.put, List.setIfInBounds_toArray, List.set]
          refine PhaseIn.takeD (i := 15) (v := ?_) [15, 19] 102 rfl (by rfl) (by kernel_rfl) (by kernel_rfl) (by kernel_rfl) (by kernel_rfl) (by kernel_rfl) (fun _ _ _ h => h) (Or.inl ⟨by kernel_rfl, ?_⟩) hHeld2 ?_
          rotate_left
          · intro w' hSw
            (try dsimp only at hSw)
            go_simp
            first | done | with_reducible rfl
          try simp only [Act.put, List.setIfInBounds_toArray, List.set]
          have z0 := RY.out.1.cell 0 _ rfl
          have s0 := RY.out.1.soft 0
          have z1 := RY.out.1.cell 1 _ rfl
          have s1 := RY.out.1.soft 1
          have z2 := RY.out.1.cell 2 _ rfl
          have s2 := RY.out.1.soft 2
          have z3 := RY.out.1.cell 3 _ rfl
          have s3 := RY.out.1.soft 3
          have z4 := RY.out.1.cell 4 _ rfl
          have s4 := RY.out.1.soft 4
          have z5 := RY.out.1.cell 5 _ rfl
          have s5 := RY.out.1.soft 5
          have z6 := RY.out.1.cell 6 _ rfl
          have s6 := RY.out.1.soft 6
          have z7 := RY.out.1.cell 7 _ rfl
          have s7 := RY.out.1.soft 7
          have z8 := RY.out.1.cell 8 _ rfl
          have s8 := RY.out.1.soft 8
          have z9 := RY.out.1.cell 9 _ rfl
          have s9 := RY.out.1.soft 9
          refine PhaseIn.one (i := 17) (by kernel_rfl) rfl (by kernel_rfl) (fun K hK => ?_)
          unfold Oper.wpIn
          refine ⟨fun _ _ => trivial, ?_⟩
          go_simp
          have SIT3 := hide (Sit.box SIT2.out (turn_ten Y d2 (.slice (some ⟨i1, j1, none⟩) mm.regs.length e1) (.int .i64 mm.pc) (.slice (some ⟨i2, j2, none⟩) mm.mem.length e2) (.int .i64 mm.save) (.bool mm.lets) (.bool mm.waits) (.int .i64 mm.halt) (.slice (some ⟨i3, j3, none⟩) mm.ins.length e3) (.slice (some ⟨i4, 0, none⟩) mm.outs.length e4) (.int .i64 mm.count)) RY.out.2 XY.out.1 XY.out.2.1)
          have hHeld3 : Rec u3.heap.size [.slice (some ⟨f1, g1, none⟩) ra.length h1, .int .i64 pa, .slice (some ⟨f2, g2, none⟩) ma.length h2, .int .i64 sa, .bool la, .bool wa, .int .i64 ha1, .slice (some ⟨f3, g3, none⟩) ia.length h3, .slice (some ⟨f4, 0, none⟩) oa.length h4, .int .i64 ca] ((((((((((d2.setCell ⟨Y, 0, none⟩ (.slice (some ⟨i1, j1, none⟩) mm.regs.length e1)).setCell ⟨Y, 1, none⟩ (.int .i64 mm.pc)).setCell ⟨Y, 2, none⟩ (.slice (some ⟨i2, j2, none⟩) mm.mem.length e2)).setCell ⟨Y, 3, none⟩ (.int .i64 mm.save)).setCell ⟨Y, 4, none⟩ (.bool mm.lets)).setCell ⟨Y, 5, none⟩ (.bool mm.waits)).setCell ⟨Y, 6, none⟩ (.int .i64 mm.halt)).setCell ⟨Y, 7, none⟩ (.slice (some ⟨i3, j3, none⟩) mm.ins.length e3)).setCell ⟨Y, 8, none⟩ (.slice (some ⟨i4, 0, none⟩) mm.outs.length e4)).setCell ⟨Y, 9, none⟩ (.int .i64 mm.count)) ∧ Rec wr.heap.size [.int .i64 6, .int .i64 x_, .int .i64 y_, .int .i64 k_, .int .i64 t_] ((((((((((d2.setCell ⟨Y, 0, none⟩ (.slice (some ⟨i1, j1, none⟩) mm.regs.length e1)).setCell ⟨Y, 1, none⟩ (.int .i64 mm.pc)).setCell ⟨Y, 2, none⟩ (.slice (some ⟨i2, j2, none⟩) mm.mem.length e2)).setCell ⟨Y, 3, none⟩ (.int .i64 mm.save)).setCell ⟨Y, 4, none⟩ (.bool mm.lets)).setCell ⟨Y, 5, none⟩ (.bool mm.waits)).setCell ⟨Y, 6, none⟩ (.int .i64 mm.halt)).setCell ⟨Y, 7, none⟩ (.slice (some ⟨i3, j3, none⟩) mm.ins.length e3)).setCell ⟨Y, 8, none⟩ (.slice (some ⟨i4, 0, none⟩) mm.outs.length e4)).setCell ⟨Y, 9, none⟩ (.int .i64 mm.count)) ∧ Rec w.heap.size [.int .i64 bp, .int .i64 ln, .slice (some ⟨B, off, none⟩) ops.length cap, .int .i64 en, .int .i64 bx, .int .i64 by_, .int .i64 bk] ((((((((((d2.setCell ⟨Y, 0, none⟩ (.slice (some ⟨i1, j1, none⟩) mm.regs.length e1)).setCell ⟨Y, 1, none⟩ (.int .i64 mm.pc)).setCell ⟨Y, 2, none⟩ (.slice (some ⟨i2, j2, none⟩) mm.mem.length e2)).setCell ⟨Y, 3, none⟩ (.int .i64 mm.save)).setCell ⟨Y, 4, none⟩ (.bool mm.lets)).setCell ⟨Y, 5, none⟩ (.bool mm.waits)).setCell ⟨Y, 6, none⟩ (.int .i64 mm.halt)).setCell ⟨Y, 7, none⟩ (.slice (some ⟨i3, j3, none⟩) mm.ins.length e3)).setCell ⟨Y, 8, none⟩ (.slice (some ⟨i4, 0, none⟩) mm.outs.length e4)).setCell ⟨Y, 9, none⟩ (.int .i64 mm.count)) ∧ Row ((((((((((d2.setCell ⟨Y, 0, none⟩ (.slice (some ⟨i1, j1, none⟩) mm.regs.length e1)).setCell ⟨Y, 1, none⟩ (.int .i64 mm.pc)).setCell ⟨Y, 2, none⟩ (.slice (some ⟨i2, j2, none⟩) mm.mem.length e2)).setCell ⟨Y, 3, none⟩ (.int .i64 mm.save)).setCell ⟨Y, 4, none⟩ (.bool mm.lets)).setCell ⟨Y, 5, none⟩ (.bool mm.waits)).setCell ⟨Y, 6, none⟩ (.int .i64 mm.halt)).setCell ⟨Y, 7, none⟩ (.slice (some ⟨i3, j3, none⟩) mm.ins.length e3)).setCell ⟨Y, 8, none⟩ (.slice (some ⟨i4, 0, none⟩) mm.outs.length e4)).setCell ⟨Y, 9, none⟩ (.int .i64 mm.count)) g (.slice (some ⟨g, 0, none⟩) k cp) vs := ⟨SIT3.out.x.1, hHeld2.2.1.turn (turn_ten Y d2 (.slice (some ⟨i1, j1, none⟩) mm.regs.length e1) (.int .i64 mm.pc) (.slice (some ⟨i2, j2, none⟩) mm.mem.length e2) (.int .i64 mm.save) (.bool mm.lets) (.bool mm.waits) (.int .i64 mm.halt) (.slice (some ⟨i3, j3, none⟩) mm.ins.length e3) (.slice (some ⟨i4, 0, none⟩) mm.outs.length e4) (.int .i64 mm.count)) XY.out.2.2, SIT3.out.b.1, by have := SIT3.out.row; rw [VL.out] at this; exact this⟩
          refine hK _ _ (fun _ => hHeld3) ?_
          clear hK K hHeld2 z0 s0 z1 s1 z2 s2 z3 s3 z4 s4 z5 s5 z6 s6 z7 s7 z8 s8 z9 s9
          try simp only [Act.put, List.setIfInBounds_toArray, List.set]
          replace RY := hide (And.intro (rec_ten RY.out.1 (.slice (some ⟨i1, j1, none⟩) mm.regs.length e1) (.int .i64 mm.pc) (.slice (some ⟨i2, j2, none⟩) mm.mem.length e2) (.int .i64 mm.save) (.bool mm.lets) (.bool mm.waits) (.int .i64 mm.halt) (.slice (some ⟨i3, j3, none⟩) mm.ins.length e3) (.slice (some ⟨i4, 0, none⟩) mm.outs.length e4) (.int .i64 mm.count)) (type_ten (Z := Y) RY.out.2 (.slice (some ⟨i1, j1, none⟩) mm.regs.length e1) (.int .i64 mm.pc) (.slice (some ⟨i2, j2, none⟩) mm.mem.length e2) (.int .i64 mm.save) (.bool mm.lets) (.bool mm.waits) (.int .i64 mm.halt) (.slice (some ⟨i3, j3, none⟩) mm.ins.length e3) (.slice (some ⟨i4, 0, none⟩) mm.outs.length e4) (.int .i64 mm.count)))
          clear SIT2
          generalize ((((((((((d2.setCell ⟨Y, 0, none⟩ (.slice (some ⟨i1, j1, none⟩) mm.regs.length e1)).setCell ⟨Y, 1, none⟩ (.int .i64 mm.pc)).setCell ⟨Y, 2, none⟩ (.slice (some ⟨i2, j2, none⟩) mm.mem.length e2)).setCell ⟨Y, 3, none⟩ (.int .i64 mm.save)).setCell ⟨Y, 4, none⟩ (.bool mm.lets)).setCell ⟨Y, 5, none⟩ (.bool mm.waits)).setCell ⟨Y, 6, none⟩ (.int .i64 mm.halt)).setCell ⟨Y, 7, none⟩ (.slice (some ⟨i3, j3, none⟩) mm.ins.length e3)).setCell ⟨Y, 8, none⟩ (.slice (some ⟨i4, 0, none⟩) mm.outs.length e4)).setCell ⟨Y, 9, none⟩ (.int .i64 mm.count)) = d3 at SIT3 RY hHeld3 ⊢
          refine PhaseIn.takeD (i := 18) (v := ?_) [18, 19] 12 rfl (by rfl) (by kernel_rfl) (by kernel_rfl) (by kernel_rfl) (by kernel_rfl) (by kernel_rfl) (fun _ _ _ h => h) (Or.inl ⟨by kernel_rfl, ?_⟩) hHeld3 ?_
          rotate_left
          · intro w' hSw
            (try dsimp only at hSw)
            go_simp
            first | done | with_reducible rfl
          try simp only [Act.put, List.setIfInBounds_toArray, List.set]
          refine PhaseIn.late (i := 19) (v := ?_) (by kernel_rfl) rfl 13 (by rfl) (by omega) (Or.inl ⟨by kernel_rfl, ?_⟩) ?_
          rotate_left
          · intro w' hSw
            go_simp
            first | done | with_reducible rfl
          try simp only [Act.put, List.setIfInBounds_toArray, List.set]
          refine PhaseIn.done (by kernel_rfl) ?_ _
          clear hHeld3
          have y0 := RY.out.1.cell 0 _ rfl
          have y1 := RY.out.1.cell 1 _ rfl
          have y2 := RY.out.1.cell 2 _ rfl
          have y3 := RY.out.1.cell 3 _ rfl
          have y4 := RY.out.1.cell 4 _ rfl
          have y5 := RY.out.1.cell 5 _ rfl
          have y6 := RY.out.1.cell 6 _ rfl
          have y7 := RY.out.1.cell 7 _ rfl
          have y8 := RY.out.1.cell 8 _ rfl
          have y9 := RY.out.1.cell 9 _ rfl
          cases lf with
          | true =>
            have RD : Hid (R = mm) := show _ = _ by
              rw [RS.out]
              simp only [runM]
              rw [NW.out]
              rfl
            have ZB : Hid (Box (w.heap.size + 1 + 1) 30 [.slice none 0 0, .int .i64 0, .slice none 0 0, .int .i64 0, .bool false, .bool false, .int .i64 0, .slice none 0 0, .slice none 0 0, .int .i64 0] d3) := ⟨SIT3.out.z.1, SIT3.out.z.2⟩
            have ZN : Hid (w.heap.size + 1 + 1 ∉ mb [.slice (some ⟨i1, j1, none⟩) mm.regs.length e1, .int .i64 mm.pc, .slice (some ⟨i2, j2, none⟩) mm.mem.length e2, .int .i64 mm.save, .bool mm.lets, .bool mm.waits, .int .i64 mm.halt, .slice (some ⟨i3, j3, none⟩) mm.ins.length e3, .slice (some ⟨i4, 0, none⟩) mm.outs.length e4, .int .i64 mm.count]) := fun e => (SIT3.out.z.2.ne (SIT3.out.mach.mb_int _ e) mach_int) rfl
            go_wp2_with (refine wpList_lay rfl rfl _ _ rfl (w.heap.size + 1 + 1) _ _ _ _ _ _ _ _ _ _ ZB.out rfl _ _ _ _ _ _ _ _ _ _ _ _ _ _ _ _ _ _ rfl ?_; intro u9 RB TB; refine Hid.out ?_)
            have HC9 := hide ((SIT3.out.mach.turnI TB.out ZN.out).lowI U3.out.1)
            have BW9 := hide (SIT3.out.bw.trans (TB.out.below (by omega) (Nat.le_of_lt SIT3.out.b.2.lt)))
            have z0 := RB.out.r.cell 0 _ rfl
            have z1 := RB.out.r.cell 1 _ rfl
            have z2 := RB.out.r.cell 2 _ rfl
            have z3 := RB.out.r.cell 3 _ rfl
            have z4 := RB.out.r.cell 4 _ rfl
            have z5 := RB.out.r.cell 5 _ rfl
            have z6 := RB.out.r.cell 6 _ rfl
            have z7 := RB.out.r.cell 7 _ rfl
            have z8 := RB.out.r.cell 8 _ rfl
            have z9 := RB.out.r.cell 9 _ rfl
            clear RB TB SIT3 ZB ZN RY RS IV IN NW IN2 OFF y0 y1 y2 y3 y4 y5 y6 y7 y8 y9 T7 XY G1 OL XW ER EVE VL
            refine hide ?_
            iterate 11 go_step
            exact bodyPost_ret (v := .tuple #[.agg #[.slice (some ⟨i1, j1, none⟩) mm.regs.length e1, .int .i64 mm.pc, .slice (some ⟨i2, j2, none⟩) mm.mem.length e2, .int .i64 mm.save, .bool mm.lets, .bool mm.waits, .int .i64 mm.halt, .slice (some ⟨i3, j3, none⟩) mm.ins.length e3, .slice (some ⟨i4, 0, none⟩) mm.outs.length e4, .int .i64 mm.count], .bool kk]) (by rw [EQ.out]; simp [results, Tryz.results6, go_sem, z0, z1, z2, z3, z4, z5, z6, z7, z8, z9]) rfl ⟨IR.out [.slice (some ⟨i1, j1, none⟩) mm.regs.length e1, .int .i64 mm.pc, .slice (some ⟨i2, j2, none⟩) mm.mem.length e2, .int .i64 mm.save, .bool mm.lets, .bool mm.waits, .int .i64 mm.halt, .slice (some ⟨i3, j3, none⟩) mm.ins.length e3, .slice (some ⟨i4, 0, none⟩) mm.outs.length e4, .int .i64 mm.count] _ (fun e => by rw [BOTH.out] at e; cases e) (fun _ => by rw [RD.out]; exact HC9.out), BW9.out⟩
          | false =>
            have RS2 : Hid (R = runM ⟨bp, ln, ops, en, bx, by_, bk⟩ (ops.drop (k + 1)) mm (vs ++ [nw])) := show _ = _ by
              rw [RS.out]
              simp only [runM]
              rw [NW.out]
              rfl
            have IV2 : Hid (Inv mm (vs ++ [nw]) ∧ mm.outs.length ≤ 2000000 + k + 1 ∧ mm.count = count) := ⟨IN2.out.1, by have h8 : oa.length ≤ 2000000 + k := IV.out.2.1; have h9 := IN2.out.2.1; omega, (IN2.out.2.2 rfl).trans IV.out.2.2⟩
            have XB : Hid (Box u3.heap.size 30 [.slice (some ⟨f1, g1, none⟩) ra.length h1, .int .i64 pa, .slice (some ⟨f2, g2, none⟩) ma.length h2, .int .i64 sa, .bool la, .bool wa, .int .i64 ha1, .slice (some ⟨f3, g3, none⟩) ia.length h3, .slice (some ⟨f4, 0, none⟩) oa.length h4, .int .i64 ca] d3) := ⟨SIT3.out.x.1, SIT3.out.x.2⟩
            clear RS IV IN NW IN2 OFF
            go_wp2_with (refine wpList_lay rfl rfl _ _ rfl (u3.heap.size) _ _ _ _ _ _ _ _ _ _ XB.out rfl _ _ _ _ _ _ _ _ _ _ _ _ _ _ _ _ _ _ rfl ?_; intro u9 RB TB; refine Hid.out ?_)
            have SIT4 := hide (Sit.self SIT3.out TB.out NX.out RB.out.r RB.out.t)
            have OV := hide SIT4.out.own
            have HC := hide SIT4.out.mach
            have GN := hide SIT4.out.gn
            have RX := hide SIT4.out.x
            have RB := hide SIT4.out.b
            have RZ := hide SIT4.out.z
            have BW := hide SIT4.out.bw
            have LU := hide SIT4.out.lu
            clear SIT3 SIT4 TB XB RY y0 y1 y2 y3 y4 y5 y6 y7 y8 y9
            refine hide ?_
            have bo := alloc_below u9 (.cells #[.int .i64 nw] 3)
            have VT2 := hide OV.out.isT
            have OW := hide (OV.out.turn (Turn.of_below (B := u9.heap.size) bo) (Nat.ne_of_lt VT2.out.lt) VT2.out.lt)
            have CN : Hid ((u9.alloc (.cells #[.int .i64 nw] 3)).cell? ((⟨u9.heap.size, 0, none⟩ : Addr).add 0) = some (.int .i64 nw)) := show _ = _ by
              rw [Go.WideShapes.add_plain]
              have h9 := World.cell?_alloc_new u9 #[.int .i64 nw] 3 0
              first | exact h9 | simpa using h9
            have LO : Hid (u2.heap.size ≤ (u9.alloc (.cells #[.int .i64 nw] 3)).heap.size) := Nat.le_trans LU.out bo.size
            have VLE : vs.length ≤ 1000000000000 := by rw [VL.out]; omega
            go_wp2_with (at_builtin; refine wpList_push rfl _ _ rfl u2.heap.size g cp vs (by rw [VL.out]; rfl) OW.out LO.out _ nw rfl CN.out VLE ?_; intro g9 c9 u9 ho9 hor9 hlt9 ht9; refine Hid.out ?_)
            have X9 : Hid (u3.heap.size ≠ g ∧ w.heap.size ≠ g ∧ w.heap.size + 1 + 1 ≠ g) := ⟨RX.out.2.ne VT2.out mach_int, RB.out.2.ne VT2.out block_int, RZ.out.2.ne VT2.out mach_int⟩
            have GN9 : Hid (g9 ∉ mb [.slice (some ⟨i1, j1, none⟩) mm.regs.length e1, .int .i64 mm.pc, .slice (some ⟨i2, j2, none⟩) mm.mem.length e2, .int .i64 mm.save, .bool mm.lets, .bool mm.waits, .int .i64 mm.halt, .slice (some ⟨i3, j3, none⟩) mm.ins.length e3, .slice (some ⟨i4, 0, none⟩) mm.outs.length e4, .int .i64 mm.count]) := fun hg => by
              rcases hor9 with e | e
              · exact GN.out (by rw [← e]; exact hg)
              · exact absurd (Nat.lt_of_lt_of_le (HC.out.mb_lt g9 hg).2 bo.size) (Nat.not_lt.2 e)
            have LG : Hid (u2.heap.size ≤ g) := show _ ≤ _ by
              obtain ⟨g', cp', ev, hl, _, _⟩ := OV.out.form (by simp)
              cases ev
              exact hl
            replace HC := hide ((HC.out.below bo).turnI ht9 GN.out)
            replace RX := hide (And.intro ((RX.out.1.below bo).turn ht9 X9.out.1) ((RX.out.2.below bo).turn ht9 X9.out.1))
            replace RB := hide (And.intro ((RB.out.1.below bo).turn ht9 X9.out.2.1) ((RB.out.2.below bo).turn ht9 X9.out.2.1))
            replace RZ := hide (And.intro ((RZ.out.1.below bo).turn ht9 X9.out.2.2) ((RZ.out.2.below bo).turn ht9 X9.out.2.2))
            replace BW := hide ((BW.out.trans (bo.mono BW.out.size)).trans (ht9.below (Nat.le_trans U3.out.1 LG.out) (Nat.le_trans BW.out.size bo.size)))
            replace LU := hide (Nat.le_trans (Nat.le_trans LU.out bo.size) ht9.size)
            have OV9 := hide ho9
            have VL9 : Hid ((vs ++ [nw]).length = k + 1) := show _ = _ by rw [List.length_append, VL.out]; rfl
            clear bo VT2 OW CN LO ho9 hor9 hlt9 ht9 GN OV X9 LG
            refine hide ?_
            go_wp2
            exact ⟨⟨k + 1, g9, c9, vs ++ [nw], [.slice (some ⟨i1, j1, none⟩) mm.regs.length e1, .int .i64 mm.pc, .slice (some ⟨i2, j2, none⟩) mm.mem.length e2, .int .i64 mm.save, .bool mm.lets, .bool mm.waits, .int .i64 mm.halt, .slice (some ⟨i3, j3, none⟩) mm.ins.length e3, .slice (some ⟨i4, 0, none⟩) mm.outs.length e4, .int .i64 mm.count], mm, by omega, by go_num, by rw [VL.out], VL9, OV9, HC, GN9, RX, RB, RZ, BW, RS2, IV2, LU⟩, by simp [intOf]; omega⟩

      · obtain ⟨mm, nw, lf, er⟩ : ∃ mm nw lf, evM ⟨bp, ln, ops, en, bx, by_, bk⟩ ⟨ra, pa, ma, sa, la, wa, ha1, ia, oa, ca⟩ ⟨7, x_, y_, k_, t_⟩ (atI vs x_) (atI vs y_) = (mm, nw, lf) := ⟨_, _, _, rfl⟩
        have NW : Hid (stepM ⟨bp, ln, ops, en, bx, by_, bk⟩ ⟨ra, pa, ma, sa, la, wa, ha1, ia, oa, ca⟩ vs ⟨7, x_, y_, k_, t_⟩ = (mm, nw, lf)) := show _ = _ by
          rw [← er]
          rfl
        have IN2 := hide (show Inv mm (vs ++ [nw]) ∧ mm.outs.length ≤ oa.length + 1 ∧ (lf = false → mm.count = ca) by have h9 := IN.out; rw [NW.out] at h9; exact h9)
        have G1 : Hid (Go1 ⟨ra, pa, ma, sa, la, wa, ha1, ia, oa, ca⟩ ⟨bp, ln, ops, en, bx, by_, bk⟩) := ⟨IV.out.1.regs, IV.out.1.mem, by have h8 : ca = count := IV.out.2.2; show 0 ≤ ca; omega, by have h8 : ca = count := IV.out.2.2; show ca ≤ 1000000; omega, p0, p64, (show (0 : Int) ≤ ln by omega), l8⟩
        have OL : Hid (oa.length ≤ 1000000000) := show _ ≤ _ by have h8 : oa.length ≤ 2000000 + k := IV.out.2.1; omega
        have XW := hide (at_w IV.out.1.vw x_).1
        have ER := hide er
        clear er
        go_wp2_with fail
        refine (wpIn_wide (n := 0)).1 ?_
        generalize (wr.alloc (.cells #[.int .i64 7, .int .i64 x_, .int .i64 y_, .int .i64 k_, .int .i64 t_] 49)) = d0 at RX RB RZ RO OV HC BW LU ⊢
        have bA : Below d0.heap.size d0 d0.drew := (Below.refl _ _).drew
        have SIT := hide (Sit.below (show Sit w d0 w.heap.size u3.heap.size u2.heap.size g cp [.int .i64 bp, .int .i64 ln, .slice (some ⟨B, off, none⟩) ops.length cap, .int .i64 en, .int .i64 bx, .int .i64 by_, .int .i64 bk] [.slice none 0 0, .int .i64 0, .slice none 0 0, .int .i64 0, .bool false, .bool false, .int .i64 0, .slice none 0 0, .slice none 0 0, .int .i64 0] [.slice (some ⟨f1, g1, none⟩) ra.length h1, .int .i64 pa, .slice (some ⟨f2, g2, none⟩) ma.length h2, .int .i64 sa, .bool la, .bool wa, .int .i64 ha1, .slice (some ⟨f3, g3, none⟩) ia.length h3, .slice (some ⟨f4, 0, none⟩) oa.length h4, .int .i64 ca] [.slice (some ⟨f1, g1, none⟩) ra.length h1, .int .i64 pa, .slice (some ⟨f2, g2, none⟩) ma.length h2, .int .i64 sa, .bool la, .bool wa, .int .i64 ha1, .slice (some ⟨f3, g3, none⟩) ia.length h3, .slice (some ⟨f4, 0, none⟩) oa.length h4, .int .i64 ca] ⟨ra, pa, ma, sa, la, wa, ha1, ia, oa, ca⟩ vs from ⟨OV.out, HC.out, GN.out, RX.out, RB.out, RZ.out, BW.out, LU.out⟩) bA)
        replace RO := hide (And.intro (RO.out.1.below bA) (RO.out.2.below bA))
        clear bA OV HC GN RX RB RZ BW LU
        refine PhaseIn.region (S := fun D => Rec u3.heap.size [.slice (some ⟨f1, g1, none⟩) ra.length h1, .int .i64 pa, .slice (some ⟨f2, g2, none⟩) ma.length h2, .int .i64 sa, .bool la, .bool wa, .int .i64 ha1, .slice (some ⟨f3, g3, none⟩) ia.length h3, .slice (some ⟨f4, 0, none⟩) oa.length h4, .int .i64 ca] D ∧ Rec wr.heap.size [.int .i64 7, .int .i64 x_, .int .i64 y_, .int .i64 k_, .int .i64 t_] D ∧ Rec w.heap.size [.int .i64 bp, .int .i64 ln, .slice (some ⟨B, off, none⟩) ops.length cap, .int .i64 en, .int .i64 bx, .int .i64 by_, .int .i64 bk] D ∧ Row D g (.slice (some ⟨g, 0, none⟩) k cp) vs) 19 (by kernel_rfl) ?_
        generalize d0.drew = d1 at SIT RO ⊢
        have hHeld : Rec u3.heap.size [.slice (some ⟨f1, g1, none⟩) ra.length h1, .int .i64 pa, .slice (some ⟨f2, g2, none⟩) ma.length h2, .int .i64 sa, .bool la, .bool wa, .int .i64 ha1, .slice (some ⟨f3, g3, none⟩) ia.length h3, .slice (some ⟨f4, 0, none⟩) oa.length h4, .int .i64 ca] d1 ∧ Rec wr.heap.size [.int .i64 7, .int .i64 x_, .int .i64 y_, .int .i64 k_, .int .i64 t_] d1 ∧ Rec w.heap.size [.int .i64 bp, .int .i64 ln, .slice (some ⟨B, off, none⟩) ops.length cap, .int .i64 en, .int .i64 bx, .int .i64 by_, .int .i64 bk] d1 ∧ Row d1 g (.slice (some ⟨g, 0, none⟩) k cp) vs := ⟨SIT.out.x.1, RO.out.1, SIT.out.b.1, by have := SIT.out.row; rw [VL.out] at this; exact this⟩
        have x0 : (0 : Int) ≤ x_ := OFF.out.x.1
        have x1 : x_ ≤ 1000 := by have h9 : x_ ≤ 48 := OFF.out.x.2; omega
        have y0 : (0 : Int) ≤ y_ := OFF.out.y.1
        have y1 : y_ ≤ 1000 := by have h9 : y_ ≤ 48 := OFF.out.y.2; omega
        have T7 : Hid ((0 : Int) ≤ t_ ∧ t_ ≤ 7) := OFF.out.t
        have EV := l6Event ⟨ra, pa, ma, sa, la, wa, ha1, ia, oa, ca⟩ ⟨bp, ln, ops, en, bx, by_, bk⟩ (some ⟨B, off, none⟩) ops.length cap ⟨7, x_, y_, k_, t_⟩ (atI vs x_) (atI vs y_) u2.heap.size [.slice (some ⟨f1, g1, none⟩) ra.length h1, .int .i64 pa, .slice (some ⟨f2, g2, none⟩) ma.length h2, .int .i64 sa, .bool la, .bool wa, .int .i64 ha1, .slice (some ⟨f3, g3, none⟩) ia.length h3, .slice (some ⟨f4, 0, none⟩) oa.length h4, .int .i64 ca]
        rw [ER.out] at EV
        have EVE := hide EV
        clear EV
        refine PhaseIn.takeD (i := 0) (v := ?_) [0, 11, 12, 13, 14, 15, 17, 18, 19] 88 rfl (by rfl) (by kernel_rfl) (by kernel_rfl) (by kernel_rfl) (by kernel_rfl) (by kernel_rfl) (fun _ _ _ h => h) (Or.inl ⟨by kernel_rfl, ?_⟩) hHeld ?_
        rotate_left
        · intro w' hSw
          (try dsimp only at hSw)
          have z0 := hSw.1.cell 0 _ rfl; have z1 := hSw.1.cell 1 _ rfl; have z2 := hSw.1.cell 2 _ rfl; have z3 := hSw.1.cell 3 _ rfl; have z4 := hSw.1.cell 4 _ rfl; have z5 := hSw.1.cell 5 _ rfl; have z6 := hSw.1.cell 6 _ rfl; have z7 := hSw.1.cell 7 _ rfl; have z8 := hSw.1.cell 8 _ rfl; have z9 := hSw.1.cell 9 _ rfl
          go_simp
          first | done | with_reducible rfl
        try simp only [Act.put, List.setIfInBounds_toArray, List.set]
        refine PhaseIn.takeD (i := 1) (v := ?_) [1, 11, 12, 13, 14, 15, 17, 18, 19] 89 rfl (by rfl) (by kernel_rfl) (by kernel_rfl) (by kernel_rfl) (by kernel_rfl) (by kernel_rfl) (fun _ _ _ h => h) (Or.inl ⟨by kernel_rfl, ?_⟩) hHeld ?_
        rotate_left
        · intro w' hSw
          (try dsimp only at hSw)
          have z0 := hSw.2.2.1.cell 0 _ rfl; have z1 := hSw.2.2.1.cell 1 _ rfl; have z2 := hSw.2.2.1.cell 2 _ rfl; have z3 := hSw.2.2.1.cell 3 _ rfl; have z4 := hSw.2.2.1.cell 4 _ rfl; have z5 := hSw.2.2.1.cell 5 _ rfl; have z6 := hSw.2.2.1.cell 6 _ rfl
          go_simp
          first | done | with_reducible rfl
        try simp only [Act.put, List.setIfInBounds_toArray, List.set]
        refine PhaseIn.takeD (i := 2) (v := ?_) [2, 11, 12, 13, 14, 15, 17, 18, 19] 90 rfl (by rfl) (by kernel_rfl) (by kernel_rfl) (by kernel_rfl) (by kernel_rfl) (by kernel_rfl) (fun _ _ _ h => h) (Or.inl ⟨by kernel_rfl, ?_⟩) hHeld ?_
        rotate_left
        · intro w' hSw
          (try dsimp only at hSw)
          have z0 := hSw.2.1.cell 0 _ rfl; have z1 := hSw.2.1.cell 1 _ rfl; have z2 := hSw.2.1.cell 2 _ rfl; have z3 := hSw.2.1.cell 3 _ rfl; have z4 := hSw.2.1.cell 4 _ rfl
          go_simp
          first | done | with_reducible rfl
        try simp only [Act.put, List.setIfInBounds_toArray, List.set]
        refine PhaseIn.takeD (i := 3) (v := ?_) [3, 6, 10, 11, 12, 13, 14, 15, 17, 18, 19] 91 rfl (by rfl) (by kernel_rfl) (by kernel_rfl) (by kernel_rfl) (by kernel_rfl) (by kernel_rfl) (fun _ _ _ h => h) (Or.inl ⟨by kernel_rfl, ?_⟩) hHeld ?_
        rotate_left
        · intro w' hSw
          (try dsimp only at hSw)
          go_simp
          first | done | with_reducible rfl
        try simp only [Act.put, List.setIfInBounds_toArray, List.set]
        refine PhaseIn.takeD (i := 4) (v := ?_) [4, 5, 6, 10, 11, 12, 13, 14, 15, 17, 18, 19] 92 rfl (by rfl) (by kernel_rfl) (by kernel_rfl) (by kernel_rfl) (by kernel_rfl) (by kernel_rfl) (fun _ _ _ h => h) (Or.inl ⟨by kernel_rfl, ?_⟩) hHeld ?_
        rotate_left
        · intro w' hSw
          (try dsimp only at hSw)
          go_simp
          first | done | with_reducible rfl
        try simp only [Act.put, List.setIfInBounds_toArray, List.set]
        refine PhaseIn.takeD (i := 5) (v := ?_) [5, 6, 10, 11, 12, 13, 14, 15, 17, 18, 19] 93 rfl (by rfl) (by kernel_rfl) (by kernel_rfl) (by kernel_rfl) (by kernel_rfl) (by kernel_rfl) (fun _ _ _ h => h) (Or.inl ⟨by kernel_rfl, ?_⟩) hHeld ?_
        rotate_left
        · intro w' hSw
          (try dsimp only at hSw)
          have z1 := hSw.2.1.cell 1 _ rfl
          go_simp
          first | done | with_reducible rfl
        try simp only [Act.put, List.setIfInBounds_toArray, List.set]
        refine PhaseIn.takeC (i := 6) (v := .int .i64 (atI vs x_)) [6, 10, 11, 12, 13, 14, 15, 17, 18, 19] 94 21 #[.slice (some ⟨g, 0, none⟩) k cp, .int .i64 x_] rfl (by rfl) (by kernel_rfl) (by kernel_rfl) (by kernel_rfl) (by kernel_rfl) (by kernel_rfl) (fun _ _ _ h => h) (by kernel_rfl) ?_ (fun w' hSw => l5At vs x_ x0 x1 _ _ _ hSw.2.2.2) hHeld ?_
        · intro w' hSw
          go_simp
          first | done | with_reducible rfl
        try simp only [Act.put, List.setIfInBounds_toArray, List.set]
        refine PhaseIn.takeD (i := 7) (v := ?_) [7, 10, 11, 12, 13, 14, 15, 17, 18, 19] 95 rfl (by rfl) (by kernel_rfl) (by kernel_rfl) (by kernel_rfl) (by kernel_rfl) (by kernel_rfl) (fun _ _ _ h => h) (Or.inl ⟨by kernel_rfl, ?_⟩) hHeld ?_
        rotate_left
        · intro w' hSw
          (try dsimp only at hSw)
          go_simp
          first | done | with_reducible rfl
        try simp only [Act.put, List.setIfInBounds_toArray, List.set]
        refine PhaseIn.takeD (i := 8) (v := ?_) [8, 9, 10, 11, 12, 13, 14, 15, 17, 18, 19] 96 rfl (by rfl) (by kernel_rfl) (by kernel_rfl) (by kernel_rfl) (by kernel_rfl) (by kernel_rfl) (fun _ _ _ h => h) (Or.inl ⟨by kernel_rfl, ?_⟩) hHeld ?_
        rotate_left
        · intro w' hSw
          (try dsimp only at hSw)
          go_simp
          first | done | with_reducible rfl
        try simp only [Act.put, List.setIfInBounds_toArray, List.set]
        refine PhaseIn.takeD (i := 9) (v := ?_) [9, 10, 11, 12, 13, 14, 15, 17, 18, 19] 97 rfl (by rfl) (by kernel_rfl) (by kernel_rfl) (by kernel_rfl) (by kernel_rfl) (by kernel_rfl) (fun _ _ _ h => h) (Or.inl ⟨by kernel_rfl, ?_⟩) hHeld ?_
        rotate_left
        · intro w' hSw
          (try dsimp only at hSw)
          have z2 := hSw.2.1.cell 2 _ rfl
          go_simp
          first | done | with_reducible rfl
        try simp only [Act.put, List.setIfInBounds_toArray, List.set]
        refine PhaseIn.takeC (i := 10) (v := .int .i64 (atI vs y_)) [10, 11, 12, 13, 14, 15, 17, 18, 19] 98 21 #[.slice (some ⟨g, 0, none⟩) k cp, .int .i64 y_] rfl (by rfl) (by kernel_rfl) (by kernel_rfl) (by kernel_rfl) (by kernel_rfl) (by kernel_rfl) (fun _ _ _ h => h) (by kernel_rfl) ?_ (fun w' hSw => l5At vs y_ y0 y1 _ _ _ hSw.2.2.2) hHeld ?_
        · intro w' hSw
          go_simp
          first | done | with_reducible rfl
        try simp only [Act.put, List.setIfInBounds_toArray, List.set]
        refine PhaseIn.two (i := 11) (j := 16) (by kernel_rfl) rfl rfl (by kernel_rfl) (by kernel_rfl) (fun K hK => ?_) (fun K hK => ?_)
        · unfold Oper.wpIn
          refine ⟨fun _ _ => trivial, ?_⟩
          go_simp
          refine ⟨rfl, (callsIn_wide.2 (EVE.out _ SIT.out.mach G1.out OL.out (show (4 : Int) ≤ 7 ∧ (7 : Int) ≤ 7 by omega) XW.out T7.out.1 T7.out.2)).mono ?_⟩
          rintro e dd ⟨c', rfl, hc, hi, ho, hg⟩
          obtain ⟨i1, j1, e1, i2, j2, e2, i3, j3, e3, i4, e4, rfl⟩ := forms hc
          simp only [mv] at hc hi ho hg ⊢
          have SIT2 := hide (Sit.event SIT.out U3.out.1 hi ho hc hg)
          have RO2 := hide (Rec.ints RO.out.1 RO.out.2 op_int hi)
          clear hc hi ho hg
          have hHeld2 : Rec u3.heap.size [.slice (some ⟨f1, g1, none⟩) ra.length h1, .int .i64 pa, .slice (some ⟨f2, g2, none⟩) ma.length h2, .int .i64 sa, .bool la, .bool wa, .int .i64 ha1, .slice (some ⟨f3, g3, none⟩) ia.length h3, .slice (some ⟨f4, 0, none⟩) oa.length h4, .int .i64 ca] dd ∧ Rec wr.heap.size [.int .i64 7, .int .i64 x_, .int .i64 y_, .int .i64 k_, .int .i64 t_] dd ∧ Rec w.heap.size [.int .i64 bp, .int .i64 ln, .slice (some ⟨B, off, none⟩) ops.length cap, .int .i64 en, .int .i64 bx, .int .i64 by_, .int .i64 bk] dd ∧ Row dd g (.slice (some ⟨g, 0, none⟩) k cp) vs := ⟨SIT2.out.x.1, RO2.out, SIT2.out.b.1, by have := SIT2.out.row; rw [VL.out] at this; exact this⟩
          refine hK _ _ (fun _ => hHeld2) ?_
          clear hK K hHeld SIT RO
          try simp only [Act.put, List.setIfInBounds_toArray, List.set]
          refine PhaseIn.takeD (i := 12) (v := ?_) [12, 13, 14, 15, 17, 18, 19] 87 rfl (by rfl) (by kernel_rfl) (by kernel_rfl) (by kernel_rfl) (by kernel_rfl) (by kernel_rfl) (fun _ _ _ h => h) (Or.inl ⟨by kernel_rfl, ?_⟩) hHeld2 ?_
          rotate_left
          · intro w' hSw
            (try dsimp only at hSw)
            go_simp
            first | done | with_reducible rfl
          try simp only [Act.put, List.setIfInBounds_toArray, List.set]
          refine PhaseIn.takeD (i := 13) (v := ?_) [13, 17, 18, 19] 100 rfl (by rfl) (by kernel_rfl) (by kernel_rfl) (by kernel_rfl) (by kernel_rfl) (by kernel_rfl) (fun _ _ _ h => h) (Or.inl ⟨by kernel_rfl, ?_⟩) hHeld2 ?_
          rotate_left
          · intro w' hSw
            (try dsimp only at hSw)
            go_simp
            first | done | with_reducible rfl
          try simp only [Act.put, List.setIfInBounds_toArray, List.set]
          refine PhaseIn.takeD (i := 14) (v := ?_) [14, 18, 19] 101 rfl (by rfl) (by kernel_rfl) (by kernel_rfl) (by kernel_rfl) (by kernel_rfl) (by kernel_rfl) (fun _ _ _ h => h) (Or.inl ⟨by kernel_rfl, ?_⟩) hHeld2 ?_
          rotate_left
          · intro w' hSw
            (try dsimp only at hSw)
            go_simp
            first | done | with_reducible rfl
          try simp only [Act.put, List.setIfInBounds_toArray, List.set]
          refine PhaseIn.takeD (i := 15) (v := ?_) [15, 19] 102 rfl (by rfl) (by kernel_rfl) (by kernel_rfl) (by kernel_rfl) (by kernel_rfl) (by kernel_rfl) (fun _ _ _ h => h) (Or.inl ⟨by kernel_rfl, ?_⟩) hHeld2 ?_
          rotate_left
          · intro w' hSw
            (try dsimp only at hSw)
            go_simp
            first | done | with_reducible rfl
          try simp only [Act.put, List.setIfInBounds_toArray, List.set]
          refine PhaseIn.one (i := 16) (by kernel_rfl) rfl (by kernel_rfl) (fun K hK => ?_)
          unfold Oper.wpIn
          refine ⟨fun _ _ => trivial, ?_⟩
          go_simp
          have bY := alloc_below dd (.cells #[.slice none 0 0, .int .i64 0, .slice none 0 0, .int .i64 0, .bool false, .bool false, .int .i64 0, .slice none 0 0, .slice none 0 0, .int .i64 0] 30)
          have RY := hide (And.intro (Rec.new dd [.slice none 0 0, .int .i64 0, .slice none 0 0, .int .i64 0, .bool false, .bool false, .int .i64 0, .slice none 0 0, .slice none 0 0, .int .i64 0] 30) (IsT.new dd #[.slice none 0 0, .int .i64 0, .slice none 0 0, .int .i64 0, .bool false, .bool false, .int .i64 0, .slice none 0 0, .slice none 0 0, .int .i64 0] 30))
          have XY : Hid (u3.heap.size ≠ dd.heap.size ∧ w.heap.size + 1 + 1 < dd.heap.size ∧ wr.heap.size ≠ dd.heap.size) := ⟨Nat.ne_of_lt SIT2.out.x.1.lt, SIT2.out.z.1.lt, Nat.ne_of_lt RO2.out.lt⟩
          replace SIT2 := hide (Sit.below SIT2.out bY)
          replace RO2 := hide (RO2.out.below bY)
          clear bY hHeld2
          have hHeld2 : Rec u3.heap.size [.slice (some ⟨f1, g1, none⟩) ra.length h1, .int .i64 pa, .slice (some ⟨f2, g2, none⟩) ma.length h2, .int .i64 sa, .bool la, .bool wa, .int .i64 ha1, .slice (some ⟨f3, g3, none⟩) ia.length h3, .slice (some ⟨f4, 0, none⟩) oa.length h4, .int .i64 ca] (dd.alloc (.cells #[.slice none 0 0, .int .i64 0, .slice none 0 0, .int .i64 0, .bool false, .bool false, .int .i64 0, .slice none 0 0, .slice none 0 0, .int .i64 0] 30)) ∧ Rec wr.heap.size [.int .i64 7, .int .i64 x_, .int .i64 y_, .int .i64 k_, .int .i64 t_] (dd.alloc (.cells #[.slice none 0 0, .int .i64 0, .slice none 0 0, .int .i64 0, .bool false, .bool false, .int .i64 0, .slice none 0 0, .slice none 0 0, .int .i64 0] 30)) ∧ Rec w.heap.size [.int .i64 bp, .int .i64 ln, .slice (some ⟨B, off, none⟩) ops.length cap, .int .i64 en, .int .i64 bx, .int .i64 by_, .int .i64 bk] (dd.alloc (.cells #[.slice none 0 0, .int .i64 0, .slice none 0 0, .int .i64 0, .bool false, .bool false, .int .i64 0, .slice none 0 0, .slice none 0 0, .int .i64 0] 30)) ∧ Row (dd.alloc (.cells #[.slice none 0 0, .int .i64 0, .slice none 0 0, .int .i64 0, .bool false, .bool false, .int .i64 0, .slice none 0 0, .slice none 0 0, .int .i64 0] 30)) g (.slice (some ⟨g, 0, none⟩) k cp) vs := ⟨SIT2.out.x.1, RO2.out, SIT2.out.b.1, by have := SIT2.out.row; rw [VL.out] at this; exact this⟩
          refine hK _ _ (fun _ => hHeld2) ?_
          clear hK K RO2
          try simp only [Act.put, List.setIfInBounds_toArray, List.set]
          generalize dd.alloc (.cells #[.slice none 0 0, .int .i64 0, .slice none 0 0, .int .i64 0, .bool false, .bool false, .int .i64 0, .slice none 0 0, .slice none 0 0, .int .i64 0] 30) = d2 at SIT2 RY hHeld2 ⊢
          generalize dd.heap.size = Y at RY XY ⊢
          have z0 := RY.out.1.cell 0 _ rfl
          have s0 := RY.out.1.soft 0
          have z1 := RY.out.1.cell 1 _ rfl
          have s1 := RY.out.1.soft 1
          have z2 := RY.out.1.cell 2 _ rfl
          have s2 := RY.out.1.soft 2
          have z3 := RY.out.1.cell 3 _ rfl
          have s3 := RY.out.1.soft 3
          have z4 := RY.out.1.cell 4 _ rfl
          have s4 := RY.out.1.soft 4
          have z5 := RY.out.1.cell 5 _ rfl
          have s5 := RY.out.1.soft 5
          have z6 := RY.out.1.cell 6 _ rfl
          have s6 := RY.out.1.soft 6
          have z7 := RY.out.1.cell 7 _ rfl
          have s7 := RY.out.1.soft 7
          have z8 := RY.out.1.cell 8 _ rfl
          have s8 := RY.out.1.soft 8
          have z9 := RY.out.1.cell 9 _ rfl
          have s9 := RY.out.1.soft 9
          refine PhaseIn.one (i := 17) (by kernel_rfl) rfl (by kernel_rfl) (fun K hK => ?_)
          unfold Oper.wpIn
          refine ⟨fun _ _ => trivial, ?_⟩
          go_simp
          have SIT3 := hide (Sit.box SIT2.out (turn_ten Y d2 (.slice (some ⟨i1, j1, none⟩) mm.regs.length e1) (.int .i64 mm.pc) (.slice (some ⟨i2, j2, none⟩) mm.mem.length e2) (.int .i64 mm.save) (.bool mm.lets) (.bool mm.waits) (.int .i64 mm.halt) (.slice (some ⟨i3, j3, none⟩) mm.ins.length e3) (.slice (some ⟨i4, 0, none⟩) mm.outs.length e4) (.int .i64 mm.count)) RY.out.2 XY.out.1 XY.out.2.1)
          have hHeld3 : Rec u3.heap.size [.slice (some ⟨f1, g1, none⟩) ra.length h1, .int .i64 pa, .slice (some ⟨f2, g2, none⟩) ma.length h2, .int .i64 sa, .bool la, .bool wa, .int .i64 ha1, .slice (some ⟨f3, g3, none⟩) ia.length h3, .slice (some ⟨f4, 0, none⟩) oa.length h4, .int .i64 ca] ((((((((((d2.setCell ⟨Y, 0, none⟩ (.slice (some ⟨i1, j1, none⟩) mm.regs.length e1)).setCell ⟨Y, 1, none⟩ (.int .i64 mm.pc)).setCell ⟨Y, 2, none⟩ (.slice (some ⟨i2, j2, none⟩) mm.mem.length e2)).setCell ⟨Y, 3, none⟩ (.int .i64 mm.save)).setCell ⟨Y, 4, none⟩ (.bool mm.lets)).setCell ⟨Y, 5, none⟩ (.bool mm.waits)).setCell ⟨Y, 6, none⟩ (.int .i64 mm.halt)).setCell ⟨Y, 7, none⟩ (.slice (some ⟨i3, j3, none⟩) mm.ins.length e3)).setCell ⟨Y, 8, none⟩ (.slice (some ⟨i4, 0, none⟩) mm.outs.length e4)).setCell ⟨Y, 9, none⟩ (.int .i64 mm.count)) ∧ Rec wr.heap.size [.int .i64 7, .int .i64 x_, .int .i64 y_, .int .i64 k_, .int .i64 t_] ((((((((((d2.setCell ⟨Y, 0, none⟩ (.slice (some ⟨i1, j1, none⟩) mm.regs.length e1)).setCell ⟨Y, 1, none⟩ (.int .i64 mm.pc)).setCell ⟨Y, 2, none⟩ (.slice (some ⟨i2, j2, none⟩) mm.mem.length e2)).setCell ⟨Y, 3, none⟩ (.int .i64 mm.save)).setCell ⟨Y, 4, none⟩ (.bool mm.lets)).setCell ⟨Y, 5, none⟩ (.bool mm.waits)).setCell ⟨Y, 6, none⟩ (.int .i64 mm.halt)).setCell ⟨Y, 7, none⟩ (.slice (some ⟨i3, j3, none⟩) mm.ins.length e3)).setCell ⟨Y, 8, none⟩ (.slice (some ⟨i4, 0, none⟩) mm.outs.length e4)).setCell ⟨Y, 9, none⟩ (.int .i64 mm.count)) ∧ Rec w.heap.size [.int .i64 bp, .int .i64 ln, .slice (some ⟨B, off, none⟩) ops.length cap, .int .i64 en, .int .i64 bx, .int .i64 by_, .int .i64 bk] ((((((((((d2.setCell ⟨Y, 0, none⟩ (.slice (some ⟨i1, j1, none⟩) mm.regs.length e1)).setCell ⟨Y, 1, none⟩ (.int .i64 mm.pc)).setCell ⟨Y, 2, none⟩ (.slice (some ⟨i2, j2, none⟩) mm.mem.length e2)).setCell ⟨Y, 3, none⟩ (.int .i64 mm.save)).setCell ⟨Y, 4, none⟩ (.bool mm.lets)).setCell ⟨Y, 5, none⟩ (.bool mm.waits)).setCell ⟨Y, 6, none⟩ (.int .i64 mm.halt)).setCell ⟨Y, 7, none⟩ (.slice (some ⟨i3, j3, none⟩) mm.ins.length e3)).setCell ⟨Y, 8, none⟩ (.slice (some ⟨i4, 0, none⟩) mm.outs.length e4)).setCell ⟨Y, 9, none⟩ (.int .i64 mm.count)) ∧ Row ((((((((((d2.setCell ⟨Y, 0, none⟩ (.slice (some ⟨i1, j1, none⟩) mm.regs.length e1)).setCell ⟨Y, 1, none⟩ (.int .i64 mm.pc)).setCell ⟨Y, 2, none⟩ (.slice (some ⟨i2, j2, none⟩) mm.mem.length e2)).setCell ⟨Y, 3, none⟩ (.int .i64 mm.save)).setCell ⟨Y, 4, none⟩ (.bool mm.lets)).setCell ⟨Y, 5, none⟩ (.bool mm.waits)).setCell ⟨Y, 6, none⟩ (.int .i64 mm.halt)).setCell ⟨Y, 7, none⟩ (.slice (some ⟨i3, j3, none⟩) mm.ins.length e3)).setCell ⟨Y, 8, none⟩ (.slice (some ⟨i4, 0, none⟩) mm.outs.length e4)).setCell ⟨Y, 9, none⟩ (.int .i64 mm.count)) g (.slice (some ⟨g, 0, none⟩) k cp) vs := ⟨SIT3.out.x.1, hHeld2.2.1.turn (turn_ten Y d2 (.slice (some ⟨i1, j1, none⟩) mm.regs.length e1) (.int .i64 mm.pc) (.slice (some ⟨i2, j2, none⟩) mm.mem.length e2) (.int .i64 mm.save) (.bool mm.lets) (.bool mm.waits) (.int .i64 mm.halt) (.slice (some ⟨i3, j3, none⟩) mm.ins.length e3) (.slice (some ⟨i4, 0, none⟩) mm.outs.length e4) (.int .i64 mm.count)) XY.out.2.2, SIT3.out.b.1, by have := SIT3.out.row; rw [VL.out] at this; exact this⟩
          refine hK _ _ (fun _ => hHeld3) ?_
          clear hK K hHeld2 z0 s0 z1 s1 z2 s2 z3 s3 z4 s4 z5 s5 z6 s6 z7 s7 z8 s8 z9 s9
          try simp only [Act.put, List.setIfInBounds_toArray, List.set]
          replace RY := hide (And.intro (rec_ten RY.out.1 (.slice (some ⟨i1, j1, none⟩) mm.regs.length e1) (.int .i64 mm.pc) (.slice (some ⟨i2, j2, none⟩) mm.mem.length e2) (.int .i64 mm.save) (.bool mm.lets) (.bool mm.waits) (.int .i64 mm.halt) (.slice (some ⟨i3, j3, none⟩) mm.ins.length e3) (.slice (some ⟨i4, 0, none⟩) mm.outs.length e4) (.int .i64 mm.count)) (type_ten (Z := Y) RY.out.2 (.slice (some ⟨i1, j1, none⟩) mm.regs.length e1) (.int .i64 mm.pc) (.slice (some ⟨i2, j2, none⟩) mm.mem.length e2) (.int .i64 mm.save) (.bool mm.lets) (.bool mm.waits) (.int .i64 mm.halt) (.slice (some ⟨i3, j3, none⟩) mm.ins.length e3) (.slice (some ⟨i4, 0, none⟩) mm.outs.length e4) (.int .i64 mm.count)))
          clear SIT2
          generalize ((((((((((d2.setCell ⟨Y, 0, none⟩ (.slice (some ⟨i1, j1, none⟩) mm.regs.length e1)).setCell ⟨Y, 1, none⟩ (.int .i64 mm.pc)).setCell ⟨Y, 2, none⟩ (.slice (some ⟨i2, j2, none⟩) mm.mem.length e2)).setCell ⟨Y, 3, none⟩ (.int .i64 mm.save)).setCell ⟨Y, 4, none⟩ (.bool mm.lets)).setCell ⟨Y, 5, none⟩ (.bool mm.waits)).setCell ⟨Y, 6, none⟩ (.int .i64 mm.halt)).setCell ⟨Y, 7, none⟩ (.slice (some ⟨i3, j3, none⟩) mm.ins.length e3)).setCell ⟨Y, 8, none⟩ (.slice (some ⟨i4, 0, none⟩) mm.outs.length e4)).setCell ⟨Y, 9, none⟩ (.int .i64 mm.count)) = d3 at SIT3 RY hHeld3 ⊢
          refine PhaseIn.takeD (i := 18) (v := ?_) [18, 19] 12 rfl (by rfl) (by kernel_rfl) (by kernel_rfl) (by kernel_rfl) (by kernel_rfl) (by kernel_rfl) (fun _ _ _ h => h) (Or.inl ⟨by kernel_rfl, ?_⟩) hHeld3 ?_
          rotate_left
          · intro w' hSw
            (try dsimp only at hSw)
            go_simp
            first | done | with_reducible rfl
          try simp only [Act.put, List.setIfInBounds_toArray, List.set]
          refine PhaseIn.late (i := 19) (v := ?_) (by kernel_rfl) rfl 13 (by rfl) (by omega) (Or.inl ⟨by kernel_rfl, ?_⟩) ?_
          rotate_left
          · intro w' hSw
            go_simp
            first | done | with_reducible rfl
          try simp only [Act.put, List.setIfInBounds_toArray, List.set]
          refine PhaseIn.done (by kernel_rfl) ?_ _
          clear hHeld3
          have y0 := RY.out.1.cell 0 _ rfl
          have y1 := RY.out.1.cell 1 _ rfl
          have y2 := RY.out.1.cell 2 _ rfl
          have y3 := RY.out.1.cell 3 _ rfl
          have y4 := RY.out.1.cell 4 _ rfl
          have y5 := RY.out.1.cell 5 _ rfl
          have y6 := RY.out.1.cell 6 _ rfl
          have y7 := RY.out.1.cell 7 _ rfl
          have y8 := RY.out.1.cell 8 _ rfl
          have y9 := RY.out.1.cell 9 _ rfl
          cases lf with
          | true =>
            have RD : Hid (R = mm) := show _ = _ by
              rw [RS.out]
              simp only [runM]
              rw [NW.out]
              rfl
            have ZB : Hid (Box (w.heap.size + 1 + 1) 30 [.slice none 0 0, .int .i64 0, .slice none 0 0, .int .i64 0, .bool false, .bool false, .int .i64 0, .slice none 0 0, .slice none 0 0, .int .i64 0] d3) := ⟨SIT3.out.z.1, SIT3.out.z.2⟩
            have ZN : Hid (w.heap.size + 1 + 1 ∉ mb [.slice (some ⟨i1, j1, none⟩) mm.regs.length e1, .int .i64 mm.pc, .slice (some ⟨i2, j2, none⟩) mm.mem.length e2, .int .i64 mm.save, .bool mm.lets, .bool mm.waits, .int .i64 mm.halt, .slice (some ⟨i3, j3, none⟩) mm.ins.length e3, .slice (some ⟨i4, 0, none⟩) mm.outs.length e4, .int .i64 mm.count]) := fun e => (SIT3.out.z.2.ne (SIT3.out.mach.mb_int _ e) mach_int) rfl
            go_wp2_with (refine wpList_lay rfl rfl _ _ rfl (w.heap.size + 1 + 1) _ _ _ _ _ _ _ _ _ _ ZB.out rfl _ _ _ _ _ _ _ _ _ _ _ _ _ _ _ _ _ _ rfl ?_; intro u9 RB TB; refine Hid.out ?_)
            have HC9 := hide ((SIT3.out.mach.turnI TB.out ZN.out).lowI U3.out.1)
            have BW9 := hide (SIT3.out.bw.trans (TB.out.below (by omega) (Nat.le_of_lt SIT3.out.b.2.lt)))
            have z0 := RB.out.r.cell 0 _ rfl
            have z1 := RB.out.r.cell 1 _ rfl
            have z2 := RB.out.r.cell 2 _ rfl
            have z3 := RB.out.r.cell 3 _ rfl
            have z4 := RB.out.r.cell 4 _ rfl
            have z5 := RB.out.r.cell 5 _ rfl
            have z6 := RB.out.r.cell 6 _ rfl
            have z7 := RB.out.r.cell 7 _ rfl
            have z8 := RB.out.r.cell 8 _ rfl
            have z9 := RB.out.r.cell 9 _ rfl
            clear RB TB SIT3 ZB ZN RY RS IV IN NW IN2 OFF y0 y1 y2 y3 y4 y5 y6 y7 y8 y9 T7 XY G1 OL XW ER EVE VL
            refine hide ?_
            iterate 11 go_step
            exact bodyPost_ret (v := .tuple #[.agg #[.slice (some ⟨i1, j1, none⟩) mm.regs.length e1, .int .i64 mm.pc, .slice (some ⟨i2, j2, none⟩) mm.mem.length e2, .int .i64 mm.save, .bool mm.lets, .bool mm.waits, .int .i64 mm.halt, .slice (some ⟨i3, j3, none⟩) mm.ins.length e3, .slice (some ⟨i4, 0, none⟩) mm.outs.length e4, .int .i64 mm.count], .bool kk]) (by rw [EQ.out]; simp [results, Tryz.results6, go_sem, z0, z1, z2, z3, z4, z5, z6, z7, z8, z9]) rfl ⟨IR.out [.slice (some ⟨i1, j1, none⟩) mm.regs.length e1, .int .i64 mm.pc, .slice (some ⟨i2, j2, none⟩) mm.mem.length e2, .int .i64 mm.save, .bool mm.lets, .bool mm.waits, .int .i64 mm.halt, .slice (some ⟨i3, j3, none⟩) mm.ins.length e3, .slice (some ⟨i4, 0, none⟩) mm.outs.length e4, .int .i64 mm.count] _ (fun e => by rw [BOTH.out] at e; cases e) (fun _ => by rw [RD.out]; exact HC9.out), BW9.out⟩
          | false =>
            have RS2 : Hid (R = runM ⟨bp, ln, ops, en, bx, by_, bk⟩ (ops.drop (k + 1)) mm (vs ++ [nw])) := show _ = _ by
              rw [RS.out]
              simp only [runM]
              rw [NW.out]
              rfl
            have IV2 : Hid (Inv mm (vs ++ [nw]) ∧ mm.outs.length ≤ 2000000 + k + 1 ∧ mm.count = count) := ⟨IN2.out.1, by have h8 : oa.length ≤ 2000000 + k := IV.out.2.1; have h9 := IN2.out.2.1; omega, (IN2.out.2.2 rfl).trans IV.out.2.2⟩
            have XB : Hid (Box u3.heap.size 30 [.slice (some ⟨f1, g1, none⟩) ra.length h1, .int .i64 pa, .slice (some ⟨f2, g2, none⟩) ma.length h2, .int .i64 sa, .bool la, .bool wa, .int .i64 ha1, .slice (some ⟨f3, g3, none⟩) ia.length h3, .slice (some ⟨f4, 0, none⟩) oa.length h4, .int .i64 ca] d3) := ⟨SIT3.out.x.1, SIT3.out.x.2⟩
            clear RS IV IN NW IN2 OFF
            go_wp2_with (refine wpList_lay rfl rfl _ _ rfl (u3.heap.size) _ _ _ _ _ _ _ _ _ _ XB.out rfl _ _ _ _ _ _ _ _ _ _ _ _ _ _ _ _ _ _ rfl ?_; intro u9 RB TB; refine Hid.out ?_)
            have SIT4 := hide (Sit.self SIT3.out TB.out NX.out RB.out.r RB.out.t)
            have OV := hide SIT4.out.own
            have HC := hide SIT4.out.mach
            have GN := hide SIT4.out.gn
            have RX := hide SIT4.out.x
            have RB := hide SIT4.out.b
            have RZ := hide SIT4.out.z
            have BW := hide SIT4.out.bw
            have LU := hide SIT4.out.lu
            clear SIT3 SIT4 TB XB RY y0 y1 y2 y3 y4 y5 y6 y7 y8 y9
            refine hide ?_
            have bo := alloc_below u9 (.cells #[.int .i64 nw] 3)
            have VT2 := hide OV.out.isT
            have OW := hide (OV.out.turn (Turn.of_below (B := u9.heap.size) bo) (Nat.ne_of_lt VT2.out.lt) VT2.out.lt)
            have CN : Hid ((u9.alloc (.cells #[.int .i64 nw] 3)).cell? ((⟨u9.heap.size, 0, none⟩ : Addr).add 0) = some (.int .i64 nw)) := show _ = _ by
              rw [Go.WideShapes.add_plain]
              have h9 := World.cell?_alloc_new u9 #[.int .i64 nw] 3 0
              first | exact h9 | simpa using h9
            have LO : Hid (u2.heap.size ≤ (u9.alloc (.cells #[.int .i64 nw] 3)).heap.size) := Nat.le_trans LU.out bo.size
            have VLE : vs.length ≤ 1000000000000 := by rw [VL.out]; omega
            go_wp2_with (at_builtin; refine wpList_push rfl _ _ rfl u2.heap.size g cp vs (by rw [VL.out]; rfl) OW.out LO.out _ nw rfl CN.out VLE ?_; intro g9 c9 u9 ho9 hor9 hlt9 ht9; refine Hid.out ?_)
            have X9 : Hid (u3.heap.size ≠ g ∧ w.heap.size ≠ g ∧ w.heap.size + 1 + 1 ≠ g) := ⟨RX.out.2.ne VT2.out mach_int, RB.out.2.ne VT2.out block_int, RZ.out.2.ne VT2.out mach_int⟩
            have GN9 : Hid (g9 ∉ mb [.slice (some ⟨i1, j1, none⟩) mm.regs.length e1, .int .i64 mm.pc, .slice (some ⟨i2, j2, none⟩) mm.mem.length e2, .int .i64 mm.save, .bool mm.lets, .bool mm.waits, .int .i64 mm.halt, .slice (some ⟨i3, j3, none⟩) mm.ins.length e3, .slice (some ⟨i4, 0, none⟩) mm.outs.length e4, .int .i64 mm.count]) := fun hg => by
              rcases hor9 with e | e
              · exact GN.out (by rw [← e]; exact hg)
              · exact absurd (Nat.lt_of_lt_of_le (HC.out.mb_lt g9 hg).2 bo.size) (Nat.not_lt.2 e)
            have LG : Hid (u2.heap.size ≤ g) := show _ ≤ _ by
              obtain ⟨g', cp', ev, hl, _, _⟩ := OV.out.form (by simp)
              cases ev
              exact hl
            replace HC := hide ((HC.out.below bo).turnI ht9 GN.out)
            replace RX := hide (And.intro ((RX.out.1.below bo).turn ht9 X9.out.1) ((RX.out.2.below bo).turn ht9 X9.out.1))
            replace RB := hide (And.intro ((RB.out.1.below bo).turn ht9 X9.out.2.1) ((RB.out.2.below bo).turn ht9 X9.out.2.1))
            replace RZ := hide (And.intro ((RZ.out.1.below bo).turn ht9 X9.out.2.2) ((RZ.out.2.below bo).turn ht9 X9.out.2.2))
            replace BW := hide ((BW.out.trans (bo.mono BW.out.size)).trans (ht9.below (Nat.le_trans U3.out.1 LG.out) (Nat.le_trans BW.out.size bo.size)))
            replace LU := hide (Nat.le_trans (Nat.le_trans LU.out bo.size) ht9.size)
            have OV9 := hide ho9
            have VL9 : Hid ((vs ++ [nw]).length = k + 1) := show _ = _ by rw [List.length_append, VL.out]; rfl
            clear bo VT2 OW CN LO ho9 hor9 hlt9 ht9 GN OV X9 LG
            refine hide ?_
            go_wp2
            exact ⟨⟨k + 1, g9, c9, vs ++ [nw], [.slice (some ⟨i1, j1, none⟩) mm.regs.length e1, .int .i64 mm.pc, .slice (some ⟨i2, j2, none⟩) mm.mem.length e2, .int .i64 mm.save, .bool mm.lets, .bool mm.waits, .int .i64 mm.halt, .slice (some ⟨i3, j3, none⟩) mm.ins.length e3, .slice (some ⟨i4, 0, none⟩) mm.outs.length e4, .int .i64 mm.count], mm, by omega, by go_num, by rw [VL.out], VL9, OV9, HC, GN9, RX, RB, RZ, BW, RS2, IV2, LU⟩, by simp [intOf]; omega⟩

        · unfold Oper.wpIn
          refine ⟨fun _ _ => trivial, ?_⟩
          go_simp
          have bY := alloc_below d1 (.cells #[.slice none 0 0, .int .i64 0, .slice none 0 0, .int .i64 0, .bool false, .bool false, .int .i64 0, .slice none 0 0, .slice none 0 0, .int .i64 0] 30)
          have RY := hide (And.intro (Rec.new d1 [.slice none 0 0, .int .i64 0, .slice none 0 0, .int .i64 0, .bool false, .bool false, .int .i64 0, .slice none 0 0, .slice none 0 0, .int .i64 0] 30) (IsT.new d1 #[.slice none 0 0, .int .i64 0, .slice none 0 0, .int .i64 0, .bool false, .bool false, .int .i64 0, .slice none 0 0, .slice none 0 0, .int .i64 0] 30))
          have XY : Hid (u3.heap.size ≠ d1.heap.size ∧ w.heap.size + 1 + 1 < d1.heap.size ∧ wr.heap.size ≠ d1.heap.size) := ⟨Nat.ne_of_lt SIT.out.x.1.lt, SIT.out.z.1.lt, Nat.ne_of_lt RO.out.1.lt⟩
          replace SIT := hide (Sit.below SIT.out bY)
          replace RO := hide (And.intro (RO.out.1.below bY) (RO.out.2.below bY))
          clear bY hHeld
          have hHeld : Rec u3.heap.size [.slice (some ⟨f1, g1, none⟩) ra.length h1, .int .i64 pa, .slice (some ⟨f2, g2, none⟩) ma.length h2, .int .i64 sa, .bool la, .bool wa, .int .i64 ha1, .slice (some ⟨f3, g3, none⟩) ia.length h3, .slice (some ⟨f4, 0, none⟩) oa.length h4, .int .i64 ca] (d1.alloc (.cells #[.slice none 0 0, .int .i64 0, .slice none 0 0, .int .i64 0, .bool false, .bool false, .int .i64 0, .slice none 0 0, .slice none 0 0, .int .i64 0] 30)) ∧ Rec wr.heap.size [.int .i64 7, .int .i64 x_, .int .i64 y_, .int .i64 k_, .int .i64 t_] (d1.alloc (.cells #[.slice none 0 0, .int .i64 0, .slice none 0 0, .int .i64 0, .bool false, .bool false, .int .i64 0, .slice none 0 0, .slice none 0 0, .int .i64 0] 30)) ∧ Rec w.heap.size [.int .i64 bp, .int .i64 ln, .slice (some ⟨B, off, none⟩) ops.length cap, .int .i64 en, .int .i64 bx, .int .i64 by_, .int .i64 bk] (d1.alloc (.cells #[.slice none 0 0, .int .i64 0, .slice none 0 0, .int .i64 0, .bool false, .bool false, .int .i64 0, .slice none 0 0, .slice none 0 0, .int .i64 0] 30)) ∧ Row (d1.alloc (.cells #[.slice none 0 0, .int .i64 0, .slice none 0 0, .int .i64 0, .bool false, .bool false, .int .i64 0, .slice none 0 0, .slice none 0 0, .int .i64 0] 30)) g (.slice (some ⟨g, 0, none⟩) k cp) vs := ⟨SIT.out.x.1, RO.out.1, SIT.out.b.1, by have := SIT.out.row; rw [VL.out] at this; exact this⟩
          refine hK _ _ (fun _ => hHeld) ?_
          clear hK K
          try simp only [Act.put, List.setIfInBounds_toArray, List.set]
          generalize d1.alloc (.cells #[.slice none 0 0, .int .i64 0, .slice none 0 0, .int .i64 0, .bool false, .bool false, .int .i64 0, .slice none 0 0, .slice none 0 0, .int .i64 0] 30) = dd at SIT RY RO hHeld ⊢
          generalize d1.heap.size = Y at RY XY ⊢
          refine PhaseIn.one (i := 11) (by kernel_rfl) rfl (by kernel_rfl) (fun K hK => ?_)
          unfold Oper.wpIn
          refine ⟨fun _ _ => trivial, ?_⟩
          go_simp
          refine ⟨rfl, (callsIn_wide.2 (EVE.out _ SIT.out.mach G1.out OL.out (show (4 : Int) ≤ 7 ∧ (7 : Int) ≤ 7 by omega) XW.out T7.out.1 T7.out.2)).mono ?_⟩
          rintro e d2 ⟨c', rfl, hc, hi, ho, hg⟩
          obtain ⟨i1, j1, e1, i2, j2, e2, i3, j3, e3, i4, e4, rfl⟩ := forms hc
          simp only [mv] at hc hi ho hg ⊢
          have SIT2 := hide (Sit.event SIT.out U3.out.1 hi ho hc hg)
          have RO2 := hide (Rec.ints RO.out.1 RO.out.2 op_int hi)
          replace RY := hide (And.intro (Rec.ints RY.out.1 RY.out.2 mach_int hi) (RY.out.2.ints mach_int hi))
          clear hc hi ho hg
          have hHeld2 : Rec u3.heap.size [.slice (some ⟨f1, g1, none⟩) ra.length h1, .int .i64 pa, .slice (some ⟨f2, g2, none⟩) ma.length h2, .int .i64 sa, .bool la, .bool wa, .int .i64 ha1, .slice (some ⟨f3, g3, none⟩) ia.length h3, .slice (some ⟨f4, 0, none⟩) oa.length h4, .int .i64 ca] d2 ∧ Rec wr.heap.size [.int .i64 7, .int .i64 x_, .int .i64 y_, .int .i64 k_, .int .i64 t_] d2 ∧ Rec w.heap.size [.int .i64 bp, .int .i64 ln, .slice (some ⟨B, off, none⟩) ops.length cap, .int .i64 en, .int .i64 bx, .int .i64 by_, .int .i64 bk] d2 ∧ Row d2 g (.slice (some ⟨g, 0, none⟩) k cp) vs := ⟨SIT2.out.x.1, RO2.out, SIT2.out.b.1, by have := SIT2.out.row; rw [VL.out] at this; exact this⟩
          refine hK _ _ (fun _ => hHeld2) ?_
          clear hK K hHeld SIT RO RO2
          try simp only [Act.put, List.setIfInBounds_toArray, List.set]
          refine PhaseIn.takeD (i := 12) (v := ?_) [12, 13, 14, 15, 17, 18, 19] 87 rfl (by rfl) (by kernel_rfl) (by kernel_rfl) (by kernel_rfl) (by kernel_rfl) (by kernel_rfl) (fun _ _ _ h => h) (Or.inl ⟨by kernel_rfl, ?_⟩) hHeld2 ?_
          rotate_left
          · intro w' hSw
            (try dsimp only at hSw)
            go_simp
            first | done | with_reducible rfl
          try simp only [Act.put, List.setIfInBounds_toArray, List.set]
          refine PhaseIn.takeD (i := 13) (v := ?_) [13, 17, 18, 19] 100 rfl (by rfl) (by kernel_rfl) (by kernel_rfl) (by kernel_rfl) (by kernel_rfl) (by kernel_rfl) (fun _ _ _ h => h) (Or.inl ⟨by kernel_rfl, ?_⟩) hHeld2 ?_
          rotate_left
          · intro w' hSw
            (try dsimp only at hSw)
            go_simp
            first | done | with_reducible rfl
          try simp only [Act.put, List.setIfInBounds_toArray, List.set]
          refine PhaseIn.takeD (i := 14) (v := ?_) [14, 18, 19] 101 rfl (by rfl) (by kernel_rfl) (by kernel_rfl) (by kernel_rfl) (by kernel_rfl) (by kernel_rfl) (fun _ _ _ h => h) (Or.inl ⟨by kernel_rfl, ?_⟩) hHeld2 ?_
          rotate_left
          · intro w' hSw
            (try dsimp only at hSw)
            go_simp
            first | done | with_reducible rfl
          try simp only [Act.put, List.setIfInBounds_toArray, List.set]
          refine PhaseIn.takeD (i := 15) (v := ?_) [15, 19] 102 rfl (by rfl) (by kernel_rfl) (by kernel_rfl) (by kernel_rfl) (by kernel_rfl) (by kernel_rfl) (fun _ _ _ h => h) (Or.inl ⟨by kernel_rfl, ?_⟩) hHeld2 ?_
          rotate_left
          · intro w' hSw
            (try dsimp only at hSw)
            go_simp
            first | done | with_reducible rfl
          try simp only [Act.put, List.setIfInBounds_toArray, List.set]
          have z0 := RY.out.1.cell 0 _ rfl
          have s0 := RY.out.1.soft 0
          have z1 := RY.out.1.cell 1 _ rfl
          have s1 := RY.out.1.soft 1
          have z2 := RY.out.1.cell 2 _ rfl
          have s2 := RY.out.1.soft 2
          have z3 := RY.out.1.cell 3 _ rfl
          have s3 := RY.out.1.soft 3
          have z4 := RY.out.1.cell 4 _ rfl
          have s4 := RY.out.1.soft 4
          have z5 := RY.out.1.cell 5 _ rfl
          have s5 := RY.out.1.soft 5
          have z6 := RY.out.1.cell 6 _ rfl
          have s6 := RY.out.1.soft 6
          have z7 := RY.out.1.cell 7 _ rfl
          have s7 := RY.out.1.soft 7
          have z8 := RY.out.1.cell 8 _ rfl
          have s8 := RY.out.1.soft 8
          have z9 := RY.out.1.cell 9 _ rfl
          have s9 := RY.out.1.soft 9
          refine PhaseIn.one (i := 17) (by kernel_rfl) rfl (by kernel_rfl) (fun K hK => ?_)
          unfold Oper.wpIn
          refine ⟨fun _ _ => trivial, ?_⟩
          go_simp
          have SIT3 := hide (Sit.box SIT2.out (turn_ten Y d2 (.slice (some ⟨i1, j1, none⟩) mm.regs.length e1) (.int .i64 mm.pc) (.slice (some ⟨i2, j2, none⟩) mm.mem.length e2) (.int .i64 mm.save) (.bool mm.lets) (.bool mm.waits) (.int .i64 mm.halt) (.slice (some ⟨i3, j3, none⟩) mm.ins.length e3) (.slice (some ⟨i4, 0, none⟩) mm.outs.length e4) (.int .i64 mm.count)) RY.out.2 XY.out.1 XY.out.2.1)
          have hHeld3 : Rec u3.heap.size [.slice (some ⟨f1, g1, none⟩) ra.length h1, .int .i64 pa, .slice (some ⟨f2, g2, none⟩) ma.length h2, .int .i64 sa, .bool la, .bool wa, .int .i64 ha1, .slice (some ⟨f3, g3, none⟩) ia.length h3, .slice (some ⟨f4, 0, none⟩) oa.length h4, .int .i64 ca] ((((((((((d2.setCell ⟨Y, 0, none⟩ (.slice (some ⟨i1, j1, none⟩) mm.regs.length e1)).setCell ⟨Y, 1, none⟩ (.int .i64 mm.pc)).setCell ⟨Y, 2, none⟩ (.slice (some ⟨i2, j2, none⟩) mm.mem.length e2)).setCell ⟨Y, 3, none⟩ (.int .i64 mm.save)).setCell ⟨Y, 4, none⟩ (.bool mm.lets)).setCell ⟨Y, 5, none⟩ (.bool mm.waits)).setCell ⟨Y, 6, none⟩ (.int .i64 mm.halt)).setCell ⟨Y, 7, none⟩ (.slice (some ⟨i3, j3, none⟩) mm.ins.length e3)).setCell ⟨Y, 8, none⟩ (.slice (some ⟨i4, 0, none⟩) mm.outs.length e4)).setCell ⟨Y, 9, none⟩ (.int .i64 mm.count)) ∧ Rec wr.heap.size [.int .i64 7, .int .i64 x_, .int .i64 y_, .int .i64 k_, .int .i64 t_] ((((((((((d2.setCell ⟨Y, 0, none⟩ (.slice (some ⟨i1, j1, none⟩) mm.regs.length e1)).setCell ⟨Y, 1, none⟩ (.int .i64 mm.pc)).setCell ⟨Y, 2, none⟩ (.slice (some ⟨i2, j2, none⟩) mm.mem.length e2)).setCell ⟨Y, 3, none⟩ (.int .i64 mm.save)).setCell ⟨Y, 4, none⟩ (.bool mm.lets)).setCell ⟨Y, 5, none⟩ (.bool mm.waits)).setCell ⟨Y, 6, none⟩ (.int .i64 mm.halt)).setCell ⟨Y, 7, none⟩ (.slice (some ⟨i3, j3, none⟩) mm.ins.length e3)).setCell ⟨Y, 8, none⟩ (.slice (some ⟨i4, 0, none⟩) mm.outs.length e4)).setCell ⟨Y, 9, none⟩ (.int .i64 mm.count)) ∧ Rec w.heap.size [.int .i64 bp, .int .i64 ln, .slice (some ⟨B, off, none⟩) ops.length cap, .int .i64 en, .int .i64 bx, .int .i64 by_, .int .i64 bk] ((((((((((d2.setCell ⟨Y, 0, none⟩ (.slice (some ⟨i1, j1, none⟩) mm.regs.length e1)).setCell ⟨Y, 1, none⟩ (.int .i64 mm.pc)).setCell ⟨Y, 2, none⟩ (.slice (some ⟨i2, j2, none⟩) mm.mem.length e2)).setCell ⟨Y, 3, none⟩ (.int .i64 mm.save)).setCell ⟨Y, 4, none⟩ (.bool mm.lets)).setCell ⟨Y, 5, none⟩ (.bool mm.waits)).setCell ⟨Y, 6, none⟩ (.int .i64 mm.halt)).setCell ⟨Y, 7, none⟩ (.slice (some ⟨i3, j3, none⟩) mm.ins.length e3)).setCell ⟨Y, 8, none⟩ (.slice (some ⟨i4, 0, none⟩) mm.outs.length e4)).setCell ⟨Y, 9, none⟩ (.int .i64 mm.count)) ∧ Row ((((((((((d2.setCell ⟨Y, 0, none⟩ (.slice (some ⟨i1, j1, none⟩) mm.regs.length e1)).setCell ⟨Y, 1, none⟩ (.int .i64 mm.pc)).setCell ⟨Y, 2, none⟩ (.slice (some ⟨i2, j2, none⟩) mm.mem.length e2)).setCell ⟨Y, 3, none⟩ (.int .i64 mm.save)).setCell ⟨Y, 4, none⟩ (.bool mm.lets)).setCell ⟨Y, 5, none⟩ (.bool mm.waits)).setCell ⟨Y, 6, none⟩ (.int .i64 mm.halt)).setCell ⟨Y, 7, none⟩ (.slice (some ⟨i3, j3, none⟩) mm.ins.length e3)).setCell ⟨Y, 8, none⟩ (.slice (some ⟨i4, 0, none⟩) mm.outs.length e4)).setCell ⟨Y, 9, none⟩ (.int .i64 mm.count)) g (.slice (some ⟨g, 0, none⟩) k cp) vs := ⟨SIT3.out.x.1, hHeld2.2.1.turn (turn_ten Y d2 (.slice (some ⟨i1, j1, none⟩) mm.regs.length e1) (.int .i64 mm.pc) (.slice (some ⟨i2, j2, none⟩) mm.mem.length e2) (.int .i64 mm.save) (.bool mm.lets) (.bool mm.waits) (.int .i64 mm.halt) (.slice (some ⟨i3, j3, none⟩) mm.ins.length e3) (.slice (some ⟨i4, 0, none⟩) mm.outs.length e4) (.int .i64 mm.count)) XY.out.2.2, SIT3.out.b.1, by have := SIT3.out.row; rw [VL.out] at this; exact this⟩
          refine hK _ _ (fun _ => hHeld3) ?_
          clear hK K hHeld2 z0 s0 z1 s1 z2 s2 z3 s3 z4 s4 z5 s5 z6 s6 z7 s7 z8 s8 z9 s9
          try simp only [Act.put, List.setIfInBounds_toArray, List.set]
          replace RY := hide (And.intro (rec_ten RY.out.1 (.slice (some ⟨i1, j1, none⟩) mm.regs.length e1) (.int .i64 mm.pc) (.slice (some ⟨i2, j2, none⟩) mm.mem.length e2) (.int .i64 mm.save) (.bool mm.lets) (.bool mm.waits) (.int .i64 mm.halt) (.slice (some ⟨i3, j3, none⟩) mm.ins.length e3) (.slice (some ⟨i4, 0, none⟩) mm.outs.length e4) (.int .i64 mm.count)) (type_ten (Z := Y) RY.out.2 (.slice (some ⟨i1, j1, none⟩) mm.regs.length e1) (.int .i64 mm.pc) (.slice (some ⟨i2, j2, none⟩) mm.mem.length e2) (.int .i64 mm.save) (.bool mm.lets) (.bool mm.waits) (.int .i64 mm.halt) (.slice (some ⟨i3, j3, none⟩) mm.ins.length e3) (.slice (some ⟨i4, 0, none⟩) mm.outs.length e4) (.int .i64 mm.count)))
          clear SIT2
          generalize ((((((((((d2.setCell ⟨Y, 0, none⟩ (.slice (some ⟨i1, j1, none⟩) mm.regs.length e1)).setCell ⟨Y, 1, none⟩ (.int .i64 mm.pc)).setCell ⟨Y, 2, none⟩ (.slice (some ⟨i2, j2, none⟩) mm.mem.length e2)).setCell ⟨Y, 3, none⟩ (.int .i64 mm.save)).setCell ⟨Y, 4, none⟩ (.bool mm.lets)).setCell ⟨Y, 5, none⟩ (.bool mm.waits)).setCell ⟨Y, 6, none⟩ (.int .i64 mm.halt)).setCell ⟨Y, 7, none⟩ (.slice (some ⟨i3, j3, none⟩) mm.ins.length e3)).setCell ⟨Y, 8, none⟩ (.slice (some ⟨i4, 0, none⟩) mm.outs.length e4)).setCell ⟨Y, 9, none⟩ (.int .i64 mm.count)) = d3 at SIT3 RY hHeld3 ⊢
          refine PhaseIn.takeD (i := 18) (v := ?_) [18, 19] 12 rfl (by rfl) (by kernel_rfl) (by kernel_rfl) (by kernel_rfl) (by kernel_rfl) (by kernel_rfl) (fun _ _ _ h => h) (Or.inl ⟨by kernel_rfl, ?_⟩) hHeld3 ?_
          rotate_left
          · intro w' hSw
            (try dsimp only at hSw)
            go_simp
            first | done | with_reducible rfl
          try simp only [Act.put, List.setIfInBounds_toArray, List.set]
          refine PhaseIn.late (i := 19) (v := ?_) (by kernel_rfl) rfl 13 (by rfl) (by omega) (Or.inl ⟨by kernel_rfl, ?_⟩) ?_
          rotate_left
          · intro w' hSw
            go_simp
            first | done | with_reducible rfl
          try simp only [Act.put, List.setIfInBounds_toArray, List.set]
          refine PhaseIn.done (by kernel_rfl) ?_ _
          clear hHeld3
          have y0 := RY.out.1.cell 0 _ rfl
          have y1 := RY.out.1.cell 1 _ rfl
          have y2 := RY.out.1.cell 2 _ rfl
          have y3 := RY.out.1.cell 3 _ rfl
          have y4 := RY.out.1.cell 4 _ rfl
          have y5 := RY.out.1.cell 5 _ rfl
          have y6 := RY.out.1.cell 6 _ rfl
          have y7 := RY.out.1.cell 7 _ rfl
          have y8 := RY.out.1.cell 8 _ rfl
          have y9 := RY.out.1.cell 9 _ rfl
          cases lf with
          | true =>
            have RD : Hid (R = mm) := show _ = _ by
              rw [RS.out]
              simp only [runM]
              rw [NW.out]
              rfl
            have ZB : Hid (Box (w.heap.size + 1 + 1) 30 [.slice none 0 0, .int .i64 0, .slice none 0 0, .int .i64 0, .bool false, .bool false, .int .i64 0, .slice none 0 0, .slice none 0 0, .int .i64 0] d3) := ⟨SIT3.out.z.1, SIT3.out.z.2⟩
            have ZN : Hid (w.heap.size + 1 + 1 ∉ mb [.slice (some ⟨i1, j1, none⟩) mm.regs.length e1, .int .i64 mm.pc, .slice (some ⟨i2, j2, none⟩) mm.mem.length e2, .int .i64 mm.save, .bool mm.lets, .bool mm.waits, .int .i64 mm.halt, .slice (some ⟨i3, j3, none⟩) mm.ins.length e3, .slice (some ⟨i4, 0, none⟩) mm.outs.length e4, .int .i64 mm.count]) := fun e => (SIT3.out.z.2.ne (SIT3.out.mach.mb_int _ e) mach_int) rfl
            go_wp2_with (refine wpList_lay rfl rfl _ _ rfl (w.heap.size + 1 + 1) _ _ _ _ _ _ _ _ _ _ ZB.out rfl _ _ _ _ _ _ _ _ _ _ _ _ _ _ _ _ _ _ rfl ?_; intro u9 RB TB; refine Hid.out ?_)
            have HC9 := hide ((SIT3.out.mach.turnI TB.out ZN.out).lowI U3.out.1)
            have BW9 := hide (SIT3.out.bw.trans (TB.out.below (by omega) (Nat.le_of_lt SIT3.out.b.2.lt)))
            have z0 := RB.out.r.cell 0 _ rfl
            have z1 := RB.out.r.cell 1 _ rfl
            have z2 := RB.out.r.cell 2 _ rfl
            have z3 := RB.out.r.cell 3 _ rfl
            have z4 := RB.out.r.cell 4 _ rfl
            have z5 := RB.out.r.cell 5 _ rfl
            have z6 := RB.out.r.cell 6 _ rfl
            have z7 := RB.out.r.cell 7 _ rfl
            have z8 := RB.out.r.cell 8 _ rfl
            have z9 := RB.out.r.cell 9 _ rfl
            clear RB TB SIT3 ZB ZN RY RS IV IN NW IN2 OFF y0 y1 y2 y3 y4 y5 y6 y7 y8 y9 T7 XY G1 OL XW ER EVE VL
            refine hide ?_
            iterate 11 go_step
            exact bodyPost_ret (v := .tuple #[.agg #[.slice (some ⟨i1, j1, none⟩) mm.regs.length e1, .int .i64 mm.pc, .slice (some ⟨i2, j2, none⟩) mm.mem.length e2, .int .i64 mm.save, .bool mm.lets, .bool mm.waits, .int .i64 mm.halt, .slice (some ⟨i3, j3, none⟩) mm.ins.length e3, .slice (some ⟨i4, 0, none⟩) mm.outs.length e4, .int .i64 mm.count], .bool kk]) (by rw [EQ.out]; simp [results, Tryz.results6, go_sem, z0, z1, z2, z3, z4, z5, z6, z7, z8, z9]) rfl ⟨IR.out [.slice (some ⟨i1, j1, none⟩) mm.regs.length e1, .int .i64 mm.pc, .slice (some ⟨i2, j2, none⟩) mm.mem.length e2, .int .i64 mm.save, .bool mm.lets, .bool mm.waits, .int .i64 mm.halt, .slice (some ⟨i3, j3, none⟩) mm.ins.length e3, .slice (some ⟨i4, 0, none⟩) mm.outs.length e4, .int .i64 mm.count] _ (fun e => by rw [BOTH.out] at e; cases e) (fun _ => by rw [RD.out]; exact HC9.out), BW9.out⟩
          | false =>
            have RS2 : Hid (R = runM ⟨bp, ln, ops, en, bx, by_, bk⟩ (ops.drop (k + 1)) mm (vs ++ [nw])) := show _ = _ by
              rw [RS.out]
              simp only [runM]
              rw [NW.out]
              rfl
            have IV2 : Hid (Inv mm (vs ++ [nw]) ∧ mm.outs.length ≤ 2000000 + k + 1 ∧ mm.count = count) := ⟨IN2.out.1, by have h8 : oa.length ≤ 2000000 + k := IV.out.2.1; have h9 := IN2.out.2.1; omega, (IN2.out.2.2 rfl).trans IV.out.2.2⟩
            have XB : Hid (Box u3.heap.size 30 [.slice (some ⟨f1, g1, none⟩) ra.length h1, .int .i64 pa, .slice (some ⟨f2, g2, none⟩) ma.length h2, .int .i64 sa, .bool la, .bool wa, .int .i64 ha1, .slice (some ⟨f3, g3, none⟩) ia.length h3, .slice (some ⟨f4, 0, none⟩) oa.length h4, .int .i64 ca] d3) := ⟨SIT3.out.x.1, SIT3.out.x.2⟩
            clear RS IV IN NW IN2 OFF
            go_wp2_with (refine wpList_lay rfl rfl _ _ rfl (u3.heap.size) _ _ _ _ _ _ _ _ _ _ XB.out rfl _ _ _ _ _ _ _ _ _ _ _ _ _ _ _ _ _ _ rfl ?_; intro u9 RB TB; refine Hid.out ?_)
            have SIT4 := hide (Sit.self SIT3.out TB.out NX.out RB.out.r RB.out.t)
            have OV := hide SIT4.out.own
            have HC := hide SIT4.out.mach
            have GN := hide SIT4.out.gn
            have RX := hide SIT4.out.x
            have RB := hide SIT4.out.b
            have RZ := hide SIT4.out.z
            have BW := hide SIT4.out.bw
            have LU := hide SIT4.out.lu
            clear SIT3 SIT4 TB XB RY y0 y1 y2 y3 y4 y5 y6 y7 y8 y9
            refine hide ?_
            have bo := alloc_below u9 (.cells #[.int .i64 nw] 3)
            have VT2 := hide OV.out.isT
            have OW := hide (OV.out.turn (Turn.of_below (B := u9.heap.size) bo) (Nat.ne_of_lt VT2.out.lt) VT2.out.lt)
            have CN : Hid ((u9.alloc (.cells #[.int .i64 nw] 3)).cell? ((⟨u9.heap.size, 0, none⟩ : Addr).add 0) = some (.int .i64 nw)) := show _ = _ by
              rw [Go.WideShapes.add_plain]
              have h9 := World.cell?_alloc_new u9 #[.int .i64 nw] 3 0
              first | exact h9 | simpa using h9
            have LO : Hid (u2.heap.size ≤ (u9.alloc (.cells #[.int .i64 nw] 3)).heap.size) := Nat.le_trans LU.out bo.size
            have VLE : vs.length ≤ 1000000000000 := by rw [VL.out]; omega
            go_wp2_with (at_builtin; refine wpList_push rfl _ _ rfl u2.heap.size g cp vs (by rw [VL.out]; rfl) OW.out LO.out _ nw rfl CN.out VLE ?_; intro g9 c9 u9 ho9 hor9 hlt9 ht9; refine Hid.out ?_)
            have X9 : Hid (u3.heap.size ≠ g ∧ w.heap.size ≠ g ∧ w.heap.size + 1 + 1 ≠ g) := ⟨RX.out.2.ne VT2.out mach_int, RB.out.2.ne VT2.out block_int, RZ.out.2.ne VT2.out mach_int⟩
            have GN9 : Hid (g9 ∉ mb [.slice (some ⟨i1, j1, none⟩) mm.regs.length e1, .int .i64 mm.pc, .slice (some ⟨i2, j2, none⟩) mm.mem.length e2, .int .i64 mm.save, .bool mm.lets, .bool mm.waits, .int .i64 mm.halt, .slice (some ⟨i3, j3, none⟩) mm.ins.length e3, .slice (some ⟨i4, 0, none⟩) mm.outs.length e4, .int .i64 mm.count]) := fun hg => by
              rcases hor9 with e | e
              · exact GN.out (by rw [← e]; exact hg)
              · exact absurd (Nat.lt_of_lt_of_le (HC.out.mb_lt g9 hg).2 bo.size) (Nat.not_lt.2 e)
            have LG : Hid (u2.heap.size ≤ g) := show _ ≤ _ by
              obtain ⟨g', cp', ev, hl, _, _⟩ := OV.out.form (by simp)
              cases ev
              exact hl
            replace HC := hide ((HC.out.below bo).turnI ht9 GN.out)
            replace RX := hide (And.intro ((RX.out.1.below bo).turn ht9 X9.out.1) ((RX.out.2.below bo).turn ht9 X9.out.1))
            replace RB := hide (And.intro ((RB.out.1.below bo).turn ht9 X9.out.2.1) ((RB.out.2.below bo).turn ht9 X9.out.2.1))
            replace RZ := hide (And.intro ((RZ.out.1.below bo).turn ht9 X9.out.2.2) ((RZ.out.2.below bo).turn ht9 X9.out.2.2))
            replace BW := hide ((BW.out.trans (bo.mono BW.out.size)).trans (ht9.below (Nat.le_trans U3.out.1 LG.out) (Nat.le_trans BW.out.size bo.size)))
            replace LU := hide (Nat.le_trans (Nat.le_trans LU.out bo.size) ht9.size)
            have OV9 := hide ho9
            have VL9 : Hid ((vs ++ [nw]).length = k + 1) := show _ = _ by rw [List.length_append, VL.out]; rfl
            clear bo VT2 OW CN LO ho9 hor9 hlt9 ht9 GN OV X9 LG
            refine hide ?_
            go_wp2
            exact ⟨⟨k + 1, g9, c9, vs ++ [nw], [.slice (some ⟨i1, j1, none⟩) mm.regs.length e1, .int .i64 mm.pc, .slice (some ⟨i2, j2, none⟩) mm.mem.length e2, .int .i64 mm.save, .bool mm.lets, .bool mm.waits, .int .i64 mm.halt, .slice (some ⟨i3, j3, none⟩) mm.ins.length e3, .slice (some ⟨i4, 0, none⟩) mm.outs.length e4, .int .i64 mm.count], mm, by omega, by go_num, by rw [VL.out], VL9, OV9, HC, GN9, RX, RB, RZ, BW, RS2, IV2, LU⟩, by simp [intOf]; omega⟩

    · have kn8 : (kd == 8) = false := by simp; omega
      have kn4 : (kd == 4) = false := by simp; omega
      have kn5 : (kd == 5) = false := by simp; omega
      have kn6 : (kd == 6) = false := by simp; omega
      have kn7 : (kd == 7) = false := by simp; omega
      have NW : Hid ((stepM ⟨bp, ln, ops, en, bx, by_, bk⟩ ⟨ra, pa, ma, sa, la, wa, ha1, ia, oa, ca⟩ vs ⟨kd, x_, y_, k_, t_⟩) = (⟨ra, pa, ma, sa, la, wa, ha1, ia, oa, ca⟩, (wordM ⟨ra, pa, ma, sa, la, wa, ha1, ia, oa, ca⟩ ⟨kd, x_, y_, k_, t_⟩ (atI vs x_) (atI vs y_)), false)) := show _ = _ by
        unfold stepM
        rw [if_neg (show ¬ kd = 8 by omega), if_neg (show ¬ (4 ≤ kd ∧ kd ≤ 7) by omega)]
      have RS2 : Hid (R = runM ⟨bp, ln, ops, en, bx, by_, bk⟩ (ops.drop (k + 1)) ⟨ra, pa, ma, sa, la, wa, ha1, ia, oa, ca⟩ (vs ++ [(wordM ⟨ra, pa, ma, sa, la, wa, ha1, ia, oa, ca⟩ ⟨kd, x_, y_, k_, t_⟩ (atI vs x_) (atI vs y_))])) := show _ = _ by
        rw [RS.out]
        simp only [runM]
        rw [NW.out]
        rfl
      have IV2 : Hid (Inv ⟨ra, pa, ma, sa, la, wa, ha1, ia, oa, ca⟩ (vs ++ [(wordM ⟨ra, pa, ma, sa, la, wa, ha1, ia, oa, ca⟩ ⟨kd, x_, y_, k_, t_⟩ (atI vs x_) (atI vs y_))]) ∧ oa.length ≤ 2000000 + k + 1 ∧ ca = count) := by
        have h9 := IN.out.1
        rw [NW.out] at h9
        exact ⟨h9, by have h8 : oa.length ≤ 2000000 + k := IV.out.2.1; omega, IV.out.2.2⟩
      have R4 : Hid (ra.length = 4) := IV.out.1.regs
      have HW := hide hwd
      clear RS IV IN NW hwd
      go_wp2_with fail
      refine (wpIn_wide (n := 0)).1 ?_
      generalize (wr.alloc (.cells #[.int .i64 kd, .int .i64 x_, .int .i64 y_, .int .i64 k_, .int .i64 t_] 49)) = d0 at RX RB RZ RO OV HC BW LU ⊢
      have bA : Below d0.heap.size d0 d0.drew := (Below.refl _ _).drew
      have VT := hide OV.out.isT
      replace RX := hide (And.intro (RX.out.1.below bA) (RX.out.2.below bA))
      replace RB := hide (And.intro (RB.out.1.below bA) (RB.out.2.below bA))
      replace RZ := hide (And.intro (RZ.out.1.below bA) (RZ.out.2.below bA))
      replace RO := hide (RO.out.1.below bA)
      replace OV := hide (OV.out.turn (Turn.of_below (B := d0.heap.size) bA) (Nat.ne_of_lt VT.out.lt) VT.out.lt)
      replace HC := hide (HC.out.below bA)
      replace BW := hide (BW.out.trans (bA.mono BW.out.size))
      replace LU := hide (Nat.le_trans LU.out bA.size)
      clear bA VT
      refine PhaseIn.region (S := fun d1 => Rec u3.heap.size [.slice (some ⟨f1, g1, none⟩) ra.length h1, .int .i64 pa, .slice (some ⟨f2, g2, none⟩) ma.length h2, .int .i64 sa, .bool la, .bool wa, .int .i64 ha1, .slice (some ⟨f3, g3, none⟩) ia.length h3, .slice (some ⟨f4, 0, none⟩) oa.length h4, .int .i64 ca] d1 ∧ Rec wr.heap.size [.int .i64 kd, .int .i64 x_, .int .i64 y_, .int .i64 k_, .int .i64 t_] d1 ∧ True) 12 (by kernel_rfl) ?_
      generalize d0.drew = d1 at RX RB RZ RO OV HC BW LU ⊢
      have hHeld : Rec u3.heap.size [.slice (some ⟨f1, g1, none⟩) ra.length h1, .int .i64 pa, .slice (some ⟨f2, g2, none⟩) ma.length h2, .int .i64 sa, .bool la, .bool wa, .int .i64 ha1, .slice (some ⟨f3, g3, none⟩) ia.length h3, .slice (some ⟨f4, 0, none⟩) oa.length h4, .int .i64 ca] d1 ∧ Rec wr.heap.size [.int .i64 kd, .int .i64 x_, .int .i64 y_, .int .i64 k_, .int .i64 t_] d1 ∧ True := ⟨RX.out.1, RO.out, trivial⟩
      have VR0 := OV.out.form (by simp)
      obtain ⟨g', cp', ev, _, _, VW⟩ := VR0
      cases ev
      rw [VL.out] at VW
      have VR := hide VW.row
      clear VW
      refine PhaseIn.takeD (i := 0) (v := ?_) [0, 10, 11] 59 rfl (by rfl) (by kernel_rfl) (by kernel_rfl) (by kernel_rfl) (by kernel_rfl) (by kernel_rfl) (fun _ _ _ h => h) (Or.inl ⟨by kernel_rfl, ?_⟩) hHeld ?_
      rotate_left
      · intro w' hSw
        (try dsimp only at hSw)
        have z0 := hSw.1.cell 0 _ rfl; have z1 := hSw.1.cell 1 _ rfl; have z2 := hSw.1.cell 2 _ rfl; have z3 := hSw.1.cell 3 _ rfl; have z4 := hSw.1.cell 4 _ rfl; have z5 := hSw.1.cell 5 _ rfl; have z6 := hSw.1.cell 6 _ rfl; have z7 := hSw.1.cell 7 _ rfl; have z8 := hSw.1.cell 8 _ rfl; have z9 := hSw.1.cell 9 _ rfl
        go_simp
        first | done | with_reducible rfl
      try simp only [Act.put, List.setIfInBounds_toArray, List.set]
      refine PhaseIn.takeD (i := 1) (v := ?_) [1, 10, 11] 60 rfl (by rfl) (by kernel_rfl) (by kernel_rfl) (by kernel_rfl) (by kernel_rfl) (by kernel_rfl) (fun _ _ _ h => h) (Or.inl ⟨by kernel_rfl, ?_⟩) hHeld ?_
      rotate_left
      · intro w' hSw
        (try dsimp only at hSw)
        have z0 := hSw.2.1.cell 0 _ rfl; have z1 := hSw.2.1.cell 1 _ rfl; have z2 := hSw.2.1.cell 2 _ rfl; have z3 := hSw.2.1.cell 3 _ rfl; have z4 := hSw.2.1.cell 4 _ rfl
        go_simp
        first | done | with_reducible rfl
      try simp only [Act.put, List.setIfInBounds_toArray, List.set]
      refine PhaseIn.takeD (i := 2) (v := ?_) [2, 5, 9, 10, 11] 61 rfl (by rfl) (by kernel_rfl) (by kernel_rfl) (by kernel_rfl) (by kernel_rfl) (by kernel_rfl) (fun _ _ _ h => h) (Or.inl ⟨by kernel_rfl, ?_⟩) hHeld ?_
      rotate_left
      · intro w' hSw
        (try dsimp only at hSw)
        go_simp
        first | done | with_reducible rfl
      try simp only [Act.put, List.setIfInBounds_toArray, List.set]
      refine PhaseIn.takeD (i := 3) (v := ?_) [3, 4, 5, 9, 10, 11] 62 rfl (by rfl) (by kernel_rfl) (by kernel_rfl) (by kernel_rfl) (by kernel_rfl) (by kernel_rfl) (fun _ _ _ h => h) (Or.inl ⟨by kernel_rfl, ?_⟩) hHeld ?_
      rotate_left
      · intro w' hSw
        (try dsimp only at hSw)
        go_simp
        first | done | with_reducible rfl
      try simp only [Act.put, List.setIfInBounds_toArray, List.set]
      refine PhaseIn.takeD (i := 4) (v := ?_) [4, 5, 9, 10, 11] 63 rfl (by rfl) (by kernel_rfl) (by kernel_rfl) (by kernel_rfl) (by kernel_rfl) (by kernel_rfl) (fun _ _ _ h => h) (Or.inl ⟨by kernel_rfl, ?_⟩) hHeld ?_
      rotate_left
      · intro w' hSw
        (try dsimp only at hSw)
        have z1 := hSw.2.1.cell 1 _ rfl
        go_simp
        first | done | with_reducible rfl
      try simp only [Act.put, List.setIfInBounds_toArray, List.set]
      refine PhaseIn.takeD (i := 6) (v := ?_) [6, 9, 10, 11] 65 rfl (by rfl) (by kernel_rfl) (by kernel_rfl) (by kernel_rfl) (by kernel_rfl) (by kernel_rfl) (fun _ _ _ h => h) (Or.inl ⟨by kernel_rfl, ?_⟩) hHeld ?_
      rotate_left
      · intro w' hSw
        (try dsimp only at hSw)
        go_simp
        first | done | with_reducible rfl
      try simp only [Act.put, List.setIfInBounds_toArray, List.set]
      refine PhaseIn.takeD (i := 7) (v := ?_) [7, 8, 9, 10, 11] 66 rfl (by rfl) (by kernel_rfl) (by kernel_rfl) (by kernel_rfl) (by kernel_rfl) (by kernel_rfl) (fun _ _ _ h => h) (Or.inl ⟨by kernel_rfl, ?_⟩) hHeld ?_
      rotate_left
      · intro w' hSw
        (try dsimp only at hSw)
        go_simp
        first | done | with_reducible rfl
      try simp only [Act.put, List.setIfInBounds_toArray, List.set]
      refine PhaseIn.takeD (i := 8) (v := ?_) [8, 9, 10, 11] 67 rfl (by rfl) (by kernel_rfl) (by kernel_rfl) (by kernel_rfl) (by kernel_rfl) (by kernel_rfl) (fun _ _ _ h => h) (Or.inl ⟨by kernel_rfl, ?_⟩) hHeld ?_
      rotate_left
      · intro w' hSw
        (try dsimp only at hSw)
        have z2 := hSw.2.1.cell 2 _ rfl
        go_simp
        first | done | with_reducible rfl
      try simp only [Act.put, List.setIfInBounds_toArray, List.set]
      refine PhaseIn.one (i := 5) (by kernel_rfl) rfl (by kernel_rfl) (fun K hK => ?_)
      unfold Oper.wpIn
      refine ⟨fun _ _ => trivial, ?_⟩
      go_simp
      refine ⟨rfl, (callsIn_wide.2 (l5At vs x_ OFF.out.x.1 (by have := OFF.out.x.2; simp only [] at this; omega) _ _ _ VR.out)).mono ?_⟩
      rintro e u ⟨rfl, hu⟩
      replace hu := hu.symm
      subst hu
      refine hK _ _ (fun _ => hHeld) ?_
      clear hK K
      try simp only [Act.put, List.setIfInBounds_toArray, List.set]
      refine PhaseIn.one (i := 9) (by kernel_rfl) rfl (by kernel_rfl) (fun K hK => ?_)
      unfold Oper.wpIn
      refine ⟨fun _ _ => trivial, ?_⟩
      go_simp
      refine ⟨rfl, (callsIn_wide.2 (l5At vs y_ OFF.out.y.1 (by have := OFF.out.y.2; simp only [] at this; omega) _ _ _ VR.out)).mono ?_⟩
      rintro e u ⟨rfl, hu⟩
      replace hu := hu.symm
      subst hu
      refine hK _ _ (fun _ => hHeld) ?_
      clear hK K
      try simp only [Act.put, List.setIfInBounds_toArray, List.set]
      refine PhaseIn.one (i := 10) (by kernel_rfl) rfl (by kernel_rfl) (fun K hK => ?_)
      unfold Oper.wpIn
      refine ⟨fun _ _ => trivial, ?_⟩
      go_simp
      refine ⟨rfl, (callsIn_wide.2 (l6Word ⟨ra, pa, ma, sa, la, wa, ha1, ia, oa, ca⟩ ⟨kd, x_, y_, k_, t_⟩ (atI vs x_) (atI vs y_) _ _ _ HC.out R4.out HW.out OFF.out.k2)).mono ?_⟩
      rintro e dd ⟨rfl, hb⟩
      have VT := hide OV.out.isT
      have hHeld2 : Rec u3.heap.size [.slice (some ⟨f1, g1, none⟩) ra.length h1, .int .i64 pa, .slice (some ⟨f2, g2, none⟩) ma.length h2, .int .i64 sa, .bool la, .bool wa, .int .i64 ha1, .slice (some ⟨f3, g3, none⟩) ia.length h3, .slice (some ⟨f4, 0, none⟩) oa.length h4, .int .i64 ca] dd ∧ Rec wr.heap.size [.int .i64 kd, .int .i64 x_, .int .i64 y_, .int .i64 k_, .int .i64 t_] dd ∧ True := ⟨RX.out.1.below hb, RO.out.below hb, trivial⟩
      refine hK _ _ (fun _ => hHeld2) ?_
      replace RX := hide (And.intro (RX.out.1.below hb) (RX.out.2.below hb))
      replace RB := hide (And.intro (RB.out.1.below hb) (RB.out.2.below hb))
      replace RZ := hide (And.intro (RZ.out.1.below hb) (RZ.out.2.below hb))
      replace OV := hide (OV.out.turn (Turn.of_below (B := d1.heap.size) hb) (Nat.ne_of_lt VT.out.lt) VT.out.lt)
      replace HC := hide (HC.out.below hb)
      replace BW := hide (BW.out.trans (hb.mono BW.out.size))
      replace LU := hide (Nat.le_trans LU.out hb.size)
      clear hK K hb VT hHeld VR
      try simp only [Act.put, List.setIfInBounds_toArray, List.set]
      refine PhaseIn.takeD (i := 11) (v := ?_) [11] 10 rfl (by rfl) (by kernel_rfl) (by kernel_rfl) (by kernel_rfl) (by kernel_rfl) (by kernel_rfl) (fun _ _ _ h => h) (Or.inl ⟨by kernel_rfl, ?_⟩) hHeld2 ?_
      rotate_left
      · intro w' hSw
        (try dsimp only at hSw)
        go_simp
        first | done | with_reducible rfl
      try simp only [Act.put, List.setIfInBounds_toArray, List.set]
      refine PhaseIn.done (by kernel_rfl) ?_ _
      clear hHeld2 RO
      have bo := alloc_below dd (.cells #[.int .i64 (wordM ⟨ra, pa, ma, sa, la, wa, ha1, ia, oa, ca⟩ ⟨kd, x_, y_, k_, t_⟩ (atI vs x_) (atI vs y_))] 3)
      have VT2 := hide OV.out.isT
      have OW := hide (OV.out.turn (Turn.of_below (B := dd.heap.size) bo) (Nat.ne_of_lt VT2.out.lt) VT2.out.lt)
      have CN : Hid ((dd.alloc (.cells #[.int .i64 (wordM ⟨ra, pa, ma, sa, la, wa, ha1, ia, oa, ca⟩ ⟨kd, x_, y_, k_, t_⟩ (atI vs x_) (atI vs y_))] 3)).cell? ((⟨dd.heap.size, 0, none⟩ : Addr).add 0) = some (.int .i64 (wordM ⟨ra, pa, ma, sa, la, wa, ha1, ia, oa, ca⟩ ⟨kd, x_, y_, k_, t_⟩ (atI vs x_) (atI vs y_)))) := show _ = _ by
        rw [Go.WideShapes.add_plain]
        have h9 := World.cell?_alloc_new dd #[.int .i64 (wordM ⟨ra, pa, ma, sa, la, wa, ha1, ia, oa, ca⟩ ⟨kd, x_, y_, k_, t_⟩ (atI vs x_) (atI vs y_))] 3 0
        first | exact h9 | simpa using h9
      have LO : Hid (u2.heap.size ≤ (dd.alloc (.cells #[.int .i64 (wordM ⟨ra, pa, ma, sa, la, wa, ha1, ia, oa, ca⟩ ⟨kd, x_, y_, k_, t_⟩ (atI vs x_) (atI vs y_))] 3)).heap.size) := Nat.le_trans LU.out bo.size
      have VLE : vs.length ≤ 1000000000000 := by rw [VL.out]; omega
      go_wp2_with (at_builtin; refine wpList_push rfl _ _ rfl u2.heap.size g cp vs (by rw [VL.out]; rfl) OW.out LO.out _ (wordM ⟨ra, pa, ma, sa, la, wa, ha1, ia, oa, ca⟩ ⟨kd, x_, y_, k_, t_⟩ (atI vs x_) (atI vs y_)) rfl CN.out VLE ?_; intro g9 c9 u9 ho9 hor9 hlt9 ht9; refine Hid.out ?_)
      have X9 : Hid (u3.heap.size ≠ g ∧ w.heap.size ≠ g ∧ w.heap.size + 1 + 1 ≠ g) := ⟨RX.out.2.ne VT2.out mach_int, RB.out.2.ne VT2.out block_int, RZ.out.2.ne VT2.out mach_int⟩
      have GN9 : Hid (g9 ∉ mb [.slice (some ⟨f1, g1, none⟩) ra.length h1, .int .i64 pa, .slice (some ⟨f2, g2, none⟩) ma.length h2, .int .i64 sa, .bool la, .bool wa, .int .i64 ha1, .slice (some ⟨f3, g3, none⟩) ia.length h3, .slice (some ⟨f4, 0, none⟩) oa.length h4, .int .i64 ca]) := fun hg => by
        rcases hor9 with e | e
        · exact GN.out (by rw [← e]; exact hg)
        · exact absurd (Nat.lt_of_lt_of_le (HC.out.mb_lt g9 hg).2 bo.size) (Nat.not_lt.2 e)
      have LG : Hid (u2.heap.size ≤ g) := show _ ≤ _ by
        obtain ⟨g', cp', ev, hl, _, _⟩ := OV.out.form (by simp)
        cases ev
        exact hl
      replace HC := hide ((HC.out.below bo).turnI ht9 GN.out)
      replace RX := hide (And.intro ((RX.out.1.below bo).turn ht9 X9.out.1) ((RX.out.2.below bo).turn ht9 X9.out.1))
      replace RB := hide (And.intro ((RB.out.1.below bo).turn ht9 X9.out.2.1) ((RB.out.2.below bo).turn ht9 X9.out.2.1))
      replace RZ := hide (And.intro ((RZ.out.1.below bo).turn ht9 X9.out.2.2) ((RZ.out.2.below bo).turn ht9 X9.out.2.2))
      replace BW := hide ((BW.out.trans (bo.mono BW.out.size)).trans (ht9.below (Nat.le_trans U3.out.1 LG.out) (Nat.le_trans BW.out.size bo.size)))
      replace LU := hide (Nat.le_trans (Nat.le_trans LU.out bo.size) ht9.size)
      have OV9 := hide ho9
      have VL9 : Hid ((vs ++ [(wordM ⟨ra, pa, ma, sa, la, wa, ha1, ia, oa, ca⟩ ⟨kd, x_, y_, k_, t_⟩ (atI vs x_) (atI vs y_))]).length = k + 1) := show _ = _ by rw [List.length_append, VL.out]; rfl
      clear bo VT2 OW CN LO ho9 hor9 hlt9 ht9 GN OV X9 LG
      refine hide ?_
      go_wp2
      exact ⟨⟨k + 1, g9, c9, vs ++ [(wordM ⟨ra, pa, ma, sa, la, wa, ha1, ia, oa, ca⟩ ⟨kd, x_, y_, k_, t_⟩ (atI vs x_) (atI vs y_))], [.slice (some ⟨f1, g1, none⟩) ra.length h1, .int .i64 pa, .slice (some ⟨f2, g2, none⟩) ma.length h2, .int .i64 sa, .bool la, .bool wa, .int .i64 ha1, .slice (some ⟨f3, g3, none⟩) ia.length h3, .slice (some ⟨f4, 0, none⟩) oa.length h4, .int .i64 ca], ⟨ra, pa, ma, sa, la, wa, ha1, ia, oa, ca⟩, by omega, by go_num, by rw [VL.out], VL9, OV9, HC, GN9, RX, RB, RZ, BW, RS2, IV2, LU⟩, by simp [intOf]; omega⟩

end Go.Proofs.YtaokopipgolmbaaGreatDoor.Ir
